/- The walks of the order of numbers: amounts. The walks of the order of numbers: amounts. The walks of the order of numbers: amounts. The order of numbers. The walks of the order of numbers. -/
import Derived.Test.YtahpdcbmekgkfaaGreatDoorTMF

namespace Go.Proofs.YtahpdcbmekgkfaaGreatDoor
open Go.RowKit
set_option maxRecDepth 100000 in
set_option maxHeartbeats 2000000 in
theorem amt_tops (sx : Bool) (ax : Option Addr) (nx cx : Nat) (mx : Nat) (ex : Int) (sy : Bool) (ay : Option Addr) (ny cy : Nat) (my : Nat) (ey : Int) (w : World) (hIx : IsW w ax nx cx (wO mx)) (hnx : nx ≤ 1024) (hgx : greatB mx = false) (hex : -100000000 ≤ ex ∧ ex ≤ 100000000) (hIy : IsW w ay ny cy (wO my)) (hny : ny ≤ 1024) (hgy : greatB my = false) (hey : -100000000 ≤ ey ∧ ey ≤ 100000000) (ht : ex + (blen mx : Int) - 1 ≠ ey + (blen my : Int) - 1) :
  Calls Tryz.prog 180 #[numV sx ax nx cx ex false, numV sy ay ny cy ey false] w fun r w' => r = .returned (.int .i64 (Lib.compareInt (ex + (blen mx : Int) - 1) (ey + (blen my : Int) - 1))) ∧ Below w.heap.size w w' := by
 obtain ⟨hex1, hex2⟩ := hex
 obtain ⟨hey1, hey2⟩ := hey
 have HGx : Hid (greatB mx = false) := hgx
 have HGy : Hid (greatB my = false) := hgy
 have HEx : Hid (-4611686018427387904 ≤ ex ∧ ex ≤ 4611686018427387904) := by rw [Hid]; omega
 have HEy : Hid (-4611686018427387904 ≤ ey ∧ ey ≤ 4611686018427387904) := by rw [Hid]; omega
 have hblx : blen mx ≤ 65536 := (great_not _).1 hgx
 have hbly : blen my ≤ 65536 := (great_not _).1 hgy
 have htt : (ex + (blen mx : Int) - 1 == ey + (blen my : Int) - 1) = false := by simpa using ht
 clear hgx hgy ht
 go_enter Tryz.func180, Tryz.ntmps180
 go_wp2_with fail
 go_region_with (first
  | (go_at_call 206; refine calls_guard #[numV sx ax nx cx ex false] ?_ ?_; (focus rfl); refine (top_calls sx ax nx cx mx ex false _ (hIx.keep (by repeat (first | exact hbwY | exact Below.refl _ _ | apply Below.drew | refine Below.alloc ?_ (by simp; try omega) _))) hnx HGx.out HEx.out).mono ?_; rintro r wX ⟨rfl, hbX⟩; have hbwX : Below w.heap.size w wX := nT (by repeat (first | exact hbwY | exact Below.refl _ _ | apply Below.drew | refine Below.alloc ?_ (by simp; try omega) _)) hbX; have hbzX : Below ((w.alloc (.cells #[.bool sx, .slice ax nx cx, .int .i64 ex, .bool false] 109)).alloc (.cells #[.bool sy, .slice ay ny cy, .int .i64 ey, .bool false] 109)).heap.size ((w.alloc (.cells #[.bool sx, .slice ax nx cx, .int .i64 ex, .bool false] 109)).alloc (.cells #[.bool sy, .slice ay ny cy, .int .i64 ey, .bool false] 109)) wX := nT (by repeat (first | exact hbzY | exact Below.refl _ _ | apply Below.drew | refine Below.alloc ?_ (by simp; try omega) _)) hbX; have qXx0 : wX.cell? ⟨w.heap.size, 0, none⟩ = some (.bool sx) := kC hbzX (by go_simp); have qXx1 : wX.cell? ⟨w.heap.size, 1, none⟩ = some (.slice ax nx cx) := kC hbzX (by go_simp); have qXx2 : wX.cell? ⟨w.heap.size, 2, none⟩ = some (.int .i64 ex) := kC hbzX (by go_simp); have qXx3 : wX.cell? ⟨w.heap.size, 3, none⟩ = some (.bool false) := kC hbzX (by go_simp); have qXy0 : wX.cell? ⟨w.heap.size + 1, 0, none⟩ = some (.bool sy) := kC hbzX (by go_simp); have qXy1 : wX.cell? ⟨w.heap.size + 1, 1, none⟩ = some (.slice ay ny cy) := kC hbzX (by go_simp); have qXy2 : wX.cell? ⟨w.heap.size + 1, 2, none⟩ = some (.int .i64 ey) := kC hbzX (by go_simp); have qXy3 : wX.cell? ⟨w.heap.size + 1, 3, none⟩ = some (.bool false) := kC hbzX (by go_simp))
  | (go_at_call 206; refine calls_guard #[numV sy ay ny cy ey false] ?_ ?_; (focus rfl); refine (top_calls sy ay ny cy my ey false _ (hIy.keep (by repeat (first | exact hbwX | exact Below.refl _ _ | apply Below.drew | refine Below.alloc ?_ (by simp; try omega) _))) hny HGy.out HEy.out).mono ?_; rintro r wY ⟨rfl, hbY⟩; have hbwY : Below w.heap.size w wY := nT (by repeat (first | exact hbwX | exact Below.refl _ _ | apply Below.drew | refine Below.alloc ?_ (by simp; try omega) _)) hbY; have hbzY : Below ((w.alloc (.cells #[.bool sx, .slice ax nx cx, .int .i64 ex, .bool false] 109)).alloc (.cells #[.bool sy, .slice ay ny cy, .int .i64 ey, .bool false] 109)).heap.size ((w.alloc (.cells #[.bool sx, .slice ax nx cx, .int .i64 ex, .bool false] 109)).alloc (.cells #[.bool sy, .slice ay ny cy, .int .i64 ey, .bool false] 109)) wY := nT (by repeat (first | exact hbzX | exact Below.refl _ _ | apply Below.drew | refine Below.alloc ?_ (by simp; try omega) _)) hbY; have qYx0 : wY.cell? ⟨w.heap.size, 0, none⟩ = some (.bool sx) := kC hbzY (by go_simp); have qYx1 : wY.cell? ⟨w.heap.size, 1, none⟩ = some (.slice ax nx cx) := kC hbzY (by go_simp); have qYx2 : wY.cell? ⟨w.heap.size, 2, none⟩ = some (.int .i64 ex) := kC hbzY (by go_simp); have qYx3 : wY.cell? ⟨w.heap.size, 3, none⟩ = some (.bool false) := kC hbzY (by go_simp); have qYy0 : wY.cell? ⟨w.heap.size + 1, 0, none⟩ = some (.bool sy) := kC hbzY (by go_simp); have qYy1 : wY.cell? ⟨w.heap.size + 1, 1, none⟩ = some (.slice ay ny cy) := kC hbzY (by go_simp); have qYy2 : wY.cell? ⟨w.heap.size + 1, 2, none⟩ = some (.int .i64 ey) := kC hbzY (by go_simp); have qYy3 : wY.cell? ⟨w.heap.size + 1, 3, none⟩ = some (.bool false) := kC hbzY (by go_simp)))
 all_goals
  go_wp2_with fail
  go_region_with (first
   | (go_at_call 206; refine calls_guard #[numV sx ax nx cx ex false] ?_ ?_; (focus rfl); refine (top_calls sx ax nx cx mx ex false _ (hIx.keep (by repeat (first | exact hbwB | exact hbwX | exact hbwY | exact Below.refl _ _ | apply Below.drew | refine Below.alloc ?_ (by simp; try omega) _))) hnx HGx.out HEx.out).mono ?_; rintro r wA ⟨rfl, hbA⟩; have hbwA : Below w.heap.size w wA := nT (by repeat (first | exact hbwB | exact hbwX | exact hbwY | exact Below.refl _ _ | apply Below.drew | refine Below.alloc ?_ (by simp; try omega) _)) hbA; have hbzA : Below ((w.alloc (.cells #[.bool sx, .slice ax nx cx, .int .i64 ex, .bool false] 109)).alloc (.cells #[.bool sy, .slice ay ny cy, .int .i64 ey, .bool false] 109)).heap.size ((w.alloc (.cells #[.bool sx, .slice ax nx cx, .int .i64 ex, .bool false] 109)).alloc (.cells #[.bool sy, .slice ay ny cy, .int .i64 ey, .bool false] 109)) wA := nT (by repeat (first | exact hbzB | exact hbzX | exact hbzY | exact Below.refl _ _ | apply Below.drew | refine Below.alloc ?_ (by simp; try omega) _)) hbA; have qAx0 : wA.cell? ⟨w.heap.size, 0, none⟩ = some (.bool sx) := kC hbzA (by go_simp); have qAx1 : wA.cell? ⟨w.heap.size, 1, none⟩ = some (.slice ax nx cx) := kC hbzA (by go_simp); have qAx2 : wA.cell? ⟨w.heap.size, 2, none⟩ = some (.int .i64 ex) := kC hbzA (by go_simp); have qAx3 : wA.cell? ⟨w.heap.size, 3, none⟩ = some (.bool false) := kC hbzA (by go_simp); have qAy0 : wA.cell? ⟨w.heap.size + 1, 0, none⟩ = some (.bool sy) := kC hbzA (by go_simp); have qAy1 : wA.cell? ⟨w.heap.size + 1, 1, none⟩ = some (.slice ay ny cy) := kC hbzA (by go_simp); have qAy2 : wA.cell? ⟨w.heap.size + 1, 2, none⟩ = some (.int .i64 ey) := kC hbzA (by go_simp); have qAy3 : wA.cell? ⟨w.heap.size + 1, 3, none⟩ = some (.bool false) := kC hbzA (by go_simp))
   | (go_at_call 206; refine calls_guard #[numV sy ay ny cy ey false] ?_ ?_; (focus rfl); refine (top_calls sy ay ny cy my ey false _ (hIy.keep (by repeat (first | exact hbwA | exact hbwX | exact hbwY | exact Below.refl _ _ | apply Below.drew | refine Below.alloc ?_ (by simp; try omega) _))) hny HGy.out HEy.out).mono ?_; rintro r wB ⟨rfl, hbB⟩; have hbwB : Below w.heap.size w wB := nT (by repeat (first | exact hbwA | exact hbwX | exact hbwY | exact Below.refl _ _ | apply Below.drew | refine Below.alloc ?_ (by simp; try omega) _)) hbB; have hbzB : Below ((w.alloc (.cells #[.bool sx, .slice ax nx cx, .int .i64 ex, .bool false] 109)).alloc (.cells #[.bool sy, .slice ay ny cy, .int .i64 ey, .bool false] 109)).heap.size ((w.alloc (.cells #[.bool sx, .slice ax nx cx, .int .i64 ex, .bool false] 109)).alloc (.cells #[.bool sy, .slice ay ny cy, .int .i64 ey, .bool false] 109)) wB := nT (by repeat (first | exact hbzA | exact hbzX | exact hbzY | exact Below.refl _ _ | apply Below.drew | refine Below.alloc ?_ (by simp; try omega) _)) hbB; have qBx0 : wB.cell? ⟨w.heap.size, 0, none⟩ = some (.bool sx) := kC hbzB (by go_simp); have qBx1 : wB.cell? ⟨w.heap.size, 1, none⟩ = some (.slice ax nx cx) := kC hbzB (by go_simp); have qBx2 : wB.cell? ⟨w.heap.size, 2, none⟩ = some (.int .i64 ex) := kC hbzB (by go_simp); have qBx3 : wB.cell? ⟨w.heap.size, 3, none⟩ = some (.bool false) := kC hbzB (by go_simp); have qBy0 : wB.cell? ⟨w.heap.size + 1, 0, none⟩ = some (.bool sy) := kC hbzB (by go_simp); have qBy1 : wB.cell? ⟨w.heap.size + 1, 1, none⟩ = some (.slice ay ny cy) := kC hbzB (by go_simp); have qBy2 : wB.cell? ⟨w.heap.size + 1, 2, none⟩ = some (.int .i64 ey) := kC hbzB (by go_simp); have qBy3 : wB.cell? ⟨w.heap.size + 1, 3, none⟩ = some (.bool false) := kC hbzB (by go_simp))
   | (go_at_call 145; refine (Tryz.cmp_Compare_int _ _ _).mono ?_; rintro r wC ⟨rfl, rfl⟩))
  all_goals
   go_wp2_with fail
   go_ret
   first
    | exact ⟨rfl, hbwB⟩
    | exact ⟨rfl, hbwA⟩
set_option maxRecDepth 100000 in
set_option maxHeartbeats 2000000 in
theorem amt_ge (sx : Bool) (ax : Option Addr) (nx cx : Nat) (mx : Nat) (ex : Int) (sy : Bool) (ay : Option Addr) (ny cy : Nat) (my : Nat) (ey : Int) (w : World) (hIx : IsW w ax nx cx (wO mx)) (hnx : nx ≤ 1024) (hgx : greatB mx = false) (hex : -100000000 ≤ ex ∧ ex ≤ 100000000) (hIy : IsW w ay ny cy (wO my)) (hny : ny ≤ 1024) (hgy : greatB my = false) (hey : -100000000 ≤ ey ∧ ey ≤ 100000000) (ht : ex + (blen mx : Int) - 1 = ey + (blen my : Int) - 1) (dd : Nat) (hdd : ex = ey + (dd : Int)) (hs : shlR mx (dd : Int) = (mx * 2 ^ dd, 0)) (hgs : greatB (mx * 2 ^ dd) = false) :
  Calls Tryz.prog 180 #[numV sx ax nx cx ex false, numV sy ay ny cy ey false] w fun r w' => r = .returned (.int .i64 (cmpN (mx * 2 ^ dd) my)) ∧ Below w.heap.size w w' := by
 obtain ⟨hex1, hex2⟩ := hex
 obtain ⟨hey1, hey2⟩ := hey
 have HGx : Hid (greatB mx = false) := hgx
 have HGy : Hid (greatB my = false) := hgy
 have HEx : Hid (-4611686018427387904 ≤ ex ∧ ex ≤ 4611686018427387904) := by rw [Hid]; omega
 have HEy : Hid (-4611686018427387904 ≤ ey ∧ ey ≤ 4611686018427387904) := by rw [Hid]; omega
 have hblx : blen mx ≤ 65536 := (great_not _).1 hgx
 have hbly : blen my ≤ 65536 := (great_not _).1 hgy
 have htt : (ex + (blen mx : Int) - 1 == ey + (blen my : Int) - 1) = true := by simpa using ht
 have hnl : ¬ ex < ey := by omega
 have hdd2 : ex - ey = (dd : Int) := by omega
 have HS : Hid (shlR mx (dd : Int) = (mx * 2 ^ dd, 0)) := hs
 have HGS : Hid (greatB (mx * 2 ^ dd) = false) := hgs
 clear hgx hgy ht hs hgs hdd
 go_enter Tryz.func180, Tryz.ntmps180
 go_wp2_with fail
 go_region_with (first
  | (go_at_call 206; refine calls_guard #[numV sx ax nx cx ex false] ?_ ?_; (focus rfl); refine (top_calls sx ax nx cx mx ex false _ (hIx.keep (by repeat (first | exact hbwY | exact Below.refl _ _ | apply Below.drew | refine Below.alloc ?_ (by simp; try omega) _))) hnx HGx.out HEx.out).mono ?_; rintro r wX ⟨rfl, hbX⟩; have hbwX : Below w.heap.size w wX := nT (by repeat (first | exact hbwY | exact Below.refl _ _ | apply Below.drew | refine Below.alloc ?_ (by simp; try omega) _)) hbX; have hbzX : Below ((w.alloc (.cells #[.bool sx, .slice ax nx cx, .int .i64 ex, .bool false] 109)).alloc (.cells #[.bool sy, .slice ay ny cy, .int .i64 ey, .bool false] 109)).heap.size ((w.alloc (.cells #[.bool sx, .slice ax nx cx, .int .i64 ex, .bool false] 109)).alloc (.cells #[.bool sy, .slice ay ny cy, .int .i64 ey, .bool false] 109)) wX := nT (by repeat (first | exact hbzY | exact Below.refl _ _ | apply Below.drew | refine Below.alloc ?_ (by simp; try omega) _)) hbX; have qXx0 : wX.cell? ⟨w.heap.size, 0, none⟩ = some (.bool sx) := kC hbzX (by go_simp); have qXx1 : wX.cell? ⟨w.heap.size, 1, none⟩ = some (.slice ax nx cx) := kC hbzX (by go_simp); have qXx2 : wX.cell? ⟨w.heap.size, 2, none⟩ = some (.int .i64 ex) := kC hbzX (by go_simp); have qXx3 : wX.cell? ⟨w.heap.size, 3, none⟩ = some (.bool false) := kC hbzX (by go_simp); have qXy0 : wX.cell? ⟨w.heap.size + 1, 0, none⟩ = some (.bool sy) := kC hbzX (by go_simp); have qXy1 : wX.cell? ⟨w.heap.size + 1, 1, none⟩ = some (.slice ay ny cy) := kC hbzX (by go_simp); have qXy2 : wX.cell? ⟨w.heap.size + 1, 2, none⟩ = some (.int .i64 ey) := kC hbzX (by go_simp); have qXy3 : wX.cell? ⟨w.heap.size + 1, 3, none⟩ = some (.bool false) := kC hbzX (by go_simp))
  | (go_at_call 206; refine calls_guard #[numV sy ay ny cy ey false] ?_ ?_; (focus rfl); refine (top_calls sy ay ny cy my ey false _ (hIy.keep (by repeat (first | exact hbwX | exact Below.refl _ _ | apply Below.drew | refine Below.alloc ?_ (by simp; try omega) _))) hny HGy.out HEy.out).mono ?_; rintro r wY ⟨rfl, hbY⟩; have hbwY : Below w.heap.size w wY := nT (by repeat (first | exact hbwX | exact Below.refl _ _ | apply Below.drew | refine Below.alloc ?_ (by simp; try omega) _)) hbY; have hbzY : Below ((w.alloc (.cells #[.bool sx, .slice ax nx cx, .int .i64 ex, .bool false] 109)).alloc (.cells #[.bool sy, .slice ay ny cy, .int .i64 ey, .bool false] 109)).heap.size ((w.alloc (.cells #[.bool sx, .slice ax nx cx, .int .i64 ex, .bool false] 109)).alloc (.cells #[.bool sy, .slice ay ny cy, .int .i64 ey, .bool false] 109)) wY := nT (by repeat (first | exact hbzX | exact Below.refl _ _ | apply Below.drew | refine Below.alloc ?_ (by simp; try omega) _)) hbY; have qYx0 : wY.cell? ⟨w.heap.size, 0, none⟩ = some (.bool sx) := kC hbzY (by go_simp); have qYx1 : wY.cell? ⟨w.heap.size, 1, none⟩ = some (.slice ax nx cx) := kC hbzY (by go_simp); have qYx2 : wY.cell? ⟨w.heap.size, 2, none⟩ = some (.int .i64 ex) := kC hbzY (by go_simp); have qYx3 : wY.cell? ⟨w.heap.size, 3, none⟩ = some (.bool false) := kC hbzY (by go_simp); have qYy0 : wY.cell? ⟨w.heap.size + 1, 0, none⟩ = some (.bool sy) := kC hbzY (by go_simp); have qYy1 : wY.cell? ⟨w.heap.size + 1, 1, none⟩ = some (.slice ay ny cy) := kC hbzY (by go_simp); have qYy2 : wY.cell? ⟨w.heap.size + 1, 2, none⟩ = some (.int .i64 ey) := kC hbzY (by go_simp); have qYy3 : wY.cell? ⟨w.heap.size + 1, 3, none⟩ = some (.bool false) := kC hbzY (by go_simp)))
 all_goals
  go_wp2_with fail
  refine Calls.mono (shl_eq (i := (dd : Int)) (r := mx * 2 ^ dd) (k := 0) (hIx.keep (by repeat (first | exact hbwY | exact hbwX | exact Below.refl _ _ | apply Below.drew | refine Below.alloc ?_ (by simp; try omega) _))) (by omega) (by rw [val_words]; exact HS.out)) ?_
  rintro r wA ⟨a1, n1, c1, rfl, HN1, hn1, hO1, hbA⟩
  first
   | (have hbwA := nT hbwY hbA)
   | (have hbwA := nT hbwX hbA)
  first
   | (have hbzA := nT hbzY hbA)
   | (have hbzA := nT hbzX hbA)
  have qAy0 : wA.cell? ⟨w.heap.size + 1, 0, none⟩ = some (.bool sy) := kC hbzA (by go_simp)
  have qAy1 : wA.cell? ⟨w.heap.size + 1, 1, none⟩ = some (.slice ay ny cy) := kC hbzA (by go_simp)
  have qAy2 : wA.cell? ⟨w.heap.size + 1, 2, none⟩ = some (.int .i64 ey) := kC hbzA (by go_simp)
  have qAy3 : wA.cell? ⟨w.heap.size + 1, 3, none⟩ = some (.bool false) := kC hbzA (by go_simp)
  go_wp2_with fail
  refine Calls.mono (cmp_calls _ _ _ _ _ _ _ _ _ hO1.1 (hIy.keep hbwA) (by omega) (by omega)) ?_
  rintro r wB ⟨_, hr, hbB⟩
  obtain rfl := hr (by rw [val_words, val_words, HGS.out, HGy.out]; rfl)
  rw [val_words, val_words]
  clear hr
  go_wp2_with fail
  go_ret
  exact ⟨rfl, nT hbwA hbB⟩
set_option maxRecDepth 100000 in
set_option maxHeartbeats 2000000 in
theorem amt_lt (sx : Bool) (ax : Option Addr) (nx cx : Nat) (mx : Nat) (ex : Int) (sy : Bool) (ay : Option Addr) (ny cy : Nat) (my : Nat) (ey : Int) (w : World) (hIx : IsW w ax nx cx (wO mx)) (hnx : nx ≤ 1024) (hgx : greatB mx = false) (hex : -100000000 ≤ ex ∧ ex ≤ 100000000) (hIy : IsW w ay ny cy (wO my)) (hny : ny ≤ 1024) (hgy : greatB my = false) (hey : -100000000 ≤ ey ∧ ey ≤ 100000000) (ht : ex + (blen mx : Int) - 1 = ey + (blen my : Int) - 1) (dd : Nat) (hdd : ey = ex + (dd : Int)) (hd : 0 < dd) (hs : shlR my (dd : Int) = (my * 2 ^ dd, 0)) (hgs : greatB (my * 2 ^ dd) = false) :
  Calls Tryz.prog 180 #[numV sx ax nx cx ex false, numV sy ay ny cy ey false] w fun r w' => r = .returned (.int .i64 (-(cmpN (my * 2 ^ dd) mx))) ∧ Below w.heap.size w w' := by
 have AG : Hid (∀ W, Below w.heap.size w W → Calls Tryz.prog 180 #[numV sy ay ny cy ey false, numV sx ax nx cx ex false] W fun r w' => r = .returned (.int .i64 (cmpN (my * 2 ^ dd) mx)) ∧ Below W.heap.size W w') := fun W hW => amt_ge sy ay ny cy my ey sx ax nx cx mx ex W (hIy.keep hW) hny hgy hey (hIx.keep hW) hnx hgx hex ht.symm dd hdd hs hgs
 obtain ⟨hex1, hex2⟩ := hex
 obtain ⟨hey1, hey2⟩ := hey
 have HGx : Hid (greatB mx = false) := hgx
 have HGy : Hid (greatB my = false) := hgy
 have HEx : Hid (-4611686018427387904 ≤ ex ∧ ex ≤ 4611686018427387904) := by rw [Hid]; omega
 have HEy : Hid (-4611686018427387904 ≤ ey ∧ ey ≤ 4611686018427387904) := by rw [Hid]; omega
 have hblx : blen mx ≤ 65536 := (great_not _).1 hgx
 have hbly : blen my ≤ 65536 := (great_not _).1 hgy
 have htt : (ex + (blen mx : Int) - 1 == ey + (blen my : Int) - 1) = true := by simpa using ht
 have hnl : ex < ey := by omega
 have hcm : -1 ≤ cmpN (my * 2 ^ dd) mx ∧ cmpN (my * 2 ^ dd) mx ≤ 1 := by unfold cmpN; split <;> (try split) <;> omega
 clear hgx hgy ht hs hgs hdd hd
 generalize cmpN (my * 2 ^ dd) mx = cm at hcm AG ⊢
 obtain ⟨hcm1, hcm2⟩ := hcm
 go_enter Tryz.func180, Tryz.ntmps180
 go_wp2_with fail
 go_region_with (first
  | (go_at_call 206; refine calls_guard #[numV sx ax nx cx ex false] ?_ ?_; (focus rfl); refine (top_calls sx ax nx cx mx ex false _ (hIx.keep (by repeat (first | exact hbwY | exact Below.refl _ _ | apply Below.drew | refine Below.alloc ?_ (by simp; try omega) _))) hnx HGx.out HEx.out).mono ?_; rintro r wX ⟨rfl, hbX⟩; have hbwX : Below w.heap.size w wX := nT (by repeat (first | exact hbwY | exact Below.refl _ _ | apply Below.drew | refine Below.alloc ?_ (by simp; try omega) _)) hbX; have hbzX : Below ((w.alloc (.cells #[.bool sx, .slice ax nx cx, .int .i64 ex, .bool false] 109)).alloc (.cells #[.bool sy, .slice ay ny cy, .int .i64 ey, .bool false] 109)).heap.size ((w.alloc (.cells #[.bool sx, .slice ax nx cx, .int .i64 ex, .bool false] 109)).alloc (.cells #[.bool sy, .slice ay ny cy, .int .i64 ey, .bool false] 109)) wX := nT (by repeat (first | exact hbzY | exact Below.refl _ _ | apply Below.drew | refine Below.alloc ?_ (by simp; try omega) _)) hbX; have qXx0 : wX.cell? ⟨w.heap.size, 0, none⟩ = some (.bool sx) := kC hbzX (by go_simp); have qXx1 : wX.cell? ⟨w.heap.size, 1, none⟩ = some (.slice ax nx cx) := kC hbzX (by go_simp); have qXx2 : wX.cell? ⟨w.heap.size, 2, none⟩ = some (.int .i64 ex) := kC hbzX (by go_simp); have qXx3 : wX.cell? ⟨w.heap.size, 3, none⟩ = some (.bool false) := kC hbzX (by go_simp); have qXy0 : wX.cell? ⟨w.heap.size + 1, 0, none⟩ = some (.bool sy) := kC hbzX (by go_simp); have qXy1 : wX.cell? ⟨w.heap.size + 1, 1, none⟩ = some (.slice ay ny cy) := kC hbzX (by go_simp); have qXy2 : wX.cell? ⟨w.heap.size + 1, 2, none⟩ = some (.int .i64 ey) := kC hbzX (by go_simp); have qXy3 : wX.cell? ⟨w.heap.size + 1, 3, none⟩ = some (.bool false) := kC hbzX (by go_simp))
  | (go_at_call 206; refine calls_guard #[numV sy ay ny cy ey false] ?_ ?_; (focus rfl); refine (top_calls sy ay ny cy my ey false _ (hIy.keep (by repeat (first | exact hbwX | exact Below.refl _ _ | apply Below.drew | refine Below.alloc ?_ (by simp; try omega) _))) hny HGy.out HEy.out).mono ?_; rintro r wY ⟨rfl, hbY⟩; have hbwY : Below w.heap.size w wY := nT (by repeat (first | exact hbwX | exact Below.refl _ _ | apply Below.drew | refine Below.alloc ?_ (by simp; try omega) _)) hbY; have hbzY : Below ((w.alloc (.cells #[.bool sx, .slice ax nx cx, .int .i64 ex, .bool false] 109)).alloc (.cells #[.bool sy, .slice ay ny cy, .int .i64 ey, .bool false] 109)).heap.size ((w.alloc (.cells #[.bool sx, .slice ax nx cx, .int .i64 ex, .bool false] 109)).alloc (.cells #[.bool sy, .slice ay ny cy, .int .i64 ey, .bool false] 109)) wY := nT (by repeat (first | exact hbzX | exact Below.refl _ _ | apply Below.drew | refine Below.alloc ?_ (by simp; try omega) _)) hbY; have qYx0 : wY.cell? ⟨w.heap.size, 0, none⟩ = some (.bool sx) := kC hbzY (by go_simp); have qYx1 : wY.cell? ⟨w.heap.size, 1, none⟩ = some (.slice ax nx cx) := kC hbzY (by go_simp); have qYx2 : wY.cell? ⟨w.heap.size, 2, none⟩ = some (.int .i64 ex) := kC hbzY (by go_simp); have qYx3 : wY.cell? ⟨w.heap.size, 3, none⟩ = some (.bool false) := kC hbzY (by go_simp); have qYy0 : wY.cell? ⟨w.heap.size + 1, 0, none⟩ = some (.bool sy) := kC hbzY (by go_simp); have qYy1 : wY.cell? ⟨w.heap.size + 1, 1, none⟩ = some (.slice ay ny cy) := kC hbzY (by go_simp); have qYy2 : wY.cell? ⟨w.heap.size + 1, 2, none⟩ = some (.int .i64 ey) := kC hbzY (by go_simp); have qYy3 : wY.cell? ⟨w.heap.size + 1, 3, none⟩ = some (.bool false) := kC hbzY (by go_simp)))
 all_goals
  go_wp2_with fail
  refine Calls.mono (AG.out _ (by repeat (first | exact hbwY | exact hbwX | exact Below.refl _ _ | apply Below.drew | refine Below.alloc ?_ (by simp; try omega) _))) ?_
  rintro r wA ⟨rfl, hbA⟩
  first
   | (have hbwA := nT hbwY hbA)
   | (have hbwA := nT hbwX hbA)
  go_wp2_with fail
  go_ret
  exact ⟨rfl, hbwA⟩
def amtD (mx : Nat) (ex : Int) (my : Nat) (ey : Int) : Int :=
 if ex + (blen mx : Int) - 1 ≠ ey + (blen my : Int) - 1 then Lib.compareInt (ex + (blen mx : Int) - 1) (ey + (blen my : Int) - 1)
 else if ex < ey then -(cmpN (my * 2 ^ (ey - ex).toNat) mx) else cmpN (mx * 2 ^ (ex - ey).toNat) my
theorem level_fit {m n d : Nat} {e f : Int} (hm : greatB m = false) (hn : greatB n = false) (h0 : m ≠ 0) (ht : e + (blen m : Int) - 1 = f + (blen n : Int) - 1) (hd : e = f + (d : Int)) : shlR m (d : Int) = (m * 2 ^ d, 0) ∧ greatB (m * 2 ^ d) = false := by
 have h1 := (great_not n).1 hn
 have hb := blen_mul m d h0
 constructor
 ·rw [shlR_fit hm (by omega) h0 (by omega), Int.toNat_natCast]
 ·rw [great_not]; omega
theorem amt_calls (sx : Bool) (ax : Option Addr) (nx cx : Nat) (mx : Nat) (ex : Int) (sy : Bool) (ay : Option Addr) (ny cy : Nat) (my : Nat) (ey : Int) (w : World) (hIx : IsW w ax nx cx (wO mx)) (hnx : nx ≤ 1024) (hgx : greatB mx = false) (hex : -100000000 ≤ ex ∧ ex ≤ 100000000) (hIy : IsW w ay ny cy (wO my)) (hny : ny ≤ 1024) (hgy : greatB my = false) (hey : -100000000 ≤ ey ∧ ey ≤ 100000000) (h1 : mx ≠ 0) (h2 : my ≠ 0) :
  Calls Tryz.prog 180 #[numV sx ax nx cx ex false, numV sy ay ny cy ey false] w fun r w' => r = .returned (.int .i64 (amtD mx ex my ey)) ∧ Below w.heap.size w w' := by
 unfold amtD
 by_cases ht : ex + (blen mx : Int) - 1 = ey + (blen my : Int) - 1
 ·rw [if_neg (by omega)]
  by_cases hl : ex < ey
  ·rw [if_pos hl]
   obtain ⟨q1, q2⟩ := level_fit hgy hgx h2 ht.symm (d := (ey - ex).toNat) (by omega)
   exact amt_lt sx ax nx cx mx ex sy ay ny cy my ey w hIx hnx hgx hex hIy hny hgy hey ht (ey - ex).toNat (by omega) (by omega) q1 q2
  ·rw [if_neg hl]
   obtain ⟨q1, q2⟩ := level_fit hgx hgy h1 ht (d := (ex - ey).toNat) (by omega)
   exact amt_ge sx ax nx cx mx ex sy ay ny cy my ey w hIx hnx hgx hex hIy hny hgy hey ht (ex - ey).toNat (by omega) q1 q2
 ·rw [if_pos ht]
  exact amt_tops sx ax nx cx mx ex sy ay ny cy my ey w hIx hnx hgx hex hIy hny hgy hey ht
def sgnI (n : Nat) (s : Bool) : Int := if n = 0 then 0 else if s = true then -1 else 1
theorem sgnI_neg {n : Nat} (h : n ≠ 0) : sgnI n true = -1 := by unfold sgnI; rw [if_neg h]; rfl
theorem sgnI_pos {n : Nat} (h : n ≠ 0) : sgnI n false = 1 := by unfold sgnI; rw [if_neg h]; rfl
set_option maxHeartbeats 400000 in
theorem signX_calls (s : Bool) (a : Option Addr) (n c : Nat) (e : Int) (g : Bool) (w : World) :
  Calls Tryz.prog 179 #[numV s a n c e g] w fun r w' => r = .returned (.int .i64 (sgnI n s)) ∧ w' = (w.alloc (.cells #[.bool s, .slice a n c, .int .i64 e, .bool g] 109)).alloc (.cells #[.bool s, .slice a n c, .int .i64 e, .bool g] 109) := by
 by_cases h0 : n = 0
 ·subst h0
  go_enter Tryz.func179, Tryz.ntmps179
  go_wp2_with fail
  refine Calls.mono (zero_calls _ _ _ _ _ _ _) ?_
  rintro r w1 ⟨rfl, rfl⟩
  go_wp2_with fail
  go_ret
  exact ⟨rfl, rfl⟩
 ·have hn : ((n : Int) == 0) = false := by simp; omega
  cases s
  ·rw [sgnI_pos h0]
   go_enter Tryz.func179, Tryz.ntmps179
   go_wp2_with fail
   refine Calls.mono (zero_calls _ _ _ _ _ _ _) ?_
   rintro r w1 ⟨rfl, rfl⟩
   go_wp2_with fail
   go_ret
   exact ⟨rfl, rfl⟩
  ·rw [sgnI_neg h0]
   go_enter Tryz.func179, Tryz.ntmps179
   go_wp2_with fail
   refine Calls.mono (zero_calls _ _ _ _ _ _ _) ?_
   rintro r w1 ⟨rfl, rfl⟩
   go_wp2_with fail
   go_ret
   exact ⟨rfl, rfl⟩
end Go.Proofs.YtahpdcbmekgkfaaGreatDoor
