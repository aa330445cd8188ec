/- Package alg: amounts, inverses, what is told of a root, square roots. -/
import Derived.Test.YtionhpedghmecaaGreatDoorAL1
import Derived.Test.YtionhpedghmecaaGreatDoorDMs1
import Derived.Test.YtionhpedghmecaaGreatDoorRNV
import Derived.Test.YtionhpedghmecaaGreatDoorFX
namespace Go.Proofs.YtionhpedghmecaaGreatDoor
open Go.RowKit
set_option maxRecDepth 100000 in
set_option maxHeartbeats 1000000 in
theorem alAmount_calls (s : Bool) (a : Option Addr) (len cap : Nat) (xs : List Int) (e tp : Int) (w : World) (h : IsW w a len cap xs) (hm : len ≤ 17592186044000) (hT : Tab w) (ht : tpV (val xs) e = tp) (_hb : -100000 ≤ tp ∧ tp ≤ 100000) :
  Calls Tryz.prog 23 #[dyV s a len cap e] w fun r w' => r = .returned (.agg #[.int .i64 (tp), .func (.func 48) #[] #[.pointer (some ⟨w.heap.size, 0, none⟩)]]) ∧ w'.cell? ⟨w.heap.size, 0, none⟩ = some (.bool s) ∧ w'.cell? ⟨w.heap.size, 1, none⟩ = some (.slice a len cap) ∧ w'.cell? ⟨w.heap.size, 2, none⟩ = some (.int .i64 e) ∧ Below w.heap.size w w' := by
 have hmf : ∀ (fn : Fn) (first cap : Array Value) (w : World), (Instr.makeFunc fn first cap).run Tryz.prog w = .ok (.func fn first cap) w := fun _ _ _ _ => rfl
 have bA : Below w.heap.size w ((w.alloc (.cells #[.bool s, .slice a len cap, .int .i64 e] 27)).alloc (.cells #[.int .i64 0, .nilFunc] 54)) := nT (below_one _ _) (below_one _ _)
 have HC : Hid _ := pTop_calls s a len cap xs e _ (h.keep bA) hm (hT.kept bA)
 rw [ht] at HC
 obtain ⟨c0, c1, c2, z0, z1, f0, f1⟩ := fX8 w s a len cap e
 clear h hm hT ht
 go_enter Tryz.func23, Tryz.ntmps23
 go_wp2_with fail
 generalize ((w.alloc (.cells #[.bool s, .slice a len cap, .int .i64 e] 27)).alloc (.cells #[.int .i64 0, .nilFunc] 54)) = w0 at *
 refine Calls.mono HC.out ?_
 rintro r w1 ⟨rfl, bN⟩
 replace f0 := kF bN z0 f0
 replace f1 := kF bN z1 f1
 replace z0 := kC bN z0
 replace z1 := kC bN z1
 replace c0 := kC bN c0
 replace c1 := kC bN c1
 replace c2 := kC bN c2
 replace bA := nT bA bN
 clear bN HC
 go_wp2_with fail
 refine bodyPost_ret (v := .agg #[.int .i64 (tp), .func (.func 48) #[] #[.pointer (some ⟨w.heap.size, 0, none⟩)]]) (by simp [results, Tryz.results23, go_sem, z0, z1]) rfl ⟨rfl, ?_, ?_, ?_, ?_⟩
 ·exact (World.cell?_setCell_other _ _ _ _ (fun q => by have := congrArg Addr.block q; simp at this)).trans ((World.cell?_setCell_other _ _ _ _ (fun q => by have := congrArg Addr.block q; simp at this)).trans c0)
 ·exact (World.cell?_setCell_other _ _ _ _ (fun q => by have := congrArg Addr.block q; simp at this)).trans ((World.cell?_setCell_other _ _ _ _ (fun q => by have := congrArg Addr.block q; simp at this)).trans c1)
 ·exact (World.cell?_setCell_other _ _ _ _ (fun q => by have := congrArg Addr.block q; simp at this)).trans ((World.cell?_setCell_other _ _ _ _ (fun q => by have := congrArg Addr.block q; simp at this)).trans c2)
 ·repeat (first | (with_reducible exact bA) | (with_reducible refine Below.setCell ?_ (by simp) _))
set_option maxRecDepth 100000 in
set_option maxHeartbeats 1000000 in
theorem alInverse_calls (s : Bool) (a : Option Addr) (len cap : Nat) (xs : List Int) (e tp : Int) (w : World) (h : IsW w a len cap xs) (hm : len ≤ 17592186044000) (hT : Tab w) (ht : tpV (val xs) e = tp) (hb : -100000 ≤ tp ∧ tp ≤ 100000) :
  Calls Tryz.prog 35 #[dyV s a len cap e] w fun r w' => r = .returned (.agg #[.int .i64 (-tp), .func (.func 62) #[] #[.pointer (some ⟨w.heap.size, 0, none⟩)]]) ∧ w'.cell? ⟨w.heap.size, 0, none⟩ = some (.bool s) ∧ w'.cell? ⟨w.heap.size, 1, none⟩ = some (.slice a len cap) ∧ w'.cell? ⟨w.heap.size, 2, none⟩ = some (.int .i64 e) ∧ Below w.heap.size w w' := by
 have hmf : ∀ (fn : Fn) (first cap : Array Value) (w : World), (Instr.makeFunc fn first cap).run Tryz.prog w = .ok (.func fn first cap) w := fun _ _ _ _ => rfl
 have bA : Below w.heap.size w ((w.alloc (.cells #[.bool s, .slice a len cap, .int .i64 e] 27)).alloc (.cells #[.int .i64 0, .nilFunc] 54)) := nT (below_one _ _) (below_one _ _)
 have HC : Hid _ := pTop_calls s a len cap xs e _ (h.keep bA) hm (hT.kept bA)
 rw [ht] at HC
 obtain ⟨c0, c1, c2, z0, z1, f0, f1⟩ := fX8 w s a len cap e
 clear h hm hT ht
 go_enter Tryz.func35, Tryz.ntmps35
 go_wp2_with fail
 generalize ((w.alloc (.cells #[.bool s, .slice a len cap, .int .i64 e] 27)).alloc (.cells #[.int .i64 0, .nilFunc] 54)) = w0 at *
 refine Calls.mono HC.out ?_
 rintro r w1 ⟨rfl, bN⟩
 replace f0 := kF bN z0 f0
 replace f1 := kF bN z1 f1
 replace z0 := kC bN z0
 replace z1 := kC bN z1
 replace c0 := kC bN c0
 replace c1 := kC bN c1
 replace c2 := kC bN c2
 replace bA := nT bA bN
 clear bN HC
 go_wp2_with fail
 refine bodyPost_ret (v := .agg #[.int .i64 (-tp), .func (.func 62) #[] #[.pointer (some ⟨w.heap.size, 0, none⟩)]]) (by simp [results, Tryz.results35, go_sem, z0, z1]) rfl ⟨rfl, ?_, ?_, ?_, ?_⟩
 ·exact (World.cell?_setCell_other _ _ _ _ (fun q => by have := congrArg Addr.block q; simp at this)).trans ((World.cell?_setCell_other _ _ _ _ (fun q => by have := congrArg Addr.block q; simp at this)).trans c0)
 ·exact (World.cell?_setCell_other _ _ _ _ (fun q => by have := congrArg Addr.block q; simp at this)).trans ((World.cell?_setCell_other _ _ _ _ (fun q => by have := congrArg Addr.block q; simp at this)).trans c1)
 ·exact (World.cell?_setCell_other _ _ _ _ (fun q => by have := congrArg Addr.block q; simp at this)).trans ((World.cell?_setCell_other _ _ _ _ (fun q => by have := congrArg Addr.block q; simp at this)).trans c2)
 ·repeat (first | (with_reducible exact bA) | (with_reducible refine Below.setCell ?_ (by simp) _))
theorem shl_two {r : Nat} (h0 : r ≠ 0) (hb : blen r ≤ 60000) : shlR r 1 = (2 * r, 0) := by
 rw [shlR_fit (by rw [great_not]; omega) (by decide) h0 (by omega), show (1 : Int).toNat = 1 from rfl, Nat.pow_one, Nat.mul_comm]
set_option maxRecDepth 100000 in
set_option maxHeartbeats 1000000 in
theorem tell_not (X Y Z : Nat) (s : Bool) (e : Int) (a : Option Addr) (len cap r : Nat) (a' : Option Addr) (n' cap' : Nat) (w : World) (h : IsW w a len cap (wordsOf r)) (hm : len ≤ 1024) (h0 : r ≠ 0) (hb : blen r ≤ 60000) (hT : Tab w) (cX : w.cell? ⟨X, 0, none⟩ = some (.bool s)) (cY : w.cell? ⟨Y, 0, none⟩ = some (.int .i64 e)) (cZ : w.cell? ⟨Z, 0, none⟩ = some (.bool false)) (he1 : -100000 ≤ e) (he2 : e ≤ 100000) (hn' : n' = 0) :
  Calls Tryz.prog 50 #[.slice a len cap, .slice a' n' cap', .int .i64 0, .pointer (some ⟨Z, 0, none⟩), .pointer (some ⟨X, 0, none⟩), .pointer (some ⟨Y, 0, none⟩)] w fun q w' => q = .returned (.tuple #[.agg #[.int .u64 (nbR s (2 * r) (e - 1)), .int .u8 (flR s (2 * r) (e - 1))], .int .i64 (erR (2 * r) (e - 1))]) ∧ Below w.heap.size w w' := by
 have bA : Below w.heap.size w (w.alloc (.cells #[.int .u64 0, .int .u8 0] 34)) := below_one _ _
 have SC : Hid _ := shl_eq (i := 1) (h.keep bA) (show len ≤ 17592186044416 by omega) (show shlR (val (wordsOf r)) 1 = (2 * r, 0) by rw [val_words]; exact shl_two h0 hb)
 have hT0 := hT.kept bA
 replace cX := kC bA cX
 replace cY := kC bA cY
 replace cZ := kC bA cZ
 obtain ⟨z0, z1, f0, f1⟩ := fX9 w
 have HR : Hid (r ≠ 0) := h0
 clear h hm h0 hb hT
 go_enter Tryz.func50, Tryz.ntmps50
 go_wp2_with fail
 generalize hw0 : (w.alloc (.cells #[.int .u64 0, .int .u8 0] 34)) = w0 at *
 refine Calls.mono SC.out ?_
 rintro q w1 ⟨ao, n, c, rfl, HN, hn, hO, b1⟩
 clear SC
 replace f0 := kF b1 z0 f0
 replace f1 := kF b1 z1 f1
 replace z0 := kC b1 z0
 replace z1 := kC b1 z1
 replace cX := kC b1 cX
 replace cY := kC b1 cY
 replace cZ := kC b1 cZ
 replace hT0 := hT0.kept b1
 replace bA := nT bA b1
 subst hn'
 have NC : Hid _ := pNear_calls s ao n c (wordsOf (2 * r)) (e - 1) w1 hO.1 (by omega) hT0
 rw [val_words] at NC
 clear hO HN b1 hT0
 go_wp2_with fail
 refine Calls.mono NC.out ?_
 rintro q w2 ⟨rfl, b2⟩
 clear NC
 replace f0 := kF b2 z0 f0
 replace f1 := kF b2 z1 f1
 replace z0 := kC b2 z0
 replace z1 := kC b2 z1
 replace bA := nT bA b2
 clear b2
 go_wp2_with fail
 exact bodyPost_ret (v := .tuple #[.agg #[.int .u64 (nbR s (2 * r) (e - 1)), .int .u8 (flR s (2 * r) (e - 1))], .int .i64 (erR (2 * r) (e - 1))]) (by simp [results, Tryz.results50, go_sem, z0, z1]) rfl ⟨rfl, by repeat (first | (with_reducible exact bA) | (with_reducible refine Below.setCell ?_ (by simp) _))⟩
set_option maxRecDepth 100000 in
set_option maxHeartbeats 1000000 in
theorem tell_lost (X Y Z : Nat) (s : Bool) (e : Int) (a : Option Addr) (len cap r : Nat) (a' : Option Addr) (n' cap' : Nat) (w : World) (h : IsW w a len cap (wordsOf r)) (hm : len ≤ 1024) (h0 : r ≠ 0) (hb : blen r ≤ 60000) (hT : Tab w) (cX : w.cell? ⟨X, 0, none⟩ = some (.bool s)) (cY : w.cell? ⟨Y, 0, none⟩ = some (.int .i64 e)) (cZ : w.cell? ⟨Z, 0, none⟩ = some (.bool true)) (he1 : -100000 ≤ e) (he2 : e ≤ 100000) :
  Calls Tryz.prog 50 #[.slice a len cap, .slice a' n' cap', .int .i64 0, .pointer (some ⟨Z, 0, none⟩), .pointer (some ⟨X, 0, none⟩), .pointer (some ⟨Y, 0, none⟩)] w fun q w' => q = .returned (.tuple #[.agg #[.int .u64 (nbR s (2 * r + 1) (e - 1)), .int .u8 (flR s (2 * r + 1) (e - 1))], .int .i64 (erR (2 * r + 1) (e - 1))]) ∧ Below w.heap.size w w' := by
 have bA : Below w.heap.size w (w.alloc (.cells #[.int .u64 0, .int .u8 0] 34)) := below_one _ _
 have SC : Hid _ := shl_eq (i := 1) (h.keep bA) (show len ≤ 17592186044416 by omega) (show shlR (val (wordsOf r)) 1 = (2 * r, 0) by rw [val_words]; exact shl_two h0 hb)
 have hT0 := hT.kept bA
 replace cX := kC bA cX
 replace cY := kC bA cY
 replace cZ := kC bA cZ
 obtain ⟨z0, z1, f0, f1⟩ := fX9 w
 have HR : Hid (r ≠ 0) := h0
 clear h hm h0 hb hT
 go_enter Tryz.func50, Tryz.ntmps50
 go_wp2_with fail
 generalize hw0 : (w.alloc (.cells #[.int .u64 0, .int .u8 0] 34)) = w0 at *
 refine Calls.mono SC.out ?_
 rintro q w1 ⟨ao, n, c, rfl, HN, hn, hO, b1⟩
 clear SC
 have h2 : 2 * r ≠ 0 := by have := HR.out; omega
 have hl : 0 < n := by
  rw [HN.out]
  rcases Nat.eq_zero_or_pos (wordsOf (2 * r)).length with q | q
  ·exact absurd ((words_nil _).1 (List.eq_nil_of_length_eq_zero q)) h2
  ·exact q
 obtain ⟨g, off, rfl, hbk, hc⟩ := hO.1.2.2.2 0 hl
 have hg0 : (wordsOf (2 * r)).getD 0 0 = ((2 * r % 18446744073709551616 : Nat) : Int) := by rw [words_pos _ h2]; rfl
 rw [hg0, Nat.add_zero] at hc
 have ho := or_oneA ((2 * r % 18446744073709551616 : Nat) : Int) (by omega) (by omega)
 have hgf := hO.2 g off 0 rfl hl
 have hfz := hgf.2
 rw [Nat.add_zero] at hfz
 have bS : Below w0.heap.size w0 (w1.setCell ⟨g, off, none⟩ (.int .u64 (bits BinOp.or .u64 ((2 * r % 18446744073709551616 : Nat) : Int) 1))) := b1.setCell hgf.1 _
 have hOS := hO.set (i := 0) hl (v := bits BinOp.or .u64 ((2 * r % 18446744073709551616 : Nat) : Int) 1) (by rw [ho]; omega) (by rw [ho]; omega)
 rw [Nat.add_zero] at hOS
 have hWM : (wordsOf (2 * r)).set 0 (bits BinOp.or .u64 ((2 * r % 18446744073709551616 : Nat) : Int) 1) = wordsOf (2 * r + 1) := by rw [ho, words_markA _ h2, show 2 * (2 * r / 2) + 1 = 2 * r + 1 by omega]
 rw [hWM] at hOS
 have hl1 : (0 : Int) < n := by omega
 have cZ1 := kC b1 cZ
 clear ho hWM hO h2 hgf hg0
 generalize ((2 * r % 18446744073709551616 : Nat) : Int) = x0 at *
 replace f0 := kF bS z0 f0
 replace f1 := kF bS z1 f1
 replace z0 := kC bS z0
 replace z1 := kC bS z1
 replace cX := kC bS cX
 replace cY := kC bS cY
 replace hT0 := hT0.kept bS
 replace bA := nT bA bS
 have NC : Hid _ := pNear_calls s _ n c (wordsOf (2 * r + 1)) (e - 1) _ hOS.1 (by omega) hT0
 rw [val_words] at NC
 clear hOS HN b1 hT0 bS HR cZ
 go_wp2_with fail
 generalize w1.setCell ⟨g, off, none⟩ (.int .u64 (bits BinOp.or .u64 x0 1)) = wS at *
 refine Calls.mono NC.out ?_
 rintro q w2 ⟨rfl, b2⟩
 clear NC
 replace f0 := kF b2 z0 f0
 replace f1 := kF b2 z1 f1
 replace z0 := kC b2 z0
 replace z1 := kC b2 z1
 replace bA := nT bA b2
 clear b2
 go_wp2_with fail
 exact bodyPost_ret (v := .tuple #[.agg #[.int .u64 (nbR s (2 * r + 1) (e - 1)), .int .u8 (flR s (2 * r + 1) (e - 1))], .int .i64 (erR (2 * r + 1) (e - 1))]) (by simp [results, Tryz.results50, go_sem, z0, z1]) rfl ⟨rfl, by repeat (first | (with_reducible exact bA) | (with_reducible refine Below.setCell ?_ (by simp) _))⟩
set_option maxRecDepth 100000 in
set_option maxHeartbeats 1000000 in
theorem tell_rest (X Y Z : Nat) (s : Bool) (e : Int) (a : Option Addr) (len cap r : Nat) (a' : Option Addr) (n' cap' : Nat) (w : World) (h : IsW w a len cap (wordsOf r)) (hm : len ≤ 1024) (h0 : r ≠ 0) (hb : blen r ≤ 60000) (hT : Tab w) (cX : w.cell? ⟨X, 0, none⟩ = some (.bool s)) (cY : w.cell? ⟨Y, 0, none⟩ = some (.int .i64 e)) (cZ : w.cell? ⟨Z, 0, none⟩ = some (.bool false)) (he1 : -100000 ≤ e) (he2 : e ≤ 100000) (hn' : (0 : Int) < n') :
  Calls Tryz.prog 50 #[.slice a len cap, .slice a' n' cap', .int .i64 0, .pointer (some ⟨Z, 0, none⟩), .pointer (some ⟨X, 0, none⟩), .pointer (some ⟨Y, 0, none⟩)] w fun q w' => q = .returned (.tuple #[.agg #[.int .u64 (nbR s (2 * r + 1) (e - 1)), .int .u8 (flR s (2 * r + 1) (e - 1))], .int .i64 (erR (2 * r + 1) (e - 1))]) ∧ Below w.heap.size w w' := by
 have bA : Below w.heap.size w (w.alloc (.cells #[.int .u64 0, .int .u8 0] 34)) := below_one _ _
 have SC : Hid _ := shl_eq (i := 1) (h.keep bA) (show len ≤ 17592186044416 by omega) (show shlR (val (wordsOf r)) 1 = (2 * r, 0) by rw [val_words]; exact shl_two h0 hb)
 have hT0 := hT.kept bA
 replace cX := kC bA cX
 replace cY := kC bA cY
 replace cZ := kC bA cZ
 obtain ⟨z0, z1, f0, f1⟩ := fX9 w
 have HR : Hid (r ≠ 0) := h0
 clear h hm h0 hb hT
 go_enter Tryz.func50, Tryz.ntmps50
 go_wp2_with fail
 generalize hw0 : (w.alloc (.cells #[.int .u64 0, .int .u8 0] 34)) = w0 at *
 refine Calls.mono SC.out ?_
 rintro q w1 ⟨ao, n, c, rfl, HN, hn, hO, b1⟩
 clear SC
 have h2 : 2 * r ≠ 0 := by have := HR.out; omega
 have hl : 0 < n := by
  rw [HN.out]
  rcases Nat.eq_zero_or_pos (wordsOf (2 * r)).length with q | q
  ·exact absurd ((words_nil _).1 (List.eq_nil_of_length_eq_zero q)) h2
  ·exact q
 obtain ⟨g, off, rfl, hbk, hc⟩ := hO.1.2.2.2 0 hl
 have hg0 : (wordsOf (2 * r)).getD 0 0 = ((2 * r % 18446744073709551616 : Nat) : Int) := by rw [words_pos _ h2]; rfl
 rw [hg0, Nat.add_zero] at hc
 have ho := or_oneA ((2 * r % 18446744073709551616 : Nat) : Int) (by omega) (by omega)
 have hgf := hO.2 g off 0 rfl hl
 have hfz := hgf.2
 rw [Nat.add_zero] at hfz
 have bS : Below w0.heap.size w0 (w1.setCell ⟨g, off, none⟩ (.int .u64 (bits BinOp.or .u64 ((2 * r % 18446744073709551616 : Nat) : Int) 1))) := b1.setCell hgf.1 _
 have hOS := hO.set (i := 0) hl (v := bits BinOp.or .u64 ((2 * r % 18446744073709551616 : Nat) : Int) 1) (by rw [ho]; omega) (by rw [ho]; omega)
 rw [Nat.add_zero] at hOS
 have hWM : (wordsOf (2 * r)).set 0 (bits BinOp.or .u64 ((2 * r % 18446744073709551616 : Nat) : Int) 1) = wordsOf (2 * r + 1) := by rw [ho, words_markA _ h2, show 2 * (2 * r / 2) + 1 = 2 * r + 1 by omega]
 rw [hWM] at hOS
 have hl1 : (0 : Int) < n := by omega
 have cZ1 := kC b1 cZ
 clear ho hWM hO h2 hgf hg0
 generalize ((2 * r % 18446744073709551616 : Nat) : Int) = x0 at *
 replace f0 := kF bS z0 f0
 replace f1 := kF bS z1 f1
 replace z0 := kC bS z0
 replace z1 := kC bS z1
 replace cX := kC bS cX
 replace cY := kC bS cY
 replace hT0 := hT0.kept bS
 replace bA := nT bA bS
 have NC : Hid _ := pNear_calls s _ n c (wordsOf (2 * r + 1)) (e - 1) _ hOS.1 (by omega) hT0
 rw [val_words] at NC
 clear hOS HN b1 hT0 bS HR cZ
 go_wp2_with fail
 generalize w1.setCell ⟨g, off, none⟩ (.int .u64 (bits BinOp.or .u64 x0 1)) = wS at *
 refine Calls.mono NC.out ?_
 rintro q w2 ⟨rfl, b2⟩
 clear NC
 replace f0 := kF b2 z0 f0
 replace f1 := kF b2 z1 f1
 replace z0 := kC b2 z0
 replace z1 := kC b2 z1
 replace bA := nT bA b2
 clear b2
 go_wp2_with fail
 exact bodyPost_ret (v := .tuple #[.agg #[.int .u64 (nbR s (2 * r + 1) (e - 1)), .int .u8 (flR s (2 * r + 1) (e - 1))], .int .i64 (erR (2 * r + 1) (e - 1))]) (by simp [results, Tryz.results50, go_sem, z0, z1]) rfl ⟨rfl, by repeat (first | (with_reducible exact bA) | (with_reducible refine Below.setCell ?_ (by simp) _))⟩
theorem tellA_calls (X Y Z : Nat) (s l : Bool) (e : Int) (a : Option Addr) (len cap r : Nat) (a' : Option Addr) (n' cap' : Nat) (w : World) (h : IsW w a len cap (wordsOf r)) (hm : len ≤ 1024) (h0 : r ≠ 0) (hb : blen r ≤ 60000) (hT : Tab w) (cX : w.cell? ⟨X, 0, none⟩ = some (.bool s)) (cY : w.cell? ⟨Y, 0, none⟩ = some (.int .i64 e)) (cZ : w.cell? ⟨Z, 0, none⟩ = some (.bool l)) (he1 : -100000 ≤ e) (he2 : e ≤ 100000) (mk : Bool) (hmk : (l || decide (0 < n')) = mk) :
  Calls Tryz.prog 50 #[.slice a len cap, .slice a' n' cap', .int .i64 0, .pointer (some ⟨Z, 0, none⟩), .pointer (some ⟨X, 0, none⟩), .pointer (some ⟨Y, 0, none⟩)] w fun q w' => q = .returned (.tuple #[.agg #[.int .u64 (nbR s (skA r mk) (e - 1)), .int .u8 (flR s (skA r mk) (e - 1))], .int .i64 (erR (skA r mk) (e - 1))]) ∧ Below w.heap.size w w' := by
 subst hmk
 cases l with
 | true => exact tell_lost X Y Z s e a len cap r a' n' cap' w h hm h0 hb hT cX cY cZ he1 he2
 | false =>
  by_cases q : 0 < n'
  ·rw [decide_eq_true q]
   exact tell_rest X Y Z s e a len cap r a' n' cap' w h hm h0 hb hT cX cY cZ he1 he2 (by omega)
  ·rw [decide_eq_false q]
   exact tell_not X Y Z s e a len cap r a' n' cap' w h hm h0 hb hT cX cY cZ he1 he2 (by omega)
set_option maxRecDepth 100000 in
set_option maxHeartbeats 2000000 in
theorem sroot_am (X : Nat) (tp : Int) (A : Nat) (L : Bool) (w : World) (ht : -5000 ≤ tp ∧ tp ≤ 5000) (HU : Units 48 X w (agN 2 tp) A L) (hb1 : 53 * 2 < blen A) (hb2 : blen A ≤ 66 * 2) (hT : Tab w) :
  Calls Tryz.prog 32 #[.agg #[.int .i64 tp, .func (.func 48) #[] #[.pointer (some ⟨X, 0, none⟩)]]] w fun q w' => q = .returned (.tuple #[.agg #[.int .u64 (nbR false (skA (rt 2 A) (ansK 2 A L)) (agX 2 tp - 1)), .int .u8 (flR false (skA (rt 2 A) (ansK 2 A L)) (agX 2 tp - 1))], .int .i64 (erR (skA (rt 2 A) (ansK 2 A L)) (agX 2 tp - 1))]) ∧ Below w.heap.size w w' := by
 have bA : Below w.heap.size w ((w.alloc (.cells #[.int .i64 tp, .func (.func 48) #[] #[.pointer (some ⟨X, 0, none⟩)]] 54)).alloc (.cells #[.int .u64 0, .int .u8 0] 34)) := nT (below_one _ _) (below_one _ _)
 have HC : Hid _ := shift_am2 X tp A L ((w.alloc (.cells #[.int .i64 tp, .func (.func 48) #[] #[.pointer (some ⟨X, 0, none⟩)]] 54)).alloc (.cells #[.int .u64 0, .int .u8 0] 34)) (by omega) (by omega) (fun W b => HU W (nT bA b))
 have hT0 := hT.kept bA
 have HB : Hid _ := rt_bd 2 A (by decide) hb1 hb2
 have HF := rt_ok (k := 2) (A := A) (by omega)
 have HL := rt_len (k := 2) (A := A) (by decide) (by omega)
 have hN1 := agN_bd 2 tp (by decide)
 have hx := agX_bd 2 tp (Or.inl rfl) ht
 have hx1 : -100000 ≤ agX 2 tp := by omega
 have hx2 : agX 2 tp ≤ 100000 := by omega
 have hq : (-(agN 2 tp)).tdiv 2 = agX 2 tp := rfl
 have hn1 : -10000 ≤ agN 2 tp := by omega
 have hn2 : agN 2 tp ≤ 10000 := by omega
 have z0 : ((w.alloc (.cells #[.int .i64 tp, .func (.func 48) #[] #[.pointer (some ⟨X, 0, none⟩)]] 54)).alloc (.cells #[.int .u64 0, .int .u8 0] 34)).cell? ⟨w.heap.size + 1, 0, none⟩ = some (.int .u64 0) := by go_simp
 have z1 : ((w.alloc (.cells #[.int .i64 tp, .func (.func 48) #[] #[.pointer (some ⟨X, 0, none⟩)]] 54)).alloc (.cells #[.int .u64 0, .int .u8 0] 34)).cell? ⟨w.heap.size + 1, 1, none⟩ = some (.int .u8 0) := by go_simp
 have f0 : ((w.alloc (.cells #[.int .i64 tp, .func (.func 48) #[] #[.pointer (some ⟨X, 0, none⟩)]] 54)).alloc (.cells #[.int .u64 0, .int .u8 0] 34)).frozen? ⟨w.heap.size + 1, 0, none⟩ = false := by go_simp
 have f1 : ((w.alloc (.cells #[.int .i64 tp, .func (.func 48) #[] #[.pointer (some ⟨X, 0, none⟩)]] 54)).alloc (.cells #[.int .u64 0, .int .u8 0] 34)).frozen? ⟨w.heap.size + 1, 1, none⟩ = false := by go_simp
 clear HU hb1 hb2 hT ht hN1 hx
 generalize agX 2 tp = EX at *
 generalize agN 2 tp = N at *
 go_enter Tryz.func32, Tryz.ntmps32
 go_wp2_with fail
 generalize ((w.alloc (.cells #[.int .i64 tp, .func (.func 48) #[] #[.pointer (some ⟨X, 0, none⟩)]] 54)).alloc (.cells #[.int .u64 0, .int .u8 0] 34)) = w0 at *
 refine Calls.mono HC.out ?_
 rintro q w1 ⟨ao, n, c, rfl, HN, hn, hO, b1⟩
 clear HC
 replace f0 := kF b1 z0 f0
 replace f1 := kF b1 z1 f1
 replace z0 := kC b1 z0
 replace z1 := kC b1 z1
 replace hT0 := hT0.kept b1
 replace bA := nT bA b1
 clear b1
 have TC : Hid _ := teller_calls false EX L w1
 go_wp2_with fail
 refine Calls.mono TC.out ?_
 rintro q w2 ⟨X', Y', Z', rfl, cX, cY, cZ, b2⟩
 clear TC
 replace f0 := kF b2 z0 f0
 replace f1 := kF b2 z1 f1
 replace z0 := kC b2 z0
 replace z1 := kC b2 z1
 replace hO := hO.keep b2
 replace hT0 := hT0.kept b2
 replace bA := nT bA b2
 clear b2
 have RC : Hid _ := sqrt_calls ao n c (wordsOf A) w2 hO.1 (by omega)
 rw [val_words, HF.out.1, HF.out.2.1, HF.out.2.2] at RC
 go_wp2_with fail
 refine Calls.mono RC.out ?_
 rintro q w3 ⟨v1, v2, rfl, hA1, hA2, b3⟩
 obtain ⟨a3, n3, c3, rfl, HN3, hn3, hO3⟩ := hA1.open HL.out.1
 obtain ⟨a4, n4, c4, rfl, HN4, hn4, hO4⟩ := hA2.open HL.out.2
 clear RC hA1 hA2
 replace f0 := kF b3 z0 f0
 replace f1 := kF b3 z1 f1
 replace z0 := kC b3 z0
 replace z1 := kC b3 z1
 replace cX := kC b3 cX
 replace cY := kC b3 cY
 replace cZ := kC b3 cZ
 replace hT0 := hT0.kept b3
 replace bA := nT bA b3
 clear b3 hO HN hn
 have LC : Hid _ := tellA_calls X' Y' Z' false L EX a3 n3 c3 (rt 2 A) a4 n4 c4 w3 hO3.1 hn3 HB.out.2.2 (by have := HB.out.2.1; omega) hT0 cX cY cZ hx1 hx2 (ansK 2 A L) (mark_eq HN4.out)
 clear hO3 hO4 HN3 HN4 hn3 hn4 cX cY cZ hT0
 go_wp2_with fail
 refine Calls.mono LC.out ?_
 rintro q w4 ⟨rfl, b4⟩
 clear LC
 replace f0 := kF b4 z0 f0
 replace f1 := kF b4 z1 f1
 replace z0 := kC b4 z0
 replace z1 := kC b4 z1
 replace bA := nT bA b4
 clear b4
 go_wp2_with fail
 exact bodyPost_ret (v := .tuple #[.agg #[.int .u64 (nbR false (skA (rt 2 A) (ansK 2 A L)) (EX - 1)), .int .u8 (flR false (skA (rt 2 A) (ansK 2 A L)) (EX - 1))], .int .i64 (erR (skA (rt 2 A) (ansK 2 A L)) (EX - 1))]) (by simp [results, Tryz.results32, go_sem, z0, z1]) rfl ⟨rfl, by repeat (first | (with_reducible exact bA) | (with_reducible refine Below.setCell ?_ (by simp) _))⟩
set_option maxRecDepth 100000 in
set_option maxHeartbeats 2000000 in
theorem sroot_in (X : Nat) (tp : Int) (A : Nat) (L : Bool) (w : World) (ht : -5000 ≤ tp ∧ tp ≤ 5000) (HU : Units 62 X w (agN 2 tp) A L) (hb1 : 53 * 2 < blen A) (hb2 : blen A ≤ 66 * 2) (hT : Tab w) :
  Calls Tryz.prog 32 #[.agg #[.int .i64 tp, .func (.func 62) #[] #[.pointer (some ⟨X, 0, none⟩)]]] w fun q w' => q = .returned (.tuple #[.agg #[.int .u64 (nbR false (skA (rt 2 A) (ansK 2 A L)) (agX 2 tp - 1)), .int .u8 (flR false (skA (rt 2 A) (ansK 2 A L)) (agX 2 tp - 1))], .int .i64 (erR (skA (rt 2 A) (ansK 2 A L)) (agX 2 tp - 1))]) ∧ Below w.heap.size w w' := by
 have bA : Below w.heap.size w ((w.alloc (.cells #[.int .i64 tp, .func (.func 62) #[] #[.pointer (some ⟨X, 0, none⟩)]] 54)).alloc (.cells #[.int .u64 0, .int .u8 0] 34)) := nT (below_one _ _) (below_one _ _)
 have HC : Hid _ := shift_in2 X tp A L ((w.alloc (.cells #[.int .i64 tp, .func (.func 62) #[] #[.pointer (some ⟨X, 0, none⟩)]] 54)).alloc (.cells #[.int .u64 0, .int .u8 0] 34)) (by omega) (by omega) (fun W b => HU W (nT bA b))
 have hT0 := hT.kept bA
 have HB : Hid _ := rt_bd 2 A (by decide) hb1 hb2
 have HF := rt_ok (k := 2) (A := A) (by omega)
 have HL := rt_len (k := 2) (A := A) (by decide) (by omega)
 have hN1 := agN_bd 2 tp (by decide)
 have hx := agX_bd 2 tp (Or.inl rfl) ht
 have hx1 : -100000 ≤ agX 2 tp := by omega
 have hx2 : agX 2 tp ≤ 100000 := by omega
 have hq : (-(agN 2 tp)).tdiv 2 = agX 2 tp := rfl
 have hn1 : -10000 ≤ agN 2 tp := by omega
 have hn2 : agN 2 tp ≤ 10000 := by omega
 have z0 : ((w.alloc (.cells #[.int .i64 tp, .func (.func 62) #[] #[.pointer (some ⟨X, 0, none⟩)]] 54)).alloc (.cells #[.int .u64 0, .int .u8 0] 34)).cell? ⟨w.heap.size + 1, 0, none⟩ = some (.int .u64 0) := by go_simp
 have z1 : ((w.alloc (.cells #[.int .i64 tp, .func (.func 62) #[] #[.pointer (some ⟨X, 0, none⟩)]] 54)).alloc (.cells #[.int .u64 0, .int .u8 0] 34)).cell? ⟨w.heap.size + 1, 1, none⟩ = some (.int .u8 0) := by go_simp
 have f0 : ((w.alloc (.cells #[.int .i64 tp, .func (.func 62) #[] #[.pointer (some ⟨X, 0, none⟩)]] 54)).alloc (.cells #[.int .u64 0, .int .u8 0] 34)).frozen? ⟨w.heap.size + 1, 0, none⟩ = false := by go_simp
 have f1 : ((w.alloc (.cells #[.int .i64 tp, .func (.func 62) #[] #[.pointer (some ⟨X, 0, none⟩)]] 54)).alloc (.cells #[.int .u64 0, .int .u8 0] 34)).frozen? ⟨w.heap.size + 1, 1, none⟩ = false := by go_simp
 clear HU hb1 hb2 hT ht hN1 hx
 generalize agX 2 tp = EX at *
 generalize agN 2 tp = N at *
 go_enter Tryz.func32, Tryz.ntmps32
 go_wp2_with fail
 generalize ((w.alloc (.cells #[.int .i64 tp, .func (.func 62) #[] #[.pointer (some ⟨X, 0, none⟩)]] 54)).alloc (.cells #[.int .u64 0, .int .u8 0] 34)) = w0 at *
 refine Calls.mono HC.out ?_
 rintro q w1 ⟨ao, n, c, rfl, HN, hn, hO, b1⟩
 clear HC
 replace f0 := kF b1 z0 f0
 replace f1 := kF b1 z1 f1
 replace z0 := kC b1 z0
 replace z1 := kC b1 z1
 replace hT0 := hT0.kept b1
 replace bA := nT bA b1
 clear b1
 have TC : Hid _ := teller_calls false EX L w1
 go_wp2_with fail
 refine Calls.mono TC.out ?_
 rintro q w2 ⟨X', Y', Z', rfl, cX, cY, cZ, b2⟩
 clear TC
 replace f0 := kF b2 z0 f0
 replace f1 := kF b2 z1 f1
 replace z0 := kC b2 z0
 replace z1 := kC b2 z1
 replace hO := hO.keep b2
 replace hT0 := hT0.kept b2
 replace bA := nT bA b2
 clear b2
 have RC : Hid _ := sqrt_calls ao n c (wordsOf A) w2 hO.1 (by omega)
 rw [val_words, HF.out.1, HF.out.2.1, HF.out.2.2] at RC
 go_wp2_with fail
 refine Calls.mono RC.out ?_
 rintro q w3 ⟨v1, v2, rfl, hA1, hA2, b3⟩
 obtain ⟨a3, n3, c3, rfl, HN3, hn3, hO3⟩ := hA1.open HL.out.1
 obtain ⟨a4, n4, c4, rfl, HN4, hn4, hO4⟩ := hA2.open HL.out.2
 clear RC hA1 hA2
 replace f0 := kF b3 z0 f0
 replace f1 := kF b3 z1 f1
 replace z0 := kC b3 z0
 replace z1 := kC b3 z1
 replace cX := kC b3 cX
 replace cY := kC b3 cY
 replace cZ := kC b3 cZ
 replace hT0 := hT0.kept b3
 replace bA := nT bA b3
 clear b3 hO HN hn
 have LC : Hid _ := tellA_calls X' Y' Z' false L EX a3 n3 c3 (rt 2 A) a4 n4 c4 w3 hO3.1 hn3 HB.out.2.2 (by have := HB.out.2.1; omega) hT0 cX cY cZ hx1 hx2 (ansK 2 A L) (mark_eq HN4.out)
 clear hO3 hO4 HN3 HN4 hn3 hn4 cX cY cZ hT0
 go_wp2_with fail
 refine Calls.mono LC.out ?_
 rintro q w4 ⟨rfl, b4⟩
 clear LC
 replace f0 := kF b4 z0 f0
 replace f1 := kF b4 z1 f1
 replace z0 := kC b4 z0
 replace z1 := kC b4 z1
 replace bA := nT bA b4
 clear b4
 go_wp2_with fail
 exact bodyPost_ret (v := .tuple #[.agg #[.int .u64 (nbR false (skA (rt 2 A) (ansK 2 A L)) (EX - 1)), .int .u8 (flR false (skA (rt 2 A) (ansK 2 A L)) (EX - 1))], .int .i64 (erR (skA (rt 2 A) (ansK 2 A L)) (EX - 1))]) (by simp [results, Tryz.results32, go_sem, z0, z1]) rfl ⟨rfl, by repeat (first | (with_reducible exact bA) | (with_reducible refine Below.setCell ?_ (by simp) _))⟩
end Go.Proofs.YtionhpedghmecaaGreatDoor
