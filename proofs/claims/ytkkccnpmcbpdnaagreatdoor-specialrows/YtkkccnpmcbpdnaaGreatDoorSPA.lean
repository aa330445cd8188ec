/- Package special: the first line that holds answers. -/
import Derived.Test.YtkkccnpmcbpdnaaGreatDoorSPN
namespace Go.Proofs.YtkkccnpmcbpdnaaGreatDoor
open Go.RowKit

set_option maxRecDepth 100000 in
set_option maxHeartbeats 8000000 in
theorem rowAt_one (F : Nat) (ls : List Li) (hF : CL F ls) (hl : ls.length ≤ 64) (x y : Int) (w : World) (h : U x) (k : U y) (hT : Tab w) (hM : Meas w) :
    Calls Tryz.prog 10 #[.iface 73 (.agg #[.func (.func F) #[] #[]]), .agg #[.int .u64 x, .int .u64 y]] w fun r w' => r = .returned (RO (rowsAt (withN [] ls) x y)) ∧ Below w.heap.size w w' := by
  have bA : Below w.heap.size w ((w.alloc (.cells #[.int .u64 x, .int .u64 y] 40)).alloc (.cells #[.int .u64 0, .int .u8 0, .int .u8 0] 37)) := below_trans (below_alloc _ _) (below_alloc _ _)
  have k0 : ((w.alloc (.cells #[.int .u64 x, .int .u64 y] 40)).alloc (.cells #[.int .u64 0, .int .u8 0, .int .u8 0] 37)).cell? ⟨w.heap.size, 0, none⟩ = some (.int .u64 x) := by go_simp
  have k1 : ((w.alloc (.cells #[.int .u64 x, .int .u64 y] 40)).alloc (.cells #[.int .u64 0, .int .u8 0, .int .u8 0] 37)).cell? ⟨w.heap.size, 1, none⟩ = some (.int .u64 y) := by go_simp
  have z0 : ((w.alloc (.cells #[.int .u64 x, .int .u64 y] 40)).alloc (.cells #[.int .u64 0, .int .u8 0, .int .u8 0] 37)).cell? ⟨w.heap.size + 1, 0, none⟩ = some (.int .u64 0) := by go_simp
  have z1 : ((w.alloc (.cells #[.int .u64 x, .int .u64 y] 40)).alloc (.cells #[.int .u64 0, .int .u8 0, .int .u8 0] 37)).cell? ⟨w.heap.size + 1, 1, none⟩ = some (.int .u8 0) := by go_simp
  have z2 : ((w.alloc (.cells #[.int .u64 x, .int .u64 y] 40)).alloc (.cells #[.int .u64 0, .int .u8 0, .int .u8 0] 37)).cell? ⟨w.heap.size + 1, 2, none⟩ = some (.int .u8 0) := by go_simp
  have f0 : ((w.alloc (.cells #[.int .u64 x, .int .u64 y] 40)).alloc (.cells #[.int .u64 0, .int .u8 0, .int .u8 0] 37)).frozen? ⟨w.heap.size + 1, 0, none⟩ = false := by go_simp
  have f1 : ((w.alloc (.cells #[.int .u64 x, .int .u64 y] 40)).alloc (.cells #[.int .u64 0, .int .u8 0, .int .u8 0] 37)).frozen? ⟨w.heap.size + 1, 1, none⟩ = false := by go_simp
  have f2 : ((w.alloc (.cells #[.int .u64 x, .int .u64 y] 40)).alloc (.cells #[.int .u64 0, .int .u8 0, .int .u8 0] 37)).frozen? ⟨w.heap.size + 1, 2, none⟩ = false := by go_simp
  have OC : Hid _ := inOrder_one F ls _ hF (hM.kept bA) hl
  have HL : Hid ((withN [] ls).length ≤ 200) := by rw [Hid, withN_app]; simp only [List.length_append, List.length_cons, List.length_nil]; omega
  generalize withN [] ls = us at *
  go_enter Tryz.func10, Tryz.ntmps10
  go_wp2_with fail
  generalize ((w.alloc (.cells #[.int .u64 x, .int .u64 y] 40)).alloc (.cells #[.int .u64 0, .int .u8 0, .int .u8 0] 37)) = w0 at *
  refine Calls.mono OC.out ?_
  rintro r w1 ⟨a, n, c, vs, rfl, hn, hI, hf, b1⟩
  have HN : Hid (n = us.length) := hn
  have HN2 : n ≤ 200 := by rw [hn]; exact HL.out
  have hcap := hI.2.1.1
  replace k0 := pcell b1 k0
  replace k1 := pcell b1 k1
  replace f0 := pfroz b1 z0 f0
  replace f1 := pfroz b1 z1 f1
  replace f2 := pfroz b1 z2 f2
  replace z0 := pcell b1 z0
  replace z1 := pcell b1 z1
  replace z2 := pcell b1 z2
  replace bA := below_trans bA b1
  clear b1 OC hn HL
  go_wp2_with fail
  go_loopw [6, 10] (fun _ i wr => ∃ k : Nat, k ≤ n ∧ i = .int .i64 k ∧ rowsAt us x y = rowsAt (us.drop k) x y ∧ Below w1.heap.size w1 wr) (fun _ i _ => n - (intOf i).toNat)
  case atStart => exact ⟨0, by omega, rfl, rfl, Below.refl _ _⟩
  case round =>
    obtain ⟨j, hj, rfl, hr, hbr⟩ := hrel
    have HR : Hid (rowsAt us x y = rowsAt (us.drop j) x y) := hr
    clear hr
    replace k0 := pcell hbr k0
    replace k1 := pcell hbr k1
    replace f0 := pfroz hbr z0 f0
    replace f1 := pfroz hbr z1 f1
    replace f2 := pfroz hbr z2 f2
    replace z0 := pcell hbr z0
    replace z1 := pcell hbr z1
    replace z2 := pcell hbr z2
    replace bA := below_trans bA hbr
    by_cases hjn : j = n
    · subst hjn
      have HE : Hid (rowsAt us x y = (0, 0, 0)) := by rw [Hid, HR.out, HN.out, List.drop_length]; rfl
      clear HR
      go_wp2_with fail
      refine bodyPost_ret (v := RO (0, 0, 0)) (by simp [results, Tryz.results10, go_sem, z0, z1, z2, RO]) rfl ⟨by rw [HE.out], ?_⟩
      repeat (first | (with_reducible exact bA) | (with_reducible refine Below.setCell ?_ (by simp) _))
    · have hlt : j < n := by omega
      have hjl : j < us.length := by rw [← HN.out]; exact hlt
      obtain ⟨t, an, e1, e2, ht, ha⟩ := hf.get j us[j] (List.getElem?_eq_getElem hjl)
      obtain ⟨F, cF, rfl, hBF, hCF⟩ := ht
      obtain ⟨G, cG, rfl, hBG, hCG, _⟩ := ha
      obtain ⟨b, off, e0, hbs, c1⟩ := hI.2.2 (j * 2) (by omega)
      obtain ⟨b', off', e0', _, c2⟩ := hI.2.2 (j * 2 + 1) (by omega)
      rw [e0] at e0'
      simp only [Option.some.injEq, Addr.mk.injEq] at e0'
      obtain ⟨rfl, rfl, _⟩ := e0'
      subst e0
      rw [e1] at c1
      rw [e2] at c2
      have HD : Hid (rowsAt (us.drop j) x y = if (us[j]).1 x y then (us[j]).2 x y else rowsAt (us.drop (j + 1)) x y) := by rw [Hid, List.drop_eq_getElem_cons hjl]; rfl
      have c1' := pcell hbr c1
      have c2' := pcell hbr c2
      have c2'' : wr.cell? ⟨b, off + (j * 2 + 1), none⟩ = wr.cell? ⟨b, off + j * 2 + 1, none⟩ := rfl
      rw [c2''] at c2'
      clear c1 c2 e1 e2 c2''
      have hB1 : ∀ (xs : Array Value) (w : World), Sem.run Tryz.prog (callFunc F xs) w = .ok (.enter F xs) w := hBF
      have hB2 : ∀ (xs : Array Value) (w : World), Sem.run Tryz.prog (callFunc G xs) w = .ok (.enter G xs) w := hBG
      have C : Hid _ := fun W (b : Below w1.heap.size w1 W) (hT : Tab W) => hCF W b hT x y h k
      have D : Hid _ := fun W (b : Below w1.heap.size w1 W) (hT : Tab W) => hCG W b hT x y h k
      clear hBF hBG hCF hCG
      generalize us[j].1 x y = tv at *
      generalize us[j].2 x y = av at *
      obtain ⟨R1, R2, R3⟩ := av
      unfold RO at D
      simp only at D
      have bX := below_alloc wr (.cells #[.func (.func F) #[] cF, .func (.func G) #[] cG] 60)
      have l0 : (wr.alloc (.cells #[.func (.func F) #[] cF, .func (.func G) #[] cG] 60)).cell? ⟨wr.heap.size, 0, none⟩ = some (.func (.func F) #[] cF) := by go_simp
      have l1 : (wr.alloc (.cells #[.func (.func F) #[] cF, .func (.func G) #[] cG] 60)).cell? ⟨wr.heap.size, 1, none⟩ = some (.func (.func G) #[] cG) := by go_simp
      have s0 := pcell bX k0
      have s1 := pcell bX k1
      go_wp2_with fail
      refine Calls.mono (C.out _ (below_trans hbr bX) (hT.kept (below_trans bA bX))) ?_
      rintro r w2 ⟨rfl, b2⟩
      have bY := below_trans bX b2
      replace k0 := pcell bY k0
      replace k1 := pcell bY k1
      replace f0 := pfroz bY z0 f0
      replace f1 := pfroz bY z1 f1
      replace f2 := pfroz bY z2 f2
      replace z0 := pcell bY z0
      replace z1 := pcell bY z1
      replace z2 := pcell bY z2
      replace l0 := pcell b2 l0
      replace l1 := pcell b2 l1
      replace bA := below_trans bA bY
      replace hbr := below_trans hbr bY
      clear b2 bX bY C c1' c2' s0 s1
      cases tv with
      | false =>
        have HD2 : Hid (rowsAt (us.drop j) x y = rowsAt (us.drop (j + 1)) x y) := by rw [Hid, HD.out]; rfl
        clear HD
        go_wp2_with fail
        go_roundw
        case rel => exact ⟨j + 1, by omega, by go_num, by rw [HR.out, HD2.out], hbr⟩
        case measure => simp [intOf]; omega
      | true =>
        have HD2 : Hid (rowsAt (us.drop j) x y = (R1, R2, R3)) := by rw [Hid, HD.out]; rfl
        clear HD
        go_wp2_with fail
        refine Calls.mono (D.out _ hbr (hT.kept bA)) ?_
        rintro r w3 ⟨rfl, b3⟩
        replace f0 := pfroz b3 z0 f0
        replace f1 := pfroz b3 z1 f1
        replace f2 := pfroz b3 z2 f2
        replace z0 := pcell b3 z0
        replace z1 := pcell b3 z1
        replace z2 := pcell b3 z2
        replace bA := below_trans bA b3
        clear b3 D
        go_wp2_with fail
        refine bodyPost_ret (v := RO (R1, R2, R3)) (by simp [results, Tryz.results10, go_sem, z0, z1, z2, RO]) rfl ⟨by rw [HR.out, HD2.out], ?_⟩
        repeat (first | (with_reducible exact bA) | (with_reducible refine Below.setCell ?_ (by simp) _))

set_option maxRecDepth 100000 in
set_option maxHeartbeats 8000000 in
theorem rowAt_two (F G : Nat) (la ls : List Li) (hF : CL F la) (hG : CL G ls) (hl : la.length ≤ 64) (hk : ls.length ≤ 64) (x y : Int) (w : World) (h : U x) (k : U y) (hT : Tab w) (hM : Meas w) :
    Calls Tryz.prog 10 #[.iface 75 (.agg #[.func (.func F) #[] #[], .func (.func G) #[] #[]]), .agg #[.int .u64 x, .int .u64 y]] w fun r w' => r = .returned (RO (rowsAt (withN la ls) x y)) ∧ Below w.heap.size w w' := by
  have bA : Below w.heap.size w ((w.alloc (.cells #[.int .u64 x, .int .u64 y] 40)).alloc (.cells #[.int .u64 0, .int .u8 0, .int .u8 0] 37)) := below_trans (below_alloc _ _) (below_alloc _ _)
  have k0 : ((w.alloc (.cells #[.int .u64 x, .int .u64 y] 40)).alloc (.cells #[.int .u64 0, .int .u8 0, .int .u8 0] 37)).cell? ⟨w.heap.size, 0, none⟩ = some (.int .u64 x) := by go_simp
  have k1 : ((w.alloc (.cells #[.int .u64 x, .int .u64 y] 40)).alloc (.cells #[.int .u64 0, .int .u8 0, .int .u8 0] 37)).cell? ⟨w.heap.size, 1, none⟩ = some (.int .u64 y) := by go_simp
  have z0 : ((w.alloc (.cells #[.int .u64 x, .int .u64 y] 40)).alloc (.cells #[.int .u64 0, .int .u8 0, .int .u8 0] 37)).cell? ⟨w.heap.size + 1, 0, none⟩ = some (.int .u64 0) := by go_simp
  have z1 : ((w.alloc (.cells #[.int .u64 x, .int .u64 y] 40)).alloc (.cells #[.int .u64 0, .int .u8 0, .int .u8 0] 37)).cell? ⟨w.heap.size + 1, 1, none⟩ = some (.int .u8 0) := by go_simp
  have z2 : ((w.alloc (.cells #[.int .u64 x, .int .u64 y] 40)).alloc (.cells #[.int .u64 0, .int .u8 0, .int .u8 0] 37)).cell? ⟨w.heap.size + 1, 2, none⟩ = some (.int .u8 0) := by go_simp
  have f0 : ((w.alloc (.cells #[.int .u64 x, .int .u64 y] 40)).alloc (.cells #[.int .u64 0, .int .u8 0, .int .u8 0] 37)).frozen? ⟨w.heap.size + 1, 0, none⟩ = false := by go_simp
  have f1 : ((w.alloc (.cells #[.int .u64 x, .int .u64 y] 40)).alloc (.cells #[.int .u64 0, .int .u8 0, .int .u8 0] 37)).frozen? ⟨w.heap.size + 1, 1, none⟩ = false := by go_simp
  have f2 : ((w.alloc (.cells #[.int .u64 x, .int .u64 y] 40)).alloc (.cells #[.int .u64 0, .int .u8 0, .int .u8 0] 37)).frozen? ⟨w.heap.size + 1, 2, none⟩ = false := by go_simp
  have OC : Hid _ := inOrder_two F G la ls _ hF hG (hM.kept bA) hl hk
  have HL : Hid ((withN la ls).length ≤ 200) := by rw [Hid, withN_app]; simp only [List.length_append, List.length_cons, List.length_nil]; omega
  generalize withN la ls = us at *
  go_enter Tryz.func10, Tryz.ntmps10
  go_wp2_with fail
  generalize ((w.alloc (.cells #[.int .u64 x, .int .u64 y] 40)).alloc (.cells #[.int .u64 0, .int .u8 0, .int .u8 0] 37)) = w0 at *
  refine Calls.mono OC.out ?_
  rintro r w1 ⟨a, n, c, vs, rfl, hn, hI, hf, b1⟩
  have HN : Hid (n = us.length) := hn
  have HN2 : n ≤ 200 := by rw [hn]; exact HL.out
  have hcap := hI.2.1.1
  replace k0 := pcell b1 k0
  replace k1 := pcell b1 k1
  replace f0 := pfroz b1 z0 f0
  replace f1 := pfroz b1 z1 f1
  replace f2 := pfroz b1 z2 f2
  replace z0 := pcell b1 z0
  replace z1 := pcell b1 z1
  replace z2 := pcell b1 z2
  replace bA := below_trans bA b1
  clear b1 OC hn HL
  go_wp2_with fail
  go_loopw [6, 10] (fun _ i wr => ∃ k : Nat, k ≤ n ∧ i = .int .i64 k ∧ rowsAt us x y = rowsAt (us.drop k) x y ∧ Below w1.heap.size w1 wr) (fun _ i _ => n - (intOf i).toNat)
  case atStart => exact ⟨0, by omega, rfl, rfl, Below.refl _ _⟩
  case round =>
    obtain ⟨j, hj, rfl, hr, hbr⟩ := hrel
    have HR : Hid (rowsAt us x y = rowsAt (us.drop j) x y) := hr
    clear hr
    replace k0 := pcell hbr k0
    replace k1 := pcell hbr k1
    replace f0 := pfroz hbr z0 f0
    replace f1 := pfroz hbr z1 f1
    replace f2 := pfroz hbr z2 f2
    replace z0 := pcell hbr z0
    replace z1 := pcell hbr z1
    replace z2 := pcell hbr z2
    replace bA := below_trans bA hbr
    by_cases hjn : j = n
    · subst hjn
      have HE : Hid (rowsAt us x y = (0, 0, 0)) := by rw [Hid, HR.out, HN.out, List.drop_length]; rfl
      clear HR
      go_wp2_with fail
      refine bodyPost_ret (v := RO (0, 0, 0)) (by simp [results, Tryz.results10, go_sem, z0, z1, z2, RO]) rfl ⟨by rw [HE.out], ?_⟩
      repeat (first | (with_reducible exact bA) | (with_reducible refine Below.setCell ?_ (by simp) _))
    · have hlt : j < n := by omega
      have hjl : j < us.length := by rw [← HN.out]; exact hlt
      obtain ⟨t, an, e1, e2, ht, ha⟩ := hf.get j us[j] (List.getElem?_eq_getElem hjl)
      obtain ⟨F'', cF, rfl, hBF, hCF⟩ := ht
      obtain ⟨G'', cG, rfl, hBG, hCG, _⟩ := ha
      obtain ⟨b, off, e0, hbs, c1⟩ := hI.2.2 (j * 2) (by omega)
      obtain ⟨b', off', e0', _, c2⟩ := hI.2.2 (j * 2 + 1) (by omega)
      rw [e0] at e0'
      simp only [Option.some.injEq, Addr.mk.injEq] at e0'
      obtain ⟨rfl, rfl, _⟩ := e0'
      subst e0
      rw [e1] at c1
      rw [e2] at c2
      have HD : Hid (rowsAt (us.drop j) x y = if (us[j]).1 x y then (us[j]).2 x y else rowsAt (us.drop (j + 1)) x y) := by rw [Hid, List.drop_eq_getElem_cons hjl]; rfl
      have c1' := pcell hbr c1
      have c2' := pcell hbr c2
      have c2'' : wr.cell? ⟨b, off + (j * 2 + 1), none⟩ = wr.cell? ⟨b, off + j * 2 + 1, none⟩ := rfl
      rw [c2''] at c2'
      clear c1 c2 e1 e2 c2''
      have hB1 : ∀ (xs : Array Value) (w : World), Sem.run Tryz.prog (callFunc F'' xs) w = .ok (.enter F'' xs) w := hBF
      have hB2 : ∀ (xs : Array Value) (w : World), Sem.run Tryz.prog (callFunc G'' xs) w = .ok (.enter G'' xs) w := hBG
      have C : Hid _ := fun W (b : Below w1.heap.size w1 W) (hT : Tab W) => hCF W b hT x y h k
      have D : Hid _ := fun W (b : Below w1.heap.size w1 W) (hT : Tab W) => hCG W b hT x y h k
      clear hBF hBG hCF hCG
      generalize us[j].1 x y = tv at *
      generalize us[j].2 x y = av at *
      obtain ⟨R1, R2, R3⟩ := av
      unfold RO at D
      simp only at D
      have bX := below_alloc wr (.cells #[.func (.func F'') #[] cF, .func (.func G'') #[] cG] 60)
      have l0 : (wr.alloc (.cells #[.func (.func F'') #[] cF, .func (.func G'') #[] cG] 60)).cell? ⟨wr.heap.size, 0, none⟩ = some (.func (.func F'') #[] cF) := by go_simp
      have l1 : (wr.alloc (.cells #[.func (.func F'') #[] cF, .func (.func G'') #[] cG] 60)).cell? ⟨wr.heap.size, 1, none⟩ = some (.func (.func G'') #[] cG) := by go_simp
      have s0 := pcell bX k0
      have s1 := pcell bX k1
      go_wp2_with fail
      refine Calls.mono (C.out _ (below_trans hbr bX) (hT.kept (below_trans bA bX))) ?_
      rintro r w2 ⟨rfl, b2⟩
      have bY := below_trans bX b2
      replace k0 := pcell bY k0
      replace k1 := pcell bY k1
      replace f0 := pfroz bY z0 f0
      replace f1 := pfroz bY z1 f1
      replace f2 := pfroz bY z2 f2
      replace z0 := pcell bY z0
      replace z1 := pcell bY z1
      replace z2 := pcell bY z2
      replace l0 := pcell b2 l0
      replace l1 := pcell b2 l1
      replace bA := below_trans bA bY
      replace hbr := below_trans hbr bY
      clear b2 bX bY C c1' c2' s0 s1
      cases tv with
      | false =>
        have HD2 : Hid (rowsAt (us.drop j) x y = rowsAt (us.drop (j + 1)) x y) := by rw [Hid, HD.out]; rfl
        clear HD
        go_wp2_with fail
        go_roundw
        case rel => exact ⟨j + 1, by omega, by go_num, by rw [HR.out, HD2.out], hbr⟩
        case measure => simp [intOf]; omega
      | true =>
        have HD2 : Hid (rowsAt (us.drop j) x y = (R1, R2, R3)) := by rw [Hid, HD.out]; rfl
        clear HD
        go_wp2_with fail
        refine Calls.mono (D.out _ hbr (hT.kept bA)) ?_
        rintro r w3 ⟨rfl, b3⟩
        replace f0 := pfroz b3 z0 f0
        replace f1 := pfroz b3 z1 f1
        replace f2 := pfroz b3 z2 f2
        replace z0 := pcell b3 z0
        replace z1 := pcell b3 z1
        replace z2 := pcell b3 z2
        replace bA := below_trans bA b3
        clear b3 D
        go_wp2_with fail
        refine bodyPost_ret (v := RO (R1, R2, R3)) (by simp [results, Tryz.results10, go_sem, z0, z1, z2, RO]) rfl ⟨by rw [HR.out, HD2.out], ?_⟩
        repeat (first | (with_reducible exact bA) | (with_reducible refine Below.setCell ?_ (by simp) _))

end Go.Proofs.YtkkccnpmcbpdnaaGreatDoor
