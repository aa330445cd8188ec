/- Package ival: quotients: dividing as a way, done; Div. -/
import Derived.Laws.EntriesVeiled
import Derived.Test.YtahpdcbmekgkfaaGreatDoorCR2
import Derived.Test.YtahpdcbmekgkfaaGreatDoorCR
import Derived.Test.YtahpdcbmekgkfaaGreatDoorAL
import Derived.Test.YtahpdcbmekgkfaaGreatDoorIVI
import Derived.Test.YtahpdcbmekgkfaaGreatDoorFX
namespace Go.Proofs.YtahpdcbmekgkfaaGreatDoor
open Go.RowKit
set_option maxHeartbeats 16000000
set_option maxRecDepth 100000
def AnsI (B : Nat) (w : World) (r : Ending) (L H : Bool × Nat × Int) (E : Int) : Prop := ∃ al nl cl ah nh ch, r = .returned (.tuple #[ivT (mT L al nl cl) (mT H ah nh ch), .int .i64 E]) ∧ OwP B w L al nl cl ∧ OwP B w H ah nh ch
theorem ansI_nil (B : Nat) (w : World) (k : Int) : AnsI B w (.returned (.tuple #[zIvI, .int .i64 k])) (false, 0, 0) (false, 0, 0) k :=
 ⟨none, 0, 0, none, 0, 0, rfl, ⟨by omega, by rw [words_zero]; exact ⟨isW_nil _, fun b off i e hi => by omega⟩⟩, ⟨by omega, by rw [words_zero]; exact ⟨isW_nil _, fun b off i e hi => by omega⟩⟩⟩
def owT (L H : Bool × Nat × Int) (p : Int) : Int := owE L.1 L.2.1 L.2.2 H.1 H.2.1 H.2.2 p
def owTL (L H : Bool × Nat × Int) (p : Int) : Bool × Nat × Int := owL L.1 L.2.1 L.2.2 H.1 H.2.1 H.2.2 p
def owTH (L H : Bool × Nat × Int) (p : Int) : Bool × Nat × Int := owH L.1 L.2.1 L.2.2 H.1 H.2.1 H.2.2 p
def bdP (P : Bool × Nat × Int) : Prop := greatB P.2.1 = false ∧ -100000000 ≤ P.2.2 ∧ P.2.2 ≤ 100000000
def dqL (x y u v : DT) (p : Int) : Bool × Nat × Int := pk4 true (quP x u p.toNat) (quP x v p.toNat) (quP y u p.toNat) (quP y v p.toNat)
def dqH (x y u v : DT) (p : Int) : Bool × Nat × Int := pk4 false (quP x u p.toNat) (quP x v p.toNat) (quP y u p.toNat) (quP y v p.toNat)
def dzT (u v : DT) : Int := dzE u.1 (val u.2.2.2.2.1) u.2.2.2.2.2 v.1 (val v.2.2.2.2.1) v.2.2.2.2.2
def dvE (x y u v : DT) (p : Int) : Int := if (rtT x y && rtT u v) = true ∧ (decide (1 ≤ p) && decide (p ≤ 8192)) = true then (if dzT u v ≠ 0 then dzT u v else owT (dqL x y u v p) (dqH x y u v p) p) else 2
def dvL (x y u v : DT) (p : Int) : Bool × Nat × Int := if dvE x y u v p = 0 then owTL (dqL x y u v p) (dqH x y u v p) p else (false, 0, 0)
def dvH (x y u v : DT) (p : Int) : Bool × Nat × Int := if dvE x y u v p = 0 then owTH (dqL x y u v p) (dqH x y u v p) p else (false, 0, 0)
theorem rt_okT {x y : DT} (h : rtT x y = true) : (greatB (val x.2.2.2.2.1) = false ∧ -32768 ≤ x.2.2.2.2.2 ∧ x.2.2.2.2.2 ≤ 32768) ∧ (greatB (val y.2.2.2.2.1) = false ∧ -32768 ≤ y.2.2.2.2.2 ∧ y.2.2.2.2.2 ≤ 32768) := by
 have := rt_both h
 exact ⟨rightB_yes this.1, rightB_yes this.2⟩
theorem pkP_one (lo : Bool) (P Q : Bool × Nat × Int) : pkP lo P Q = P ∨ pkP lo P Q = Q := by
 unfold pkP
 split
 ·exact Or.inr rfl
 ·exact Or.inl rfl
theorem pk4_bd {lo : Bool} {P Q R S : Bool × Nat × Int} (h0 : bdP P) (h1 : bdP Q) (h2 : bdP R) (h3 : bdP S) : bdP (pk4 lo P Q R S) := by
 unfold pk4
 have k : ∀ A B : Bool × Nat × Int, bdP A → bdP B → bdP (pkP lo A B) := fun A B a b => by
  rcases pkP_one lo A B with q | q <;> rw [q]
  ·exact a
  ·exact b
 exact k _ _ (k _ _ (k _ _ h0 h1) h2) h3
theorem nz_both {u v : DT} (h : rtT u v = true) (z : dzE u.1 (val u.2.2.2.2.1) u.2.2.2.2.2 v.1 (val v.2.2.2.2.1) v.2.2.2.2.2 = 0) : val u.2.2.2.2.1 ≠ 0 ∧ val v.2.2.2.2.1 ≠ 0 := by
 have hc : cmpD (formD u.1 (val u.2.2.2.2.1) u.2.2.2.2.2) (formD v.1 (val v.2.2.2.2.1) v.2.2.2.2.2) ≤ 0 := by
  unfold rtT rtI at h
  simp only [Bool.and_eq_true, decide_eq_true_eq] at h
  exact h.2
 unfold dzE at z
 have zz : ¬ (sgnD (formD u.1 (val u.2.2.2.2.1) u.2.2.2.2.2) ≤ 0 ∧ 0 ≤ sgnD (formD v.1 (val v.2.2.2.2.1) v.2.2.2.2.2)) := fun q => by rw [if_pos q] at z; exact absurd z (by decide)
 have sg : sgnD (formD u.1 (val u.2.2.2.2.1) u.2.2.2.2.2) ≤ sgnD (formD v.1 (val v.2.2.2.2.1) v.2.2.2.2.2) := by
  unfold cmpD Lib.compareInt at hc
  by_cases q : sgnD (formD u.1 (val u.2.2.2.2.1) u.2.2.2.2.2) = sgnD (formD v.1 (val v.2.2.2.2.1) v.2.2.2.2.2)
  ·omega
  ·rw [if_pos q] at hc
   by_cases q2 : sgnD (formD u.1 (val u.2.2.2.2.1) u.2.2.2.2.2) < sgnD (formD v.1 (val v.2.2.2.2.1) v.2.2.2.2.2)
   ·omega
   ·rw [if_neg q2, if_pos (by omega)] at hc
    exact absurd hc (by decide)
 rw [sgn_val, sgn_val] at *
 constructor
 ·intro q
  rw [if_pos q] at *
  omega
 ·intro q
  rw [if_pos q] at *
  omega
theorem dq_bd {w : World} {x y u v : DT} {p : Int} (hx : inT w x) (hy : inT w y) (hu : inT w u) (hv : inT w v) (ra : rtT x y = true) (rb : rtT u v = true) (nz : dzE u.1 (val u.2.2.2.2.1) u.2.2.2.2.2 v.1 (val v.2.2.2.2.1) v.2.2.2.2.2 = 0) (hp : 1 ≤ p ∧ p ≤ 8192) : bdP (dqL x y u v p) ∧ bdP (dqH x y u v p) := by
 have a := rt_okT ra
 have b := rt_okT rb
 have n := nz_both rb nz
 have ox : okT w x := ⟨hx.1, hx.2, a.1.1, by omega, by omega⟩
 have oy : okT w y := ⟨hy.1, hy.2, a.2.1, by omega, by omega⟩
 have ou : okT w u := ⟨hu.1, hu.2, b.1.1, by omega, by omega⟩
 have ov : okT w v := ⟨hv.1, hv.2, b.2.1, by omega, by omega⟩
 have hp2 : 1 ≤ p.toNat ∧ p.toNat ≤ 8192 := by omega
 have e1 : -40000 ≤ x.2.2.2.2.2 ∧ x.2.2.2.2.2 ≤ 40000 := by omega
 have e2 : -40000 ≤ y.2.2.2.2.2 ∧ y.2.2.2.2.2 ≤ 40000 := by omega
 have e3 : -40000 ≤ u.2.2.2.2.2 ∧ u.2.2.2.2.2 ≤ 40000 := by omega
 have e4 : -40000 ≤ v.2.2.2.2.2 ∧ v.2.2.2.2.2 ≤ 40000 := by omega
 exact ⟨pk4_bd (quP_ok ox ou n.1 hp2 e1 e3) (quP_ok ox ov n.2 hp2 e1 e4) (quP_ok oy ou n.1 hp2 e2 e3) (quP_ok oy ov n.2 hp2 e2 e4), pk4_bd (quP_ok ox ou n.1 hp2 e1 e3) (quP_ok ox ov n.2 hp2 e1 e4) (quP_ok oy ou n.1 hp2 e2 e3) (quP_ok oy ov n.2 hp2 e2 e4)⟩
theorem divDone_calls (x y u v : DT) (p : Int) (X : Nat) (w : World) (hx : inT w x) (hy : inT w y) (hu : inT w u) (hv : inT w v) (cq : w.cell? ⟨X, 0, none⟩ = some (.func (.func 105) #[] #[])) (hT : Tab w) :
  Calls Tryz.prog 59 #[.agg #[.func (.func 104) #[] #[], .func (.func 131) #[] #[.pointer (some ⟨X, 0, none⟩)]], ivT x y, ivT u v, .int .i64 p] w fun r w' => AnsI w.heap.size w' r (dvL x y u v p) (dvH x y u v p) (dvE x y u v p) ∧ Below w.heap.size w w' := by
 have bA : Below w.heap.size w (((((w.alloc (.cells #[.func (.func 104) #[] #[], .func (.func 131) #[] #[.pointer (some ⟨X, 0, none⟩)]] 64)).alloc (.cells #[.bool x.1, .slice x.2.1 x.2.2.1 x.2.2.2.1, .int .i64 x.2.2.2.2.2, .bool y.1, .slice y.2.1 y.2.2.1 y.2.2.2.1, .int .i64 y.2.2.2.2.2] 27)).alloc (.cells #[.bool u.1, .slice u.2.1 u.2.2.1 u.2.2.2.1, .int .i64 u.2.2.2.2.2, .bool v.1, .slice v.2.1 v.2.2.1 v.2.2.2.1, .int .i64 v.2.2.2.2.2] 27)).alloc (.cells #[.bool false, .slice none 0 0, .int .i64 0, .bool false, .slice none 0 0, .int .i64 0] 27)).alloc (.cells #[.bool x.1, .slice x.2.1 x.2.2.1 x.2.2.2.1, .int .i64 x.2.2.2.2.2, .bool y.1, .slice y.2.1 y.2.2.1 y.2.2.2.1, .int .i64 y.2.2.2.2.2, .bool u.1, .slice u.2.1 u.2.2.1 u.2.2.2.1, .int .i64 u.2.2.2.2.2, .bool v.1, .slice v.2.1 v.2.2.1 v.2.2.2.1, .int .i64 v.2.2.2.2.2] 27)) := nT (nT (nT (nT (below_one _ _) (below_one _ _)) (below_one _ _)) (below_one _ _)) (below_one _ _)
 have HR : Hid _ := iright2_calls x.1 x.2.1 x.2.2.1 x.2.2.2.1 x.2.2.2.2.1 x.2.2.2.2.2 y.1 y.2.1 y.2.2.1 y.2.2.2.1 y.2.2.2.2.1 y.2.2.2.2.2 u.1 u.2.1 u.2.2.1 u.2.2.2.1 u.2.2.2.2.1 u.2.2.2.2.2 v.1 v.2.1 v.2.2.1 v.2.2.2.1 v.2.2.2.2.1 v.2.2.2.2.2 (w.heap.size + 1 + 1 + 1 + 1) (((((w.alloc (.cells #[.func (.func 104) #[] #[], .func (.func 131) #[] #[.pointer (some ⟨X, 0, none⟩)]] 64)).alloc (.cells #[.bool x.1, .slice x.2.1 x.2.2.1 x.2.2.2.1, .int .i64 x.2.2.2.2.2, .bool y.1, .slice y.2.1 y.2.2.1 y.2.2.2.1, .int .i64 y.2.2.2.2.2] 27)).alloc (.cells #[.bool u.1, .slice u.2.1 u.2.2.1 u.2.2.2.1, .int .i64 u.2.2.2.2.2, .bool v.1, .slice v.2.1 v.2.2.1 v.2.2.2.1, .int .i64 v.2.2.2.2.2] 27)).alloc (.cells #[.bool false, .slice none 0 0, .int .i64 0, .bool false, .slice none 0 0, .int .i64 0] 27)).alloc (.cells #[.bool x.1, .slice x.2.1 x.2.2.1 x.2.2.2.1, .int .i64 x.2.2.2.2.2, .bool y.1, .slice y.2.1 y.2.2.1 y.2.2.2.1, .int .i64 y.2.2.2.2.2, .bool u.1, .slice u.2.1 u.2.2.1 u.2.2.2.1, .int .i64 u.2.2.2.2.2, .bool v.1, .slice v.2.1 v.2.2.1 v.2.2.2.1, .int .i64 v.2.2.2.2.2] 27)) (hx.1.keep bA) hx.2 (hy.1.keep bA) hy.2 (hu.1.keep bA) hu.2 (hv.1.keep bA) hv.2 (by go_simp) (by go_simp) (by go_simp) (by go_simp) (by go_simp) (by go_simp) (by go_simp) (by go_simp) (by go_simp) (by go_simp) (by go_simp) (by go_simp) (hT.kept bA)
 have HW : Hid _ := fun w' => workable_calls p w'
 have HZ : Hid _ := fun (ra : rtT u v = true) w' (q : IsW w' u.2.1 u.2.2.1 u.2.2.2.1 u.2.2.2.2.1) (q' : IsW w' v.2.1 v.2.2.1 v.2.2.2.1 v.2.2.2.2.1) => divZero_calls x.1 x.2.1 x.2.2.1 x.2.2.2.1 x.2.2.2.2.2 y.1 y.2.1 y.2.2.1 y.2.2.2.1 y.2.2.2.2.2 u.1 u.2.1 u.2.2.1 u.2.2.2.1 u.2.2.2.2.1 u.2.2.2.2.2 v.1 v.2.1 v.2.2.1 v.2.2.2.1 v.2.2.2.2.1 v.2.2.2.2.2 w' q hu.2 (rt_okT ra).1.1 q' hv.2 (rt_okT ra).2.1
 have HX : Hid _ := fun (ra : rtT x y = true) (rb : rtT u v = true) (nz : dzE u.1 (val u.2.2.2.2.1) u.2.2.2.2.2 v.1 (val v.2.2.2.2.1) v.2.2.2.2.2 = 0) (hp : 1 ≤ p ∧ p ≤ 8192) w' (q1 : IsW w' x.2.1 x.2.2.1 x.2.2.2.1 x.2.2.2.2.1) (q2 : IsW w' y.2.1 y.2.2.1 y.2.2.2.1 y.2.2.2.2.1) (q3 : IsW w' u.2.1 u.2.2.1 u.2.2.2.1 u.2.2.2.2.1) (q4 : IsW w' v.2.1 v.2.2.1 v.2.2.2.1 v.2.2.2.2.1) cq tt => crossQ_calls x y u v p.toNat X w' ⟨q1, hx.2, (rt_okT ra).1.1, by have := (rt_okT ra).1.2; omega, by have := (rt_okT ra).1.2; omega⟩ ⟨q2, hy.2, (rt_okT ra).2.1, by have := (rt_okT ra).2.2; omega, by have := (rt_okT ra).2.2; omega⟩ ⟨q3, hu.2, (rt_okT rb).1.1, by have := (rt_okT rb).1.2; omega, by have := (rt_okT rb).1.2; omega⟩ ⟨q4, hv.2, (rt_okT rb).2.1, by have := (rt_okT rb).2.2; omega, by have := (rt_okT rb).2.2; omega⟩ (nz_both rb nz).1 (nz_both rb nz).2 (by omega) (by have := (rt_okT ra).1.2; omega) (by have := (rt_okT ra).2.2; omega) (by have := (rt_okT rb).1.2; omega) (by have := (rt_okT rb).2.2; omega) cq tt
 have HB : Hid (rtT x y = true → rtT u v = true → dzE u.1 (val u.2.2.2.2.1) u.2.2.2.2.2 v.1 (val v.2.2.2.2.1) v.2.2.2.2.2 = 0 → 1 ≤ p ∧ p ≤ 8192 → bdP (dqL x y u v p) ∧ bdP (dqH x y u v p)) := fun ra rb nz hp => dq_bd hx hy hu hv ra rb nz hp
 have hE : Hid (dvE x y u v p = if (rtT x y && rtT u v) = true ∧ (decide (1 ≤ p) && decide (p ≤ 8192)) = true then (if dzE u.1 (val u.2.2.2.2.1) u.2.2.2.2.2 v.1 (val v.2.2.2.2.1) v.2.2.2.2.2 ≠ 0 then dzE u.1 (val u.2.2.2.2.1) u.2.2.2.2.2 v.1 (val v.2.2.2.2.1) v.2.2.2.2.2 else owT (dqL x y u v p) (dqH x y u v p) p) else 2) := by rw [Hid]; rfl
 have hL : Hid (dvL x y u v p = if dvE x y u v p = 0 then owTL (dqL x y u v p) (dqH x y u v p) p else (false, 0, 0)) := by rw [Hid]; rfl
 have hH : Hid (dvH x y u v p = if dvE x y u v p = 0 then owTH (dqL x y u v p) (dqH x y u v p) p else (false, 0, 0)) := by rw [Hid]; rfl
 have gl : dqL x y u v p = pk4 true (quP x u p.toNat) (quP x v p.toNat) (quP y u p.toNat) (quP y v p.toNat) := rfl
 have gh : dqH x y u v p = pk4 false (quP x u p.toNat) (quP x v p.toNat) (quP y u p.toNat) (quP y v p.toNat) := rfl
 rw [← gl, ← gh] at HX
 generalize dvE x y u v p = EE at *
 generalize dvL x y u v p = LL at *
 generalize dvH x y u v p = HH at *
 generalize dqL x y u v p = PL at *
 generalize dqH x y u v p = PH at *
 have HO : Hid _ := fun (bl : bdP PL) (bh : bdP PH) (hp : 1 ≤ p ∧ p ≤ 8192) w' al nl cl ah nh ch (q : OwP w.heap.size w' PL al nl cl) (q' : OwP w.heap.size w' PH ah nh ch) tt => outward_calls PL.1 al nl cl (wO PL.2.1) PL.2.2 PH.1 ah nh ch (wO PH.2.1) PH.2.2 p w' q.2.1 (by have := q.1; omega) (by rw [val_words]; exact bl.1) bl.2 q'.2.1 (by have := q'.1; omega) (by rw [val_words]; exact bh.1) bh.2 ⟨hp.1, by omega⟩ tt
 simp only [val_words] at HO
 have o1 : owE PL.1 PL.2.1 PL.2.2 PH.1 PH.2.1 PH.2.2 p = owT PL PH p := rfl
 have o2 : owL PL.1 PL.2.1 PL.2.2 PH.1 PH.2.1 PH.2.2 p = owTL PL PH p := rfl
 have o3 : owH PL.1 PL.2.1 PL.2.2 PH.1 PH.2.1 PH.2.2 p = owTH PL PH p := rfl
 rw [o1, o2, o3] at HO
 have H0 : Hid (owT PL PH p ≠ 0 → owTL PL PH p = (false, 0, 0) ∧ owTH PL PH p = (false, 0, 0)) := fun q => ⟨if_neg q, if_neg q⟩
 generalize owT PL PH p = E1 at *
 generalize owTL PL PH p = L1 at *
 generalize owTH PL PH p = H1 at *
 have r1 : rtI x.1 (val x.2.2.2.2.1) x.2.2.2.2.2 y.1 (val y.2.2.2.2.1) y.2.2.2.2.2 = rtT x y := rfl
 have r2 : rtI u.1 (val u.2.2.2.2.1) u.2.2.2.2.2 v.1 (val v.2.2.2.2.1) v.2.2.2.2.2 = rtT u v := rfl
 rw [r1, r2] at HR
 generalize dzE u.1 (val u.2.2.2.2.1) u.2.2.2.2.2 v.1 (val v.2.2.2.2.1) v.2.2.2.2.2 = dz at *
 have hI := hx.1.keep bA
 have hJ := hy.1.keep bA
 have iI := hu.1.keep bA
 have iJ := hv.1.keep bA
 have hT0 := hT.kept bA
 have cX := kC bA cq
 have y0 : (((((w.alloc (.cells #[.func (.func 104) #[] #[], .func (.func 131) #[] #[.pointer (some ⟨X, 0, none⟩)]] 64)).alloc (.cells #[.bool x.1, .slice x.2.1 x.2.2.1 x.2.2.2.1, .int .i64 x.2.2.2.2.2, .bool y.1, .slice y.2.1 y.2.2.1 y.2.2.2.1, .int .i64 y.2.2.2.2.2] 27)).alloc (.cells #[.bool u.1, .slice u.2.1 u.2.2.1 u.2.2.2.1, .int .i64 u.2.2.2.2.2, .bool v.1, .slice v.2.1 v.2.2.1 v.2.2.2.1, .int .i64 v.2.2.2.2.2] 27)).alloc (.cells #[.bool false, .slice none 0 0, .int .i64 0, .bool false, .slice none 0 0, .int .i64 0] 27)).alloc (.cells #[.bool x.1, .slice x.2.1 x.2.2.1 x.2.2.2.1, .int .i64 x.2.2.2.2.2, .bool y.1, .slice y.2.1 y.2.2.1 y.2.2.2.1, .int .i64 y.2.2.2.2.2, .bool u.1, .slice u.2.1 u.2.2.1 u.2.2.2.1, .int .i64 u.2.2.2.2.2, .bool v.1, .slice v.2.1 v.2.2.1 v.2.2.2.1, .int .i64 v.2.2.2.2.2] 27)).cell? ⟨w.heap.size, 0, none⟩ = some (.func (.func 104) #[] #[]) := by go_simp
 have y1 : (((((w.alloc (.cells #[.func (.func 104) #[] #[], .func (.func 131) #[] #[.pointer (some ⟨X, 0, none⟩)]] 64)).alloc (.cells #[.bool x.1, .slice x.2.1 x.2.2.1 x.2.2.2.1, .int .i64 x.2.2.2.2.2, .bool y.1, .slice y.2.1 y.2.2.1 y.2.2.2.1, .int .i64 y.2.2.2.2.2] 27)).alloc (.cells #[.bool u.1, .slice u.2.1 u.2.2.1 u.2.2.2.1, .int .i64 u.2.2.2.2.2, .bool v.1, .slice v.2.1 v.2.2.1 v.2.2.2.1, .int .i64 v.2.2.2.2.2] 27)).alloc (.cells #[.bool false, .slice none 0 0, .int .i64 0, .bool false, .slice none 0 0, .int .i64 0] 27)).alloc (.cells #[.bool x.1, .slice x.2.1 x.2.2.1 x.2.2.2.1, .int .i64 x.2.2.2.2.2, .bool y.1, .slice y.2.1 y.2.2.1 y.2.2.2.1, .int .i64 y.2.2.2.2.2, .bool u.1, .slice u.2.1 u.2.2.1 u.2.2.2.1, .int .i64 u.2.2.2.2.2, .bool v.1, .slice v.2.1 v.2.2.1 v.2.2.2.1, .int .i64 v.2.2.2.2.2] 27)).cell? ⟨w.heap.size, 1, none⟩ = some (.func (.func 131) #[] #[.pointer (some ⟨X, 0, none⟩)]) := by go_simp
 have c0 : (((((w.alloc (.cells #[.func (.func 104) #[] #[], .func (.func 131) #[] #[.pointer (some ⟨X, 0, none⟩)]] 64)).alloc (.cells #[.bool x.1, .slice x.2.1 x.2.2.1 x.2.2.2.1, .int .i64 x.2.2.2.2.2, .bool y.1, .slice y.2.1 y.2.2.1 y.2.2.2.1, .int .i64 y.2.2.2.2.2] 27)).alloc (.cells #[.bool u.1, .slice u.2.1 u.2.2.1 u.2.2.2.1, .int .i64 u.2.2.2.2.2, .bool v.1, .slice v.2.1 v.2.2.1 v.2.2.2.1, .int .i64 v.2.2.2.2.2] 27)).alloc (.cells #[.bool false, .slice none 0 0, .int .i64 0, .bool false, .slice none 0 0, .int .i64 0] 27)).alloc (.cells #[.bool x.1, .slice x.2.1 x.2.2.1 x.2.2.2.1, .int .i64 x.2.2.2.2.2, .bool y.1, .slice y.2.1 y.2.2.1 y.2.2.2.1, .int .i64 y.2.2.2.2.2, .bool u.1, .slice u.2.1 u.2.2.1 u.2.2.2.1, .int .i64 u.2.2.2.2.2, .bool v.1, .slice v.2.1 v.2.2.1 v.2.2.2.1, .int .i64 v.2.2.2.2.2] 27)).cell? ⟨w.heap.size + 1, 0, none⟩ = some (.bool x.1) := by go_simp
 have c1 : (((((w.alloc (.cells #[.func (.func 104) #[] #[], .func (.func 131) #[] #[.pointer (some ⟨X, 0, none⟩)]] 64)).alloc (.cells #[.bool x.1, .slice x.2.1 x.2.2.1 x.2.2.2.1, .int .i64 x.2.2.2.2.2, .bool y.1, .slice y.2.1 y.2.2.1 y.2.2.2.1, .int .i64 y.2.2.2.2.2] 27)).alloc (.cells #[.bool u.1, .slice u.2.1 u.2.2.1 u.2.2.2.1, .int .i64 u.2.2.2.2.2, .bool v.1, .slice v.2.1 v.2.2.1 v.2.2.2.1, .int .i64 v.2.2.2.2.2] 27)).alloc (.cells #[.bool false, .slice none 0 0, .int .i64 0, .bool false, .slice none 0 0, .int .i64 0] 27)).alloc (.cells #[.bool x.1, .slice x.2.1 x.2.2.1 x.2.2.2.1, .int .i64 x.2.2.2.2.2, .bool y.1, .slice y.2.1 y.2.2.1 y.2.2.2.1, .int .i64 y.2.2.2.2.2, .bool u.1, .slice u.2.1 u.2.2.1 u.2.2.2.1, .int .i64 u.2.2.2.2.2, .bool v.1, .slice v.2.1 v.2.2.1 v.2.2.2.1, .int .i64 v.2.2.2.2.2] 27)).cell? ⟨w.heap.size + 1, 1, none⟩ = some (.slice x.2.1 x.2.2.1 x.2.2.2.1) := by go_simp
 have c2 : (((((w.alloc (.cells #[.func (.func 104) #[] #[], .func (.func 131) #[] #[.pointer (some ⟨X, 0, none⟩)]] 64)).alloc (.cells #[.bool x.1, .slice x.2.1 x.2.2.1 x.2.2.2.1, .int .i64 x.2.2.2.2.2, .bool y.1, .slice y.2.1 y.2.2.1 y.2.2.2.1, .int .i64 y.2.2.2.2.2] 27)).alloc (.cells #[.bool u.1, .slice u.2.1 u.2.2.1 u.2.2.2.1, .int .i64 u.2.2.2.2.2, .bool v.1, .slice v.2.1 v.2.2.1 v.2.2.2.1, .int .i64 v.2.2.2.2.2] 27)).alloc (.cells #[.bool false, .slice none 0 0, .int .i64 0, .bool false, .slice none 0 0, .int .i64 0] 27)).alloc (.cells #[.bool x.1, .slice x.2.1 x.2.2.1 x.2.2.2.1, .int .i64 x.2.2.2.2.2, .bool y.1, .slice y.2.1 y.2.2.1 y.2.2.2.1, .int .i64 y.2.2.2.2.2, .bool u.1, .slice u.2.1 u.2.2.1 u.2.2.2.1, .int .i64 u.2.2.2.2.2, .bool v.1, .slice v.2.1 v.2.2.1 v.2.2.2.1, .int .i64 v.2.2.2.2.2] 27)).cell? ⟨w.heap.size + 1, 2, none⟩ = some (.int .i64 x.2.2.2.2.2) := by go_simp
 have c3 : (((((w.alloc (.cells #[.func (.func 104) #[] #[], .func (.func 131) #[] #[.pointer (some ⟨X, 0, none⟩)]] 64)).alloc (.cells #[.bool x.1, .slice x.2.1 x.2.2.1 x.2.2.2.1, .int .i64 x.2.2.2.2.2, .bool y.1, .slice y.2.1 y.2.2.1 y.2.2.2.1, .int .i64 y.2.2.2.2.2] 27)).alloc (.cells #[.bool u.1, .slice u.2.1 u.2.2.1 u.2.2.2.1, .int .i64 u.2.2.2.2.2, .bool v.1, .slice v.2.1 v.2.2.1 v.2.2.2.1, .int .i64 v.2.2.2.2.2] 27)).alloc (.cells #[.bool false, .slice none 0 0, .int .i64 0, .bool false, .slice none 0 0, .int .i64 0] 27)).alloc (.cells #[.bool x.1, .slice x.2.1 x.2.2.1 x.2.2.2.1, .int .i64 x.2.2.2.2.2, .bool y.1, .slice y.2.1 y.2.2.1 y.2.2.2.1, .int .i64 y.2.2.2.2.2, .bool u.1, .slice u.2.1 u.2.2.1 u.2.2.2.1, .int .i64 u.2.2.2.2.2, .bool v.1, .slice v.2.1 v.2.2.1 v.2.2.2.1, .int .i64 v.2.2.2.2.2] 27)).cell? ⟨w.heap.size + 1, 3, none⟩ = some (.bool y.1) := by go_simp
 have c4 : (((((w.alloc (.cells #[.func (.func 104) #[] #[], .func (.func 131) #[] #[.pointer (some ⟨X, 0, none⟩)]] 64)).alloc (.cells #[.bool x.1, .slice x.2.1 x.2.2.1 x.2.2.2.1, .int .i64 x.2.2.2.2.2, .bool y.1, .slice y.2.1 y.2.2.1 y.2.2.2.1, .int .i64 y.2.2.2.2.2] 27)).alloc (.cells #[.bool u.1, .slice u.2.1 u.2.2.1 u.2.2.2.1, .int .i64 u.2.2.2.2.2, .bool v.1, .slice v.2.1 v.2.2.1 v.2.2.2.1, .int .i64 v.2.2.2.2.2] 27)).alloc (.cells #[.bool false, .slice none 0 0, .int .i64 0, .bool false, .slice none 0 0, .int .i64 0] 27)).alloc (.cells #[.bool x.1, .slice x.2.1 x.2.2.1 x.2.2.2.1, .int .i64 x.2.2.2.2.2, .bool y.1, .slice y.2.1 y.2.2.1 y.2.2.2.1, .int .i64 y.2.2.2.2.2, .bool u.1, .slice u.2.1 u.2.2.1 u.2.2.2.1, .int .i64 u.2.2.2.2.2, .bool v.1, .slice v.2.1 v.2.2.1 v.2.2.2.1, .int .i64 v.2.2.2.2.2] 27)).cell? ⟨w.heap.size + 1, 4, none⟩ = some (.slice y.2.1 y.2.2.1 y.2.2.2.1) := by go_simp
 have c5 : (((((w.alloc (.cells #[.func (.func 104) #[] #[], .func (.func 131) #[] #[.pointer (some ⟨X, 0, none⟩)]] 64)).alloc (.cells #[.bool x.1, .slice x.2.1 x.2.2.1 x.2.2.2.1, .int .i64 x.2.2.2.2.2, .bool y.1, .slice y.2.1 y.2.2.1 y.2.2.2.1, .int .i64 y.2.2.2.2.2] 27)).alloc (.cells #[.bool u.1, .slice u.2.1 u.2.2.1 u.2.2.2.1, .int .i64 u.2.2.2.2.2, .bool v.1, .slice v.2.1 v.2.2.1 v.2.2.2.1, .int .i64 v.2.2.2.2.2] 27)).alloc (.cells #[.bool false, .slice none 0 0, .int .i64 0, .bool false, .slice none 0 0, .int .i64 0] 27)).alloc (.cells #[.bool x.1, .slice x.2.1 x.2.2.1 x.2.2.2.1, .int .i64 x.2.2.2.2.2, .bool y.1, .slice y.2.1 y.2.2.1 y.2.2.2.1, .int .i64 y.2.2.2.2.2, .bool u.1, .slice u.2.1 u.2.2.1 u.2.2.2.1, .int .i64 u.2.2.2.2.2, .bool v.1, .slice v.2.1 v.2.2.1 v.2.2.2.1, .int .i64 v.2.2.2.2.2] 27)).cell? ⟨w.heap.size + 1, 5, none⟩ = some (.int .i64 y.2.2.2.2.2) := by go_simp
 have d0 : (((((w.alloc (.cells #[.func (.func 104) #[] #[], .func (.func 131) #[] #[.pointer (some ⟨X, 0, none⟩)]] 64)).alloc (.cells #[.bool x.1, .slice x.2.1 x.2.2.1 x.2.2.2.1, .int .i64 x.2.2.2.2.2, .bool y.1, .slice y.2.1 y.2.2.1 y.2.2.2.1, .int .i64 y.2.2.2.2.2] 27)).alloc (.cells #[.bool u.1, .slice u.2.1 u.2.2.1 u.2.2.2.1, .int .i64 u.2.2.2.2.2, .bool v.1, .slice v.2.1 v.2.2.1 v.2.2.2.1, .int .i64 v.2.2.2.2.2] 27)).alloc (.cells #[.bool false, .slice none 0 0, .int .i64 0, .bool false, .slice none 0 0, .int .i64 0] 27)).alloc (.cells #[.bool x.1, .slice x.2.1 x.2.2.1 x.2.2.2.1, .int .i64 x.2.2.2.2.2, .bool y.1, .slice y.2.1 y.2.2.1 y.2.2.2.1, .int .i64 y.2.2.2.2.2, .bool u.1, .slice u.2.1 u.2.2.1 u.2.2.2.1, .int .i64 u.2.2.2.2.2, .bool v.1, .slice v.2.1 v.2.2.1 v.2.2.2.1, .int .i64 v.2.2.2.2.2] 27)).cell? ⟨w.heap.size + 1 + 1, 0, none⟩ = some (.bool u.1) := by go_simp
 have d1 : (((((w.alloc (.cells #[.func (.func 104) #[] #[], .func (.func 131) #[] #[.pointer (some ⟨X, 0, none⟩)]] 64)).alloc (.cells #[.bool x.1, .slice x.2.1 x.2.2.1 x.2.2.2.1, .int .i64 x.2.2.2.2.2, .bool y.1, .slice y.2.1 y.2.2.1 y.2.2.2.1, .int .i64 y.2.2.2.2.2] 27)).alloc (.cells #[.bool u.1, .slice u.2.1 u.2.2.1 u.2.2.2.1, .int .i64 u.2.2.2.2.2, .bool v.1, .slice v.2.1 v.2.2.1 v.2.2.2.1, .int .i64 v.2.2.2.2.2] 27)).alloc (.cells #[.bool false, .slice none 0 0, .int .i64 0, .bool false, .slice none 0 0, .int .i64 0] 27)).alloc (.cells #[.bool x.1, .slice x.2.1 x.2.2.1 x.2.2.2.1, .int .i64 x.2.2.2.2.2, .bool y.1, .slice y.2.1 y.2.2.1 y.2.2.2.1, .int .i64 y.2.2.2.2.2, .bool u.1, .slice u.2.1 u.2.2.1 u.2.2.2.1, .int .i64 u.2.2.2.2.2, .bool v.1, .slice v.2.1 v.2.2.1 v.2.2.2.1, .int .i64 v.2.2.2.2.2] 27)).cell? ⟨w.heap.size + 1 + 1, 1, none⟩ = some (.slice u.2.1 u.2.2.1 u.2.2.2.1) := by go_simp
 have d2 : (((((w.alloc (.cells #[.func (.func 104) #[] #[], .func (.func 131) #[] #[.pointer (some ⟨X, 0, none⟩)]] 64)).alloc (.cells #[.bool x.1, .slice x.2.1 x.2.2.1 x.2.2.2.1, .int .i64 x.2.2.2.2.2, .bool y.1, .slice y.2.1 y.2.2.1 y.2.2.2.1, .int .i64 y.2.2.2.2.2] 27)).alloc (.cells #[.bool u.1, .slice u.2.1 u.2.2.1 u.2.2.2.1, .int .i64 u.2.2.2.2.2, .bool v.1, .slice v.2.1 v.2.2.1 v.2.2.2.1, .int .i64 v.2.2.2.2.2] 27)).alloc (.cells #[.bool false, .slice none 0 0, .int .i64 0, .bool false, .slice none 0 0, .int .i64 0] 27)).alloc (.cells #[.bool x.1, .slice x.2.1 x.2.2.1 x.2.2.2.1, .int .i64 x.2.2.2.2.2, .bool y.1, .slice y.2.1 y.2.2.1 y.2.2.2.1, .int .i64 y.2.2.2.2.2, .bool u.1, .slice u.2.1 u.2.2.1 u.2.2.2.1, .int .i64 u.2.2.2.2.2, .bool v.1, .slice v.2.1 v.2.2.1 v.2.2.2.1, .int .i64 v.2.2.2.2.2] 27)).cell? ⟨w.heap.size + 1 + 1, 2, none⟩ = some (.int .i64 u.2.2.2.2.2) := by go_simp
 have d3 : (((((w.alloc (.cells #[.func (.func 104) #[] #[], .func (.func 131) #[] #[.pointer (some ⟨X, 0, none⟩)]] 64)).alloc (.cells #[.bool x.1, .slice x.2.1 x.2.2.1 x.2.2.2.1, .int .i64 x.2.2.2.2.2, .bool y.1, .slice y.2.1 y.2.2.1 y.2.2.2.1, .int .i64 y.2.2.2.2.2] 27)).alloc (.cells #[.bool u.1, .slice u.2.1 u.2.2.1 u.2.2.2.1, .int .i64 u.2.2.2.2.2, .bool v.1, .slice v.2.1 v.2.2.1 v.2.2.2.1, .int .i64 v.2.2.2.2.2] 27)).alloc (.cells #[.bool false, .slice none 0 0, .int .i64 0, .bool false, .slice none 0 0, .int .i64 0] 27)).alloc (.cells #[.bool x.1, .slice x.2.1 x.2.2.1 x.2.2.2.1, .int .i64 x.2.2.2.2.2, .bool y.1, .slice y.2.1 y.2.2.1 y.2.2.2.1, .int .i64 y.2.2.2.2.2, .bool u.1, .slice u.2.1 u.2.2.1 u.2.2.2.1, .int .i64 u.2.2.2.2.2, .bool v.1, .slice v.2.1 v.2.2.1 v.2.2.2.1, .int .i64 v.2.2.2.2.2] 27)).cell? ⟨w.heap.size + 1 + 1, 3, none⟩ = some (.bool v.1) := by go_simp
 have d4 : (((((w.alloc (.cells #[.func (.func 104) #[] #[], .func (.func 131) #[] #[.pointer (some ⟨X, 0, none⟩)]] 64)).alloc (.cells #[.bool x.1, .slice x.2.1 x.2.2.1 x.2.2.2.1, .int .i64 x.2.2.2.2.2, .bool y.1, .slice y.2.1 y.2.2.1 y.2.2.2.1, .int .i64 y.2.2.2.2.2] 27)).alloc (.cells #[.bool u.1, .slice u.2.1 u.2.2.1 u.2.2.2.1, .int .i64 u.2.2.2.2.2, .bool v.1, .slice v.2.1 v.2.2.1 v.2.2.2.1, .int .i64 v.2.2.2.2.2] 27)).alloc (.cells #[.bool false, .slice none 0 0, .int .i64 0, .bool false, .slice none 0 0, .int .i64 0] 27)).alloc (.cells #[.bool x.1, .slice x.2.1 x.2.2.1 x.2.2.2.1, .int .i64 x.2.2.2.2.2, .bool y.1, .slice y.2.1 y.2.2.1 y.2.2.2.1, .int .i64 y.2.2.2.2.2, .bool u.1, .slice u.2.1 u.2.2.1 u.2.2.2.1, .int .i64 u.2.2.2.2.2, .bool v.1, .slice v.2.1 v.2.2.1 v.2.2.2.1, .int .i64 v.2.2.2.2.2] 27)).cell? ⟨w.heap.size + 1 + 1, 4, none⟩ = some (.slice v.2.1 v.2.2.1 v.2.2.2.1) := by go_simp
 have d5 : (((((w.alloc (.cells #[.func (.func 104) #[] #[], .func (.func 131) #[] #[.pointer (some ⟨X, 0, none⟩)]] 64)).alloc (.cells #[.bool x.1, .slice x.2.1 x.2.2.1 x.2.2.2.1, .int .i64 x.2.2.2.2.2, .bool y.1, .slice y.2.1 y.2.2.1 y.2.2.2.1, .int .i64 y.2.2.2.2.2] 27)).alloc (.cells #[.bool u.1, .slice u.2.1 u.2.2.1 u.2.2.2.1, .int .i64 u.2.2.2.2.2, .bool v.1, .slice v.2.1 v.2.2.1 v.2.2.2.1, .int .i64 v.2.2.2.2.2] 27)).alloc (.cells #[.bool false, .slice none 0 0, .int .i64 0, .bool false, .slice none 0 0, .int .i64 0] 27)).alloc (.cells #[.bool x.1, .slice x.2.1 x.2.2.1 x.2.2.2.1, .int .i64 x.2.2.2.2.2, .bool y.1, .slice y.2.1 y.2.2.1 y.2.2.2.1, .int .i64 y.2.2.2.2.2, .bool u.1, .slice u.2.1 u.2.2.1 u.2.2.2.1, .int .i64 u.2.2.2.2.2, .bool v.1, .slice v.2.1 v.2.2.1 v.2.2.2.1, .int .i64 v.2.2.2.2.2] 27)).cell? ⟨w.heap.size + 1 + 1, 5, none⟩ = some (.int .i64 v.2.2.2.2.2) := by go_simp
 have z0 : (((((w.alloc (.cells #[.func (.func 104) #[] #[], .func (.func 131) #[] #[.pointer (some ⟨X, 0, none⟩)]] 64)).alloc (.cells #[.bool x.1, .slice x.2.1 x.2.2.1 x.2.2.2.1, .int .i64 x.2.2.2.2.2, .bool y.1, .slice y.2.1 y.2.2.1 y.2.2.2.1, .int .i64 y.2.2.2.2.2] 27)).alloc (.cells #[.bool u.1, .slice u.2.1 u.2.2.1 u.2.2.2.1, .int .i64 u.2.2.2.2.2, .bool v.1, .slice v.2.1 v.2.2.1 v.2.2.2.1, .int .i64 v.2.2.2.2.2] 27)).alloc (.cells #[.bool false, .slice none 0 0, .int .i64 0, .bool false, .slice none 0 0, .int .i64 0] 27)).alloc (.cells #[.bool x.1, .slice x.2.1 x.2.2.1 x.2.2.2.1, .int .i64 x.2.2.2.2.2, .bool y.1, .slice y.2.1 y.2.2.1 y.2.2.2.1, .int .i64 y.2.2.2.2.2, .bool u.1, .slice u.2.1 u.2.2.1 u.2.2.2.1, .int .i64 u.2.2.2.2.2, .bool v.1, .slice v.2.1 v.2.2.1 v.2.2.2.1, .int .i64 v.2.2.2.2.2] 27)).cell? ⟨w.heap.size + 1 + 1 + 1, 0, none⟩ = some (.bool false) := by go_simp
 have f0 : (((((w.alloc (.cells #[.func (.func 104) #[] #[], .func (.func 131) #[] #[.pointer (some ⟨X, 0, none⟩)]] 64)).alloc (.cells #[.bool x.1, .slice x.2.1 x.2.2.1 x.2.2.2.1, .int .i64 x.2.2.2.2.2, .bool y.1, .slice y.2.1 y.2.2.1 y.2.2.2.1, .int .i64 y.2.2.2.2.2] 27)).alloc (.cells #[.bool u.1, .slice u.2.1 u.2.2.1 u.2.2.2.1, .int .i64 u.2.2.2.2.2, .bool v.1, .slice v.2.1 v.2.2.1 v.2.2.2.1, .int .i64 v.2.2.2.2.2] 27)).alloc (.cells #[.bool false, .slice none 0 0, .int .i64 0, .bool false, .slice none 0 0, .int .i64 0] 27)).alloc (.cells #[.bool x.1, .slice x.2.1 x.2.2.1 x.2.2.2.1, .int .i64 x.2.2.2.2.2, .bool y.1, .slice y.2.1 y.2.2.1 y.2.2.2.1, .int .i64 y.2.2.2.2.2, .bool u.1, .slice u.2.1 u.2.2.1 u.2.2.2.1, .int .i64 u.2.2.2.2.2, .bool v.1, .slice v.2.1 v.2.2.1 v.2.2.2.1, .int .i64 v.2.2.2.2.2] 27)).frozen? ⟨w.heap.size + 1 + 1 + 1, 0, none⟩ = false := by go_simp
 have z1 : (((((w.alloc (.cells #[.func (.func 104) #[] #[], .func (.func 131) #[] #[.pointer (some ⟨X, 0, none⟩)]] 64)).alloc (.cells #[.bool x.1, .slice x.2.1 x.2.2.1 x.2.2.2.1, .int .i64 x.2.2.2.2.2, .bool y.1, .slice y.2.1 y.2.2.1 y.2.2.2.1, .int .i64 y.2.2.2.2.2] 27)).alloc (.cells #[.bool u.1, .slice u.2.1 u.2.2.1 u.2.2.2.1, .int .i64 u.2.2.2.2.2, .bool v.1, .slice v.2.1 v.2.2.1 v.2.2.2.1, .int .i64 v.2.2.2.2.2] 27)).alloc (.cells #[.bool false, .slice none 0 0, .int .i64 0, .bool false, .slice none 0 0, .int .i64 0] 27)).alloc (.cells #[.bool x.1, .slice x.2.1 x.2.2.1 x.2.2.2.1, .int .i64 x.2.2.2.2.2, .bool y.1, .slice y.2.1 y.2.2.1 y.2.2.2.1, .int .i64 y.2.2.2.2.2, .bool u.1, .slice u.2.1 u.2.2.1 u.2.2.2.1, .int .i64 u.2.2.2.2.2, .bool v.1, .slice v.2.1 v.2.2.1 v.2.2.2.1, .int .i64 v.2.2.2.2.2] 27)).cell? ⟨w.heap.size + 1 + 1 + 1, 1, none⟩ = some (.slice none 0 0) := by go_simp
 have f1 : (((((w.alloc (.cells #[.func (.func 104) #[] #[], .func (.func 131) #[] #[.pointer (some ⟨X, 0, none⟩)]] 64)).alloc (.cells #[.bool x.1, .slice x.2.1 x.2.2.1 x.2.2.2.1, .int .i64 x.2.2.2.2.2, .bool y.1, .slice y.2.1 y.2.2.1 y.2.2.2.1, .int .i64 y.2.2.2.2.2] 27)).alloc (.cells #[.bool u.1, .slice u.2.1 u.2.2.1 u.2.2.2.1, .int .i64 u.2.2.2.2.2, .bool v.1, .slice v.2.1 v.2.2.1 v.2.2.2.1, .int .i64 v.2.2.2.2.2] 27)).alloc (.cells #[.bool false, .slice none 0 0, .int .i64 0, .bool false, .slice none 0 0, .int .i64 0] 27)).alloc (.cells #[.bool x.1, .slice x.2.1 x.2.2.1 x.2.2.2.1, .int .i64 x.2.2.2.2.2, .bool y.1, .slice y.2.1 y.2.2.1 y.2.2.2.1, .int .i64 y.2.2.2.2.2, .bool u.1, .slice u.2.1 u.2.2.1 u.2.2.2.1, .int .i64 u.2.2.2.2.2, .bool v.1, .slice v.2.1 v.2.2.1 v.2.2.2.1, .int .i64 v.2.2.2.2.2] 27)).frozen? ⟨w.heap.size + 1 + 1 + 1, 1, none⟩ = false := by go_simp
 have z2 : (((((w.alloc (.cells #[.func (.func 104) #[] #[], .func (.func 131) #[] #[.pointer (some ⟨X, 0, none⟩)]] 64)).alloc (.cells #[.bool x.1, .slice x.2.1 x.2.2.1 x.2.2.2.1, .int .i64 x.2.2.2.2.2, .bool y.1, .slice y.2.1 y.2.2.1 y.2.2.2.1, .int .i64 y.2.2.2.2.2] 27)).alloc (.cells #[.bool u.1, .slice u.2.1 u.2.2.1 u.2.2.2.1, .int .i64 u.2.2.2.2.2, .bool v.1, .slice v.2.1 v.2.2.1 v.2.2.2.1, .int .i64 v.2.2.2.2.2] 27)).alloc (.cells #[.bool false, .slice none 0 0, .int .i64 0, .bool false, .slice none 0 0, .int .i64 0] 27)).alloc (.cells #[.bool x.1, .slice x.2.1 x.2.2.1 x.2.2.2.1, .int .i64 x.2.2.2.2.2, .bool y.1, .slice y.2.1 y.2.2.1 y.2.2.2.1, .int .i64 y.2.2.2.2.2, .bool u.1, .slice u.2.1 u.2.2.1 u.2.2.2.1, .int .i64 u.2.2.2.2.2, .bool v.1, .slice v.2.1 v.2.2.1 v.2.2.2.1, .int .i64 v.2.2.2.2.2] 27)).cell? ⟨w.heap.size + 1 + 1 + 1, 2, none⟩ = some (.int .i64 0) := by go_simp
 have f2 : (((((w.alloc (.cells #[.func (.func 104) #[] #[], .func (.func 131) #[] #[.pointer (some ⟨X, 0, none⟩)]] 64)).alloc (.cells #[.bool x.1, .slice x.2.1 x.2.2.1 x.2.2.2.1, .int .i64 x.2.2.2.2.2, .bool y.1, .slice y.2.1 y.2.2.1 y.2.2.2.1, .int .i64 y.2.2.2.2.2] 27)).alloc (.cells #[.bool u.1, .slice u.2.1 u.2.2.1 u.2.2.2.1, .int .i64 u.2.2.2.2.2, .bool v.1, .slice v.2.1 v.2.2.1 v.2.2.2.1, .int .i64 v.2.2.2.2.2] 27)).alloc (.cells #[.bool false, .slice none 0 0, .int .i64 0, .bool false, .slice none 0 0, .int .i64 0] 27)).alloc (.cells #[.bool x.1, .slice x.2.1 x.2.2.1 x.2.2.2.1, .int .i64 x.2.2.2.2.2, .bool y.1, .slice y.2.1 y.2.2.1 y.2.2.2.1, .int .i64 y.2.2.2.2.2, .bool u.1, .slice u.2.1 u.2.2.1 u.2.2.2.1, .int .i64 u.2.2.2.2.2, .bool v.1, .slice v.2.1 v.2.2.1 v.2.2.2.1, .int .i64 v.2.2.2.2.2] 27)).frozen? ⟨w.heap.size + 1 + 1 + 1, 2, none⟩ = false := by go_simp
 have z3 : (((((w.alloc (.cells #[.func (.func 104) #[] #[], .func (.func 131) #[] #[.pointer (some ⟨X, 0, none⟩)]] 64)).alloc (.cells #[.bool x.1, .slice x.2.1 x.2.2.1 x.2.2.2.1, .int .i64 x.2.2.2.2.2, .bool y.1, .slice y.2.1 y.2.2.1 y.2.2.2.1, .int .i64 y.2.2.2.2.2] 27)).alloc (.cells #[.bool u.1, .slice u.2.1 u.2.2.1 u.2.2.2.1, .int .i64 u.2.2.2.2.2, .bool v.1, .slice v.2.1 v.2.2.1 v.2.2.2.1, .int .i64 v.2.2.2.2.2] 27)).alloc (.cells #[.bool false, .slice none 0 0, .int .i64 0, .bool false, .slice none 0 0, .int .i64 0] 27)).alloc (.cells #[.bool x.1, .slice x.2.1 x.2.2.1 x.2.2.2.1, .int .i64 x.2.2.2.2.2, .bool y.1, .slice y.2.1 y.2.2.1 y.2.2.2.1, .int .i64 y.2.2.2.2.2, .bool u.1, .slice u.2.1 u.2.2.1 u.2.2.2.1, .int .i64 u.2.2.2.2.2, .bool v.1, .slice v.2.1 v.2.2.1 v.2.2.2.1, .int .i64 v.2.2.2.2.2] 27)).cell? ⟨w.heap.size + 1 + 1 + 1, 3, none⟩ = some (.bool false) := by go_simp
 have f3 : (((((w.alloc (.cells #[.func (.func 104) #[] #[], .func (.func 131) #[] #[.pointer (some ⟨X, 0, none⟩)]] 64)).alloc (.cells #[.bool x.1, .slice x.2.1 x.2.2.1 x.2.2.2.1, .int .i64 x.2.2.2.2.2, .bool y.1, .slice y.2.1 y.2.2.1 y.2.2.2.1, .int .i64 y.2.2.2.2.2] 27)).alloc (.cells #[.bool u.1, .slice u.2.1 u.2.2.1 u.2.2.2.1, .int .i64 u.2.2.2.2.2, .bool v.1, .slice v.2.1 v.2.2.1 v.2.2.2.1, .int .i64 v.2.2.2.2.2] 27)).alloc (.cells #[.bool false, .slice none 0 0, .int .i64 0, .bool false, .slice none 0 0, .int .i64 0] 27)).alloc (.cells #[.bool x.1, .slice x.2.1 x.2.2.1 x.2.2.2.1, .int .i64 x.2.2.2.2.2, .bool y.1, .slice y.2.1 y.2.2.1 y.2.2.2.1, .int .i64 y.2.2.2.2.2, .bool u.1, .slice u.2.1 u.2.2.1 u.2.2.2.1, .int .i64 u.2.2.2.2.2, .bool v.1, .slice v.2.1 v.2.2.1 v.2.2.2.1, .int .i64 v.2.2.2.2.2] 27)).frozen? ⟨w.heap.size + 1 + 1 + 1, 3, none⟩ = false := by go_simp
 have z4 : (((((w.alloc (.cells #[.func (.func 104) #[] #[], .func (.func 131) #[] #[.pointer (some ⟨X, 0, none⟩)]] 64)).alloc (.cells #[.bool x.1, .slice x.2.1 x.2.2.1 x.2.2.2.1, .int .i64 x.2.2.2.2.2, .bool y.1, .slice y.2.1 y.2.2.1 y.2.2.2.1, .int .i64 y.2.2.2.2.2] 27)).alloc (.cells #[.bool u.1, .slice u.2.1 u.2.2.1 u.2.2.2.1, .int .i64 u.2.2.2.2.2, .bool v.1, .slice v.2.1 v.2.2.1 v.2.2.2.1, .int .i64 v.2.2.2.2.2] 27)).alloc (.cells #[.bool false, .slice none 0 0, .int .i64 0, .bool false, .slice none 0 0, .int .i64 0] 27)).alloc (.cells #[.bool x.1, .slice x.2.1 x.2.2.1 x.2.2.2.1, .int .i64 x.2.2.2.2.2, .bool y.1, .slice y.2.1 y.2.2.1 y.2.2.2.1, .int .i64 y.2.2.2.2.2, .bool u.1, .slice u.2.1 u.2.2.1 u.2.2.2.1, .int .i64 u.2.2.2.2.2, .bool v.1, .slice v.2.1 v.2.2.1 v.2.2.2.1, .int .i64 v.2.2.2.2.2] 27)).cell? ⟨w.heap.size + 1 + 1 + 1, 4, none⟩ = some (.slice none 0 0) := by go_simp
 have f4 : (((((w.alloc (.cells #[.func (.func 104) #[] #[], .func (.func 131) #[] #[.pointer (some ⟨X, 0, none⟩)]] 64)).alloc (.cells #[.bool x.1, .slice x.2.1 x.2.2.1 x.2.2.2.1, .int .i64 x.2.2.2.2.2, .bool y.1, .slice y.2.1 y.2.2.1 y.2.2.2.1, .int .i64 y.2.2.2.2.2] 27)).alloc (.cells #[.bool u.1, .slice u.2.1 u.2.2.1 u.2.2.2.1, .int .i64 u.2.2.2.2.2, .bool v.1, .slice v.2.1 v.2.2.1 v.2.2.2.1, .int .i64 v.2.2.2.2.2] 27)).alloc (.cells #[.bool false, .slice none 0 0, .int .i64 0, .bool false, .slice none 0 0, .int .i64 0] 27)).alloc (.cells #[.bool x.1, .slice x.2.1 x.2.2.1 x.2.2.2.1, .int .i64 x.2.2.2.2.2, .bool y.1, .slice y.2.1 y.2.2.1 y.2.2.2.1, .int .i64 y.2.2.2.2.2, .bool u.1, .slice u.2.1 u.2.2.1 u.2.2.2.1, .int .i64 u.2.2.2.2.2, .bool v.1, .slice v.2.1 v.2.2.1 v.2.2.2.1, .int .i64 v.2.2.2.2.2] 27)).frozen? ⟨w.heap.size + 1 + 1 + 1, 4, none⟩ = false := by go_simp
 have z5 : (((((w.alloc (.cells #[.func (.func 104) #[] #[], .func (.func 131) #[] #[.pointer (some ⟨X, 0, none⟩)]] 64)).alloc (.cells #[.bool x.1, .slice x.2.1 x.2.2.1 x.2.2.2.1, .int .i64 x.2.2.2.2.2, .bool y.1, .slice y.2.1 y.2.2.1 y.2.2.2.1, .int .i64 y.2.2.2.2.2] 27)).alloc (.cells #[.bool u.1, .slice u.2.1 u.2.2.1 u.2.2.2.1, .int .i64 u.2.2.2.2.2, .bool v.1, .slice v.2.1 v.2.2.1 v.2.2.2.1, .int .i64 v.2.2.2.2.2] 27)).alloc (.cells #[.bool false, .slice none 0 0, .int .i64 0, .bool false, .slice none 0 0, .int .i64 0] 27)).alloc (.cells #[.bool x.1, .slice x.2.1 x.2.2.1 x.2.2.2.1, .int .i64 x.2.2.2.2.2, .bool y.1, .slice y.2.1 y.2.2.1 y.2.2.2.1, .int .i64 y.2.2.2.2.2, .bool u.1, .slice u.2.1 u.2.2.1 u.2.2.2.1, .int .i64 u.2.2.2.2.2, .bool v.1, .slice v.2.1 v.2.2.1 v.2.2.2.1, .int .i64 v.2.2.2.2.2] 27)).cell? ⟨w.heap.size + 1 + 1 + 1, 5, none⟩ = some (.int .i64 0) := by go_simp
 have f5 : (((((w.alloc (.cells #[.func (.func 104) #[] #[], .func (.func 131) #[] #[.pointer (some ⟨X, 0, none⟩)]] 64)).alloc (.cells #[.bool x.1, .slice x.2.1 x.2.2.1 x.2.2.2.1, .int .i64 x.2.2.2.2.2, .bool y.1, .slice y.2.1 y.2.2.1 y.2.2.2.1, .int .i64 y.2.2.2.2.2] 27)).alloc (.cells #[.bool u.1, .slice u.2.1 u.2.2.1 u.2.2.2.1, .int .i64 u.2.2.2.2.2, .bool v.1, .slice v.2.1 v.2.2.1 v.2.2.2.1, .int .i64 v.2.2.2.2.2] 27)).alloc (.cells #[.bool false, .slice none 0 0, .int .i64 0, .bool false, .slice none 0 0, .int .i64 0] 27)).alloc (.cells #[.bool x.1, .slice x.2.1 x.2.2.1 x.2.2.2.1, .int .i64 x.2.2.2.2.2, .bool y.1, .slice y.2.1 y.2.2.1 y.2.2.2.1, .int .i64 y.2.2.2.2.2, .bool u.1, .slice u.2.1 u.2.2.1 u.2.2.2.1, .int .i64 u.2.2.2.2.2, .bool v.1, .slice v.2.1 v.2.2.1 v.2.2.2.1, .int .i64 v.2.2.2.2.2] 27)).frozen? ⟨w.heap.size + 1 + 1 + 1, 5, none⟩ = false := by go_simp
 clear hx hy hu hv hT o1 o2 o3 r1 r2 gl gh
 generalize rtT x y = ra at *
 generalize rtT u v = rb at *
 go_enter Tryz.func59, Tryz.ntmps59
 go_wp2_with fail
 generalize (((((w.alloc (.cells #[.func (.func 104) #[] #[], .func (.func 131) #[] #[.pointer (some ⟨X, 0, none⟩)]] 64)).alloc (.cells #[.bool x.1, .slice x.2.1 x.2.2.1 x.2.2.2.1, .int .i64 x.2.2.2.2.2, .bool y.1, .slice y.2.1 y.2.2.1 y.2.2.2.1, .int .i64 y.2.2.2.2.2] 27)).alloc (.cells #[.bool u.1, .slice u.2.1 u.2.2.1 u.2.2.2.1, .int .i64 u.2.2.2.2.2, .bool v.1, .slice v.2.1 v.2.2.1 v.2.2.2.1, .int .i64 v.2.2.2.2.2] 27)).alloc (.cells #[.bool false, .slice none 0 0, .int .i64 0, .bool false, .slice none 0 0, .int .i64 0] 27)).alloc (.cells #[.bool x.1, .slice x.2.1 x.2.2.1 x.2.2.2.1, .int .i64 x.2.2.2.2.2, .bool y.1, .slice y.2.1 y.2.2.1 y.2.2.2.1, .int .i64 y.2.2.2.2.2, .bool u.1, .slice u.2.1 u.2.2.1 u.2.2.2.1, .int .i64 u.2.2.2.2.2, .bool v.1, .slice v.2.1 v.2.2.1 v.2.2.2.1, .int .i64 v.2.2.2.2.2] 27)) = w0 at *
 refine cM HR.out ?_
 rintro r w1 ⟨rfl, bN⟩
 revert z0 f0 z1 f1 z2 f2 z3 f3 z4 f4 z5 f5; refine zf6 bN ?_; intro z0 f0 z1 f1 z2 f2 z3 f3 z4 f4 z5 f5
 revert cX y0 y1 c0 c1 c2; refine cc6 bN ?_; intro cX y0 y1 c0 c1 c2
 revert c3 c4 c5 d0 d1 d2; refine cc6 bN ?_; intro c3 c4 c5 d0 d1 d2
 revert d3 d4 d5; refine cc3 bN ?_; intro d3 d4 d5
 replace hI := IsW.keep hI bN
 replace hJ := IsW.keep hJ bN
 replace iI := IsW.keep iI bN
 replace iJ := IsW.keep iJ bN
 replace hT0 := hT0.kept bN
 replace bA := nT bA bN
 clear bN
 clear HR
 have HRR : Hid _ := hE.out
 by_cases k1 : (ra && rb) = true
 case neg =>
  have e0 : (ra && rb) = false := by simpa using k1
  have e1 : Hid (EE = 2) := by rw [Hid, hE.out, if_neg (fun q => k1 q.1)]
  clear HRR k1
  rw [e0]
  clear e0
  have e2 : Hid (LL = (false, 0, 0) ∧ HH = (false, 0, 0)) := ⟨by rw [hL.out, if_neg (by rw [e1.out]; decide)], by rw [hH.out, if_neg (by rw [e1.out]; decide)]⟩
  clear hE hL hH HW HZ HX HB HO H0
  go_wp2_with fail
  refine bodyPost_ret (v := .tuple #[zIvI, .int .i64 2]) (by simp [results, Tryz.results59, go_sem, z0, z1, z2, z3, z4, z5]) rfl ⟨?_, by repeat (first | (with_reducible exact bA) | (with_reducible refine Below.setCell ?_ (by simp; try omega) _))⟩
  rw [e1.out, e2.out.1, e2.out.2]
  exact ansI_nil _ _ _
 rw [k1]
 have k1' := k1
 rw [Bool.and_eq_true] at k1
 obtain ⟨q1, q2⟩ := k1
 subst q1
 subst q2
 clear k1' HRR
 go_wp2_with fail
 refine cM (HW.out _) ?_
 rintro r _ ⟨rfl, rfl⟩
 by_cases k2 : 1 ≤ p ∧ p ≤ 8192
 case neg =>
  have e0 : (decide (1 ≤ p) && decide (p ≤ 8192)) = false := by simp only [Bool.and_eq_false_iff, decide_eq_false_iff_not]; omega
  have e1 : Hid (EE = 2) := by rw [Hid, hE.out, e0]; rfl
  clear k2
  rw [e0]
  clear e0
  have e2 : Hid (LL = (false, 0, 0) ∧ HH = (false, 0, 0)) := ⟨by rw [hL.out, if_neg (by rw [e1.out]; decide)], by rw [hH.out, if_neg (by rw [e1.out]; decide)]⟩
  clear hE hL hH HW HZ HX HB HO H0
  go_wp2_with fail
  refine bodyPost_ret (v := .tuple #[zIvI, .int .i64 2]) (by simp [results, Tryz.results59, go_sem, z0, z1, z2, z3, z4, z5]) rfl ⟨?_, by repeat (first | (with_reducible exact bA) | (with_reducible refine Below.setCell ?_ (by simp; try omega) _))⟩
  rw [e1.out, e2.out.1, e2.out.2]
  exact ansI_nil _ _ _
 have e0 : (decide (1 ≤ p) && decide (p ≤ 8192)) = true := by simp [k2.1, k2.2]
 have K2 : Hid _ := k2
 rw [e0]
 clear k2
 go_wp2_with fail
 refine cM (HZ.out (by first | rfl | trivial) _ iI iJ) ?_
 rintro r w2 ⟨rfl, bN⟩
 revert z0 f0 z1 f1 z2 f2 z3 f3 z4 f4 z5 f5; refine zf6 bN ?_; intro z0 f0 z1 f1 z2 f2 z3 f3 z4 f4 z5 f5
 revert cX y0 y1 c0 c1 c2; refine cc6 bN ?_; intro cX y0 y1 c0 c1 c2
 revert c3 c4 c5 d0 d1 d2; refine cc6 bN ?_; intro c3 c4 c5 d0 d1 d2
 revert d3 d4 d5; refine cc3 bN ?_; intro d3 d4 d5
 replace hI := IsW.keep hI bN
 replace hJ := IsW.keep hJ bN
 replace iI := IsW.keep iI bN
 replace iJ := IsW.keep iJ bN
 replace hT0 := hT0.kept bN
 replace bA := nT bA bN
 clear bN
 by_cases k3 : dz = 0
 case neg =>
  have e1 : Hid (EE = dz) := by rw [Hid, hE.out, e0, if_pos ⟨rfl, rfl⟩, if_pos k3]
  have e3 : (dz != 0) = true := by simp [k3]
  have K3 : Hid _ := k3
  clear k3
  have e2 : Hid (LL = (false, 0, 0) ∧ HH = (false, 0, 0)) := ⟨by rw [hL.out, if_neg (by rw [e1.out]; exact K3.out)], by rw [hH.out, if_neg (by rw [e1.out]; exact K3.out)]⟩
  clear hE hL hH HW HZ HX HB HO H0 e0
  go_wp2_with fail
  refine bodyPost_ret (v := .tuple #[zIvI, .int .i64 dz]) (by simp [results, Tryz.results59, go_sem, z0, z1, z2, z3, z4, z5]) rfl ⟨?_, by repeat (first | (with_reducible exact bA) | (with_reducible refine Below.setCell ?_ (by simp; try omega) _))⟩
  rw [e1.out, e2.out.1, e2.out.2]
  exact ansI_nil _ _ _
 have HX2 : Hid _ := HX.out (by first | rfl | trivial) (by first | rfl | trivial) k3 K2.out
 have HB2 : Hid _ := HB.out (by first | rfl | trivial) (by first | rfl | trivial) k3 K2.out
 have e1 : Hid (EE = E1) := by rw [Hid, hE.out, e0, if_pos ⟨rfl, rfl⟩, if_neg (fun q => q k3)]
 have e2 : Hid (LL = L1 ∧ HH = H1) := by
  rw [Hid, hL.out, hH.out, e1.out]
  by_cases z : E1 = 0
  ·rw [if_pos z, if_pos z]; exact ⟨rfl, rfl⟩
  ·rw [if_neg z, if_neg z]; exact ⟨(H0.out z).1.symm, (H0.out z).2.symm⟩
 subst k3
 clear hE hL hH HW HZ HX HB H0 e0
 have kp : p = ((p.toNat : Nat) : Int) := by have := K2.out; omega
 have Kp : Hid _ := kp
 clear kp
 go_wp2_with fail
 have lw : Hid (_ ≤ _) := bA.size
 have HX3 : Hid _ := HX2.out _ hI hJ iI iJ cX hT0
 rw [← Kp.out] at HX3
 refine cM HX3.out ?_
 rintro r w3 ⟨al, nl, cl, ah, nh, ch, rfl, Ol, Oh, bN⟩
 replace Ol : OwP w.heap.size w3 PL al nl cl := ⟨Ol.1, Ol.2.low lw.out⟩
 replace Oh : OwP w.heap.size w3 PH ah nh ch := ⟨Oh.1, Oh.2.low lw.out⟩
 clear lw HX2 HX3
 revert z0 f0 z1 f1 z2 f2 z3 f3 z4 f4 z5 f5; refine zf6 bN ?_; intro z0 f0 z1 f1 z2 f2 z3 f3 z4 f4 z5 f5
 revert cX y0 y1 c0 c1 c2; refine cc6 bN ?_; intro cX y0 y1 c0 c1 c2
 revert c3 c4 c5 d0 d1 d2; refine cc6 bN ?_; intro c3 c4 c5 d0 d1 d2
 revert d3 d4 d5; refine cc3 bN ?_; intro d3 d4 d5
 replace hI := IsW.keep hI bN
 replace hJ := IsW.keep hJ bN
 replace iI := IsW.keep iI bN
 replace iJ := IsW.keep iJ bN
 replace hT0 := hT0.kept bN
 replace bA := nT bA bN
 clear bN
 have bB := below_one w3 (.cells #[.bool PL.1, .slice al nl cl, .int .i64 PL.2.2, .bool PH.1, .slice ah nh ch, .int .i64 PH.2.2] 27)
 obtain ⟨q0, q1, q2, q3, q4, q5⟩ := fX5 w3 PL al nl cl PH ah nh ch _ rfl
 revert z0 f0 z1 f1 z2 f2 z3 f3 z4 f4 z5 f5; refine zf6 bB ?_; intro z0 f0 z1 f1 z2 f2 z3 f3 z4 f4 z5 f5
 revert cX y0 y1 c0 c1 c2; refine cc6 bB ?_; intro cX y0 y1 c0 c1 c2
 revert c3 c4 c5 d0 d1 d2; refine cc6 bB ?_; intro c3 c4 c5 d0 d1 d2
 revert d3 d4 d5; refine cc3 bB ?_; intro d3 d4 d5
 replace hI := IsW.keep hI bB
 replace hJ := IsW.keep hJ bB
 replace iI := IsW.keep iI bB
 replace iJ := IsW.keep iJ bB
 replace Ol := OwP.keep Ol bB
 replace Oh := OwP.keep Oh bB
 replace hT0 := hT0.kept bB
 replace bA := nT bA bB
 clear bB
 go_wp2_with fail
 generalize (w3.alloc (.cells #[.bool PL.1, .slice al nl cl, .int .i64 PL.2.2, .bool PH.1, .slice ah nh ch, .int .i64 PH.2.2] 27)) = w4 at *
 have lw : Hid (_ ≤ _) := bA.size
 refine cM (HO.out HB2.out.1 HB2.out.2 K2.out _ _ _ _ _ _ _ Ol Oh hT0) ?_
 rintro r w5 ⟨a1, n1, c1', a2, n2, c2', rfl, m1, m2, O1, O2, bN⟩
 replace O1 := O1.low lw.out
 replace O2 := O2.low lw.out
 have k1 : Hid (n1 ≤ 1024) := m1
 have k2 : Hid (n2 ≤ 1024) := m2
 clear m1 m2 lw HO
 revert z0 f0 z1 f1 z2 f2 z3 f3 z4 f4 z5 f5; refine zf6 bN ?_; intro z0 f0 z1 f1 z2 f2 z3 f3 z4 f4 z5 f5
 revert q0 q1 q2 q3 q4 q5; refine cc6 bN ?_; intro q0 q1 q2 q3 q4 q5
 revert cX y0 y1 c0 c1 c2; refine cc6 bN ?_; intro cX y0 y1 c0 c1 c2
 revert c3 c4 c5 d0 d1 d2; refine cc6 bN ?_; intro c3 c4 c5 d0 d1 d2
 revert d3 d4 d5; refine cc3 bN ?_; intro d3 d4 d5
 replace hI := IsW.keep hI bN
 replace hJ := IsW.keep hJ bN
 replace iI := IsW.keep iI bN
 replace iJ := IsW.keep iJ bN
 replace Ol := OwP.keep Ol bN
 replace Oh := OwP.keep Oh bN
 replace hT0 := hT0.kept bN
 replace bA := nT bA bN
 clear bN
 go_wp2_with fail
 have s6 := six_ofI z0 z1 z2 z3 z4 z5 (fun _ q => by cases q) (fun _ q => by cases q) (fun _ q => by cases q) (fun _ q => by cases q) (fun _ q => by cases q) (fun _ q => by cases q)
 refine bodyPost_ret (v := .tuple #[ivI L1.1 a1 n1 c1' L1.2.2 H1.1 a2 n2 c2' H1.2.2, .int .i64 E1]) (by simp [results, Tryz.results59, go_sem, z0, z1, z2, z3, z4, z5]) rfl ⟨?_, by repeat (first | (with_reducible exact bA) | (with_reducible refine Below.setCell ?_ (by simp; try omega) _))⟩
 rw [e1.out, e2.out.1, e2.out.2]
 exact ⟨a1, n1, c1', a2, n2, c2', rfl, ⟨k1.out, ownW_sixI O1 s6 _ _ _ _ _ _⟩, ⟨k2.out, ownW_sixI O2 s6 _ _ _ _ _ _⟩⟩
theorem iDiv_calls (x y u v : DT) (p : Int) (w : World) (hx : inT w x) (hy : inT w y) (hu : inT w u) (hv : inT w v) (hT : Tab w) :
  Calls Tryz.prog 21 #[ivT x y, ivT u v, .int .i64 p] w fun r w' => AnsI w.heap.size w' r (dvL x y u v p) (dvH x y u v p) (dvE x y u v p) ∧ Below w.heap.size w w' := by
 have bA : Below w.heap.size w (((w.alloc (.cells #[.bool x.1, .slice x.2.1 x.2.2.1 x.2.2.2.1, .int .i64 x.2.2.2.2.2, .bool y.1, .slice y.2.1 y.2.2.1 y.2.2.2.1, .int .i64 y.2.2.2.2.2] 27)).alloc (.cells #[.bool u.1, .slice u.2.1 u.2.2.1 u.2.2.2.1, .int .i64 u.2.2.2.2.2, .bool v.1, .slice v.2.1 v.2.2.1 v.2.2.2.1, .int .i64 v.2.2.2.2.2] 27)).alloc (.cells #[.bool false, .slice none 0 0, .int .i64 0, .bool false, .slice none 0 0, .int .i64 0] 27)) := nT (nT (below_one _ _) (below_one _ _)) (below_one _ _)
 have HD : Hid _ := fun X w' (q1 : inT w' x) (q2 : inT w' y) (q3 : inT w' u) (q4 : inT w' v) cq tt => divDone_calls x y u v p X w' q1 q2 q3 q4 cq tt
 have HG : Hid _ := fun w' => dividing_calls w'
 generalize dvE x y u v p = EE at *
 generalize dvL x y u v p = LL at *
 generalize dvH x y u v p = HH at *
 have jx := hx.keep bA
 have jy := hy.keep bA
 have ju := hu.keep bA
 have jv := hv.keep bA
 have hT0 := hT.kept bA
 have AA : AtI w.heap.size (.bool x.1) (.slice x.2.1 x.2.2.1 x.2.2.2.1) (.int .i64 x.2.2.2.2.2) (.bool y.1) (.slice y.2.1 y.2.2.1 y.2.2.2.1) (.int .i64 y.2.2.2.2.2) (((w.alloc (.cells #[.bool x.1, .slice x.2.1 x.2.2.1 x.2.2.2.1, .int .i64 x.2.2.2.2.2, .bool y.1, .slice y.2.1 y.2.2.1 y.2.2.2.1, .int .i64 y.2.2.2.2.2] 27)).alloc (.cells #[.bool u.1, .slice u.2.1 u.2.2.1 u.2.2.2.1, .int .i64 u.2.2.2.2.2, .bool v.1, .slice v.2.1 v.2.2.1 v.2.2.2.1, .int .i64 v.2.2.2.2.2] 27)).alloc (.cells #[.bool false, .slice none 0 0, .int .i64 0, .bool false, .slice none 0 0, .int .i64 0] 27)) := ⟨by go_simp, by go_simp, by go_simp, by go_simp, by go_simp, by go_simp⟩
 have AB : AtI (w.heap.size + 1) (.bool u.1) (.slice u.2.1 u.2.2.1 u.2.2.2.1) (.int .i64 u.2.2.2.2.2) (.bool v.1) (.slice v.2.1 v.2.2.1 v.2.2.2.1) (.int .i64 v.2.2.2.2.2) (((w.alloc (.cells #[.bool x.1, .slice x.2.1 x.2.2.1 x.2.2.2.1, .int .i64 x.2.2.2.2.2, .bool y.1, .slice y.2.1 y.2.2.1 y.2.2.2.1, .int .i64 y.2.2.2.2.2] 27)).alloc (.cells #[.bool u.1, .slice u.2.1 u.2.2.1 u.2.2.2.1, .int .i64 u.2.2.2.2.2, .bool v.1, .slice v.2.1 v.2.2.1 v.2.2.2.1, .int .i64 v.2.2.2.2.2] 27)).alloc (.cells #[.bool false, .slice none 0 0, .int .i64 0, .bool false, .slice none 0 0, .int .i64 0] 27)) := ⟨by go_simp, by go_simp, by go_simp, by go_simp, by go_simp, by go_simp⟩
 have z0 : (((w.alloc (.cells #[.bool x.1, .slice x.2.1 x.2.2.1 x.2.2.2.1, .int .i64 x.2.2.2.2.2, .bool y.1, .slice y.2.1 y.2.2.1 y.2.2.2.1, .int .i64 y.2.2.2.2.2] 27)).alloc (.cells #[.bool u.1, .slice u.2.1 u.2.2.1 u.2.2.2.1, .int .i64 u.2.2.2.2.2, .bool v.1, .slice v.2.1 v.2.2.1 v.2.2.2.1, .int .i64 v.2.2.2.2.2] 27)).alloc (.cells #[.bool false, .slice none 0 0, .int .i64 0, .bool false, .slice none 0 0, .int .i64 0] 27)).cell? ⟨w.heap.size + 1 + 1, 0, none⟩ = some (.bool false) := by go_simp
 have f0 : (((w.alloc (.cells #[.bool x.1, .slice x.2.1 x.2.2.1 x.2.2.2.1, .int .i64 x.2.2.2.2.2, .bool y.1, .slice y.2.1 y.2.2.1 y.2.2.2.1, .int .i64 y.2.2.2.2.2] 27)).alloc (.cells #[.bool u.1, .slice u.2.1 u.2.2.1 u.2.2.2.1, .int .i64 u.2.2.2.2.2, .bool v.1, .slice v.2.1 v.2.2.1 v.2.2.2.1, .int .i64 v.2.2.2.2.2] 27)).alloc (.cells #[.bool false, .slice none 0 0, .int .i64 0, .bool false, .slice none 0 0, .int .i64 0] 27)).frozen? ⟨w.heap.size + 1 + 1, 0, none⟩ = false := by go_simp
 have z1 : (((w.alloc (.cells #[.bool x.1, .slice x.2.1 x.2.2.1 x.2.2.2.1, .int .i64 x.2.2.2.2.2, .bool y.1, .slice y.2.1 y.2.2.1 y.2.2.2.1, .int .i64 y.2.2.2.2.2] 27)).alloc (.cells #[.bool u.1, .slice u.2.1 u.2.2.1 u.2.2.2.1, .int .i64 u.2.2.2.2.2, .bool v.1, .slice v.2.1 v.2.2.1 v.2.2.2.1, .int .i64 v.2.2.2.2.2] 27)).alloc (.cells #[.bool false, .slice none 0 0, .int .i64 0, .bool false, .slice none 0 0, .int .i64 0] 27)).cell? ⟨w.heap.size + 1 + 1, 1, none⟩ = some (.slice none 0 0) := by go_simp
 have f1 : (((w.alloc (.cells #[.bool x.1, .slice x.2.1 x.2.2.1 x.2.2.2.1, .int .i64 x.2.2.2.2.2, .bool y.1, .slice y.2.1 y.2.2.1 y.2.2.2.1, .int .i64 y.2.2.2.2.2] 27)).alloc (.cells #[.bool u.1, .slice u.2.1 u.2.2.1 u.2.2.2.1, .int .i64 u.2.2.2.2.2, .bool v.1, .slice v.2.1 v.2.2.1 v.2.2.2.1, .int .i64 v.2.2.2.2.2] 27)).alloc (.cells #[.bool false, .slice none 0 0, .int .i64 0, .bool false, .slice none 0 0, .int .i64 0] 27)).frozen? ⟨w.heap.size + 1 + 1, 1, none⟩ = false := by go_simp
 have z2 : (((w.alloc (.cells #[.bool x.1, .slice x.2.1 x.2.2.1 x.2.2.2.1, .int .i64 x.2.2.2.2.2, .bool y.1, .slice y.2.1 y.2.2.1 y.2.2.2.1, .int .i64 y.2.2.2.2.2] 27)).alloc (.cells #[.bool u.1, .slice u.2.1 u.2.2.1 u.2.2.2.1, .int .i64 u.2.2.2.2.2, .bool v.1, .slice v.2.1 v.2.2.1 v.2.2.2.1, .int .i64 v.2.2.2.2.2] 27)).alloc (.cells #[.bool false, .slice none 0 0, .int .i64 0, .bool false, .slice none 0 0, .int .i64 0] 27)).cell? ⟨w.heap.size + 1 + 1, 2, none⟩ = some (.int .i64 0) := by go_simp
 have f2 : (((w.alloc (.cells #[.bool x.1, .slice x.2.1 x.2.2.1 x.2.2.2.1, .int .i64 x.2.2.2.2.2, .bool y.1, .slice y.2.1 y.2.2.1 y.2.2.2.1, .int .i64 y.2.2.2.2.2] 27)).alloc (.cells #[.bool u.1, .slice u.2.1 u.2.2.1 u.2.2.2.1, .int .i64 u.2.2.2.2.2, .bool v.1, .slice v.2.1 v.2.2.1 v.2.2.2.1, .int .i64 v.2.2.2.2.2] 27)).alloc (.cells #[.bool false, .slice none 0 0, .int .i64 0, .bool false, .slice none 0 0, .int .i64 0] 27)).frozen? ⟨w.heap.size + 1 + 1, 2, none⟩ = false := by go_simp
 have z3 : (((w.alloc (.cells #[.bool x.1, .slice x.2.1 x.2.2.1 x.2.2.2.1, .int .i64 x.2.2.2.2.2, .bool y.1, .slice y.2.1 y.2.2.1 y.2.2.2.1, .int .i64 y.2.2.2.2.2] 27)).alloc (.cells #[.bool u.1, .slice u.2.1 u.2.2.1 u.2.2.2.1, .int .i64 u.2.2.2.2.2, .bool v.1, .slice v.2.1 v.2.2.1 v.2.2.2.1, .int .i64 v.2.2.2.2.2] 27)).alloc (.cells #[.bool false, .slice none 0 0, .int .i64 0, .bool false, .slice none 0 0, .int .i64 0] 27)).cell? ⟨w.heap.size + 1 + 1, 3, none⟩ = some (.bool false) := by go_simp
 have f3 : (((w.alloc (.cells #[.bool x.1, .slice x.2.1 x.2.2.1 x.2.2.2.1, .int .i64 x.2.2.2.2.2, .bool y.1, .slice y.2.1 y.2.2.1 y.2.2.2.1, .int .i64 y.2.2.2.2.2] 27)).alloc (.cells #[.bool u.1, .slice u.2.1 u.2.2.1 u.2.2.2.1, .int .i64 u.2.2.2.2.2, .bool v.1, .slice v.2.1 v.2.2.1 v.2.2.2.1, .int .i64 v.2.2.2.2.2] 27)).alloc (.cells #[.bool false, .slice none 0 0, .int .i64 0, .bool false, .slice none 0 0, .int .i64 0] 27)).frozen? ⟨w.heap.size + 1 + 1, 3, none⟩ = false := by go_simp
 have z4 : (((w.alloc (.cells #[.bool x.1, .slice x.2.1 x.2.2.1 x.2.2.2.1, .int .i64 x.2.2.2.2.2, .bool y.1, .slice y.2.1 y.2.2.1 y.2.2.2.1, .int .i64 y.2.2.2.2.2] 27)).alloc (.cells #[.bool u.1, .slice u.2.1 u.2.2.1 u.2.2.2.1, .int .i64 u.2.2.2.2.2, .bool v.1, .slice v.2.1 v.2.2.1 v.2.2.2.1, .int .i64 v.2.2.2.2.2] 27)).alloc (.cells #[.bool false, .slice none 0 0, .int .i64 0, .bool false, .slice none 0 0, .int .i64 0] 27)).cell? ⟨w.heap.size + 1 + 1, 4, none⟩ = some (.slice none 0 0) := by go_simp
 have f4 : (((w.alloc (.cells #[.bool x.1, .slice x.2.1 x.2.2.1 x.2.2.2.1, .int .i64 x.2.2.2.2.2, .bool y.1, .slice y.2.1 y.2.2.1 y.2.2.2.1, .int .i64 y.2.2.2.2.2] 27)).alloc (.cells #[.bool u.1, .slice u.2.1 u.2.2.1 u.2.2.2.1, .int .i64 u.2.2.2.2.2, .bool v.1, .slice v.2.1 v.2.2.1 v.2.2.2.1, .int .i64 v.2.2.2.2.2] 27)).alloc (.cells #[.bool false, .slice none 0 0, .int .i64 0, .bool false, .slice none 0 0, .int .i64 0] 27)).frozen? ⟨w.heap.size + 1 + 1, 4, none⟩ = false := by go_simp
 have z5 : (((w.alloc (.cells #[.bool x.1, .slice x.2.1 x.2.2.1 x.2.2.2.1, .int .i64 x.2.2.2.2.2, .bool y.1, .slice y.2.1 y.2.2.1 y.2.2.2.1, .int .i64 y.2.2.2.2.2] 27)).alloc (.cells #[.bool u.1, .slice u.2.1 u.2.2.1 u.2.2.2.1, .int .i64 u.2.2.2.2.2, .bool v.1, .slice v.2.1 v.2.2.1 v.2.2.2.1, .int .i64 v.2.2.2.2.2] 27)).alloc (.cells #[.bool false, .slice none 0 0, .int .i64 0, .bool false, .slice none 0 0, .int .i64 0] 27)).cell? ⟨w.heap.size + 1 + 1, 5, none⟩ = some (.int .i64 0) := by go_simp
 have f5 : (((w.alloc (.cells #[.bool x.1, .slice x.2.1 x.2.2.1 x.2.2.2.1, .int .i64 x.2.2.2.2.2, .bool y.1, .slice y.2.1 y.2.2.1 y.2.2.2.1, .int .i64 y.2.2.2.2.2] 27)).alloc (.cells #[.bool u.1, .slice u.2.1 u.2.2.1 u.2.2.2.1, .int .i64 u.2.2.2.2.2, .bool v.1, .slice v.2.1 v.2.2.1 v.2.2.2.1, .int .i64 v.2.2.2.2.2] 27)).alloc (.cells #[.bool false, .slice none 0 0, .int .i64 0, .bool false, .slice none 0 0, .int .i64 0] 27)).frozen? ⟨w.heap.size + 1 + 1, 5, none⟩ = false := by go_simp
 clear hx hy hu hv hT
 go_enter Tryz.func21, Tryz.ntmps21
 go_upto_region 1 with fail
 generalize (((w.alloc (.cells #[.bool x.1, .slice x.2.1 x.2.2.1 x.2.2.2.1, .int .i64 x.2.2.2.2.2, .bool y.1, .slice y.2.1 y.2.2.1 y.2.2.2.1, .int .i64 y.2.2.2.2.2] 27)).alloc (.cells #[.bool u.1, .slice u.2.1 u.2.2.1 u.2.2.2.1, .int .i64 u.2.2.2.2.2, .bool v.1, .slice v.2.1 v.2.2.1 v.2.2.2.1, .int .i64 v.2.2.2.2.2] 27)).alloc (.cells #[.bool false, .slice none 0 0, .int .i64 0, .bool false, .slice none 0 0, .int .i64 0] 27)) = w0 at *
 have bN : Below w0.heap.size w0 (World.drew w0) := (Below.refl _ _).drew
 refine wp_region_held (S := fun w' => AtI w.heap.size (.bool x.1) (.slice x.2.1 x.2.2.1 x.2.2.2.1) (.int .i64 x.2.2.2.2.2) (.bool y.1) (.slice y.2.1 y.2.2.1 y.2.2.2.1) (.int .i64 y.2.2.2.2.2) w' ∧ AtI (w.heap.size + 1) (.bool u.1) (.slice u.2.1 u.2.2.1 u.2.2.2.1) (.int .i64 u.2.2.2.2.2) (.bool v.1) (.slice v.2.1 v.2.2.1 v.2.2.2.1) (.int .i64 v.2.2.2.2.2) w') (by kernel_rfl) ?_
 change wpAnyH _ _ _ _ _ _ _ _ (World.drew w0)
 generalize World.drew w0 = wd at bN ⊢
 revert z0 f0 z1 f1 z2 f2 z3 f3 z4 f4 z5 f5; refine zf6 bN ?_; intro z0 f0 z1 f1 z2 f2 z3 f3 z4 f4 z5 f5
 replace jx := inT.keep jx bN
 replace jy := inT.keep jy bN
 replace ju := inT.keep ju bN
 replace jv := inT.keep jv bN
 replace AA := AA.keep bN
 replace AB := AB.keep bN
 replace hT0 := hT0.kept bN
 replace bA := nT bA bN
 clear bN
 refine tk 1 (ivT x y) rfl (by kernel_rfl) (fun _ _ _ h => h) (by rfl) ?y1 ⟨AA, AB⟩ ?r1
 case y1 => (intro ww hS; obtain ⟨⟨q0, q1, q2, q3, q4, q5⟩, -⟩ := hS; go_simp; try with_reducible rfl)
 try simp only [Act.put, sA]
 refine tk 2 (ivT u v) rfl (by kernel_rfl) (fun _ _ _ h => h) (by rfl) ?y2 ⟨AA, AB⟩ ?r2
 case y2 => (intro ww hS; obtain ⟨-, ⟨q0, q1, q2, q3, q4, q5⟩⟩ := hS; go_simp; try with_reducible rfl)
 try simp only [Act.put]
 refine tk 3 (.int .i64 p) rfl (by kernel_rfl) (fun _ _ _ h => h) (by rfl) ?y3 ⟨AA, AB⟩ ?r3
 case y3 => (intro ww hS; obtain ⟨-, -⟩ := hS; go_simp; try with_reducible rfl)
 try simp only [Act.put]
 refine rd1 0 (by kernel_rfl) rfl fun K hK => ?_
 go_simp
 refine cM (HG.out _) ?_
 rintro r w1 ⟨X, rfl, cq, hX, bN⟩
 revert z0 f0 z1 f1 z2 f2 z3 f3 z4 f4 z5 f5; refine zf6 bN ?_; intro z0 f0 z1 f1 z2 f2 z3 f3 z4 f4 z5 f5
 replace jx := inT.keep jx bN
 replace jy := inT.keep jy bN
 replace ju := inT.keep ju bN
 replace jv := inT.keep jv bN
 replace AA := AA.keep bN
 replace AB := AB.keep bN
 replace hT0 := hT0.kept bN
 replace bA := nT bA bN
 clear bN
 clear HG
 refine hK.out _ _ ⟨AA, AB⟩ (fun _ => ?_)
 clear hK K
 try simp only [Act.put, sA, sZ, sS]
 refine rd1 4 (by kernel_rfl) rfl fun K hK => ?_
 go_simp
 have lw : Hid (_ ≤ _) := bA.size
 refine cM (HD.out X _ jx jy ju jv cq hT0) ?_
 rintro r w2 ⟨⟨al, nl, cl, ah, nh, ch, rfl, Ol, Oh⟩, bN⟩
 replace Ol : OwP w.heap.size w2 LL al nl cl := ⟨Ol.1, Ol.2.low lw.out⟩
 replace Oh : OwP w.heap.size w2 HH ah nh ch := ⟨Oh.1, Oh.2.low lw.out⟩
 clear lw HD
 revert z0 f0 z1 f1 z2 f2 z3 f3 z4 f4 z5 f5; refine zf6 bN ?_; intro z0 f0 z1 f1 z2 f2 z3 f3 z4 f4 z5 f5
 replace jx := inT.keep jx bN
 replace jy := inT.keep jy bN
 replace ju := inT.keep ju bN
 replace jv := inT.keep jv bN
 replace AA := AA.keep bN
 replace AB := AB.keep bN
 replace hT0 := hT0.kept bN
 replace bA := nT bA bN
 clear bN
 refine hK.out _ _ ⟨AA, AB⟩ (fun _ => ?_)
 clear hK K
 try simp only [Act.put, sA, sZ, sS]
 refine tk 5 (ivT (mT LL al nl cl) (mT HH ah nh ch)) rfl (by kernel_rfl) (fun _ _ _ h => h) (by rfl) ?y4 ⟨AA, AB⟩ ?r4
 case y4 => (intro ww hS; obtain ⟨-, -⟩ := hS; go_simp; try with_reducible rfl)
 try simp only [Act.put]
 refine tk 6 (.int .i64 EE) rfl (by kernel_rfl) (fun _ _ _ h => h) (by rfl) ?y5 ⟨AA, AB⟩ ?r5
 case y5 => (intro ww hS; obtain ⟨-, -⟩ := hS; go_simp; try with_reducible rfl)
 try simp only [Act.put]
 refine rd1 7 (by kernel_rfl) rfl fun K hK => ?_
 go_simp
 refine hK.out _ _ ⟨AA.set6 (by omega) _ _ _ _ _ _, AB.set6 (by omega) _ _ _ _ _ _⟩ (fun _ => ?_)
 clear hK K
 try simp only [Act.put, sA, sZ, sS]
 refine rd1 8 (by kernel_rfl) rfl fun K hK => ?_
 go_simp
 refine hK.out _ _ ⟨AA.set6 (by omega) _ _ _ _ _ _, AB.set6 (by omega) _ _ _ _ _ _⟩ (fun _ => ?_)
 clear hK K
 try simp only [Act.put, sA, sZ, sS]
 refine wpAnyH_done (by kernel_rfl) ?_ _
 go_wp2_with fail
 have s6 := six_ofI z0 z1 z2 z3 z4 z5 (fun _ q => by cases q) (fun _ q => by cases q) (fun _ q => by cases q) (fun _ q => by cases q) (fun _ q => by cases q) (fun _ q => by cases q)
 exact bodyPost_ret (v := .tuple #[ivT (mT LL al nl cl) (mT HH ah nh ch), .int .i64 EE]) (by simp [results, Tryz.results21, go_sem, z0, z1, z2, z3, z4, z5]) rfl ⟨⟨al, nl, cl, ah, nh, ch, rfl, ⟨Ol.1, ownW_sixI Ol.2 s6 _ _ _ _ _ _⟩, ⟨Oh.1, ownW_sixI Oh.2 s6 _ _ _ _ _ _⟩⟩, by repeat (first | (with_reducible exact bA) | (with_reducible refine Below.setCell ?_ (by simp; try omega) _))⟩
end Go.Proofs.YtahpdcbmekgkfaaGreatDoor
