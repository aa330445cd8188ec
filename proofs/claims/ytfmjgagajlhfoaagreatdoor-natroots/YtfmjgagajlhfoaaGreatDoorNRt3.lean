/- The walks of Sqrt and Cbrt as they are called. -/
import Derived.Test.YtfmjgagajlhfoaaGreatDoorNRt2
namespace Go.Proofs.YtfmjgagajlhfoaaGreatDoor
open Go.RowKit

/-- A root, what is left, or why there is none. -/
def rtQ (k u : Nat) : Nat := if greatB u = true then 0 else rt k u
def rtM (k u : Nat) : Nat := if greatB u = true then 0 else u - rt k u ^ k
def rtE (u : Nat) : Int := if greatB u = true then 3 else 0
theorem rt_great {k u : Nat} (h : greatB u = true) : rtQ k u = 0 ∧ rtM k u = 0 ∧ rtE u = 3 := by unfold rtQ rtM rtE; rw [if_pos h, if_pos h, if_pos h]; exact ⟨rfl, rfl, rfl⟩
theorem rt_fit {k u : Nat} (h : greatB u = false) : rtQ k u = rt k u ∧ rtM k u = u - rt k u ^ k ∧ rtE u = 0 := by unfold rtQ rtM rtE; rw [if_neg (by rw [h]; decide), if_neg (by rw [h]; decide), if_neg (by rw [h]; decide)]; exact ⟨rfl, rfl, rfl⟩
theorem rt_lens {k u : Nat} (hk : 0 < k) : (wordsOf (rtQ k u)).length ≤ 1024 ∧ (wordsOf (rtM k u)).length ≤ 1024 := by
  cases h : greatB u with
  | true => rw [(rt_great h).1, (rt_great h).2.1, words_zero]; exact ⟨by simp, by simp⟩
  | false =>
    rw [(rt_fit h).1, (rt_fit h).2.1]
    exact ⟨(great_len _).1 (great_mono (rt_self hk) h), (great_len _).1 (great_mono (Nat.sub_le _ _) h)⟩

set_option maxRecDepth 100000 in
set_option maxHeartbeats 1000000 in
theorem rest2_calls (a : Option Addr) (len cap : Nat) (xs : List Int) (w : World) (h : IsW w a len cap xs) (hm : len ≤ 17592186044416) :
    Calls Tryz.prog 11 #[.slice a len cap, .int .i64 2] w fun e w' => ∃ v v', e = .returned (.tuple #[v, v', .int .i64 (rtE (val xs))]) ∧ NatAt w.heap.size w' v (rtQ 2 (val xs)) ∧ NatAt w.heap.size w' v' (rtM 2 (val xs)) ∧ Below w.heap.size w w' := by
  have HT := trimN_pack a len cap xs w h hm
  go_enter Tryz.func11, Tryz.ntmps11
  go_wp2_with fail
  refine Calls.mono HT ?_
  rintro e w ⟨a1, n, rfl, hn, hI, rfl⟩
  have HN : Hid (n = (wordsOf (val xs)).length) := hn
  clear hn HT h hm
  go_wp2_with fail
  refine Calls.mono (great1_calls _ a1 n n _ (by go_simp)) ?_
  rintro e w1 ⟨rfl, rfl⟩
  by_cases hg : 1024 < n
  · have HG : Hid _ := rt_great (k := 2) (great_of_len HN.out hg)
    go_wp2_with fail
    go_ret3
    rw [HG.out.1, HG.out.2.1, HG.out.2.2]
    exact ⟨_, _, rfl, natAt_nil _ _, natAt_nil _ _, below_one _ _⟩
  · have hgr := fit_of_len HN.out hg
    have HG : Hid _ := rt_fit (k := 2) hgr
    have b1 := below_one w (.cells #[.slice a1 n n] 36)
    have hI1 := hI.keep b1
    generalize w.alloc (.cells #[.slice a1 n n] 36) = w1 at *
    have hn : n ≤ 1024 := by omega
    have RC : Hid _ := root2_calls (val xs) a1 n w1 hI1 hn
    have hs := (rt_spec 2 (val xs) (by decide)).1
    have hrv := rt_self (k := 2) (v := val xs) (by decide)
    obtain ⟨r, hr⟩ : ∃ r, r = rt 2 (val xs) := ⟨_, rfl⟩
    rw [← hr] at RC HG hs hrv
    have HGR : Hid (greatB r = false ∧ greatB (val xs - r ^ 2) = false ∧ (wordsOf r).length ≤ 1024 ∧ (wordsOf (r ^ 2)).length ≤ n ∧ r ^ 2 ≤ val xs) := ⟨great_mono hrv hgr, great_mono (Nat.sub_le _ _) hgr, (great_len _).1 (great_mono hrv hgr), by rw [HN.out]; exact words_mono hs, hs⟩
    clear hr hs hrv hgr hI
    go_wp2_with fail
    refine Calls.mono RC.out ?_
    rintro e w2 ⟨a2, n2, rfl, hn2, hO2, b2⟩
    have hn2b : n2 ≤ 1024 := by rw [hn2]; exact HGR.out.2.2.1
    have b12 := nbelow_trans b1 b2
    have hI2 := hI1.keep b2
    have PC : Hid _ := power_calls a2 n2 r 2 w2 hO2.1 (by omega) (by decide) (by have := HGR.out.2.2.2.1; omega)
    clear RC hn2 hI1
    go_wp2_with fail
    refine Calls.mono PC.out ?_
    rintro e w3 ⟨a3, n3, rfl, hn3, hO3, b3⟩
    have hn3b : n3 ≤ n := by rw [hn3]; exact HGR.out.2.2.2.1
    have b13 := nbelow_trans b12 b3
    have hI3 := hI2.keep b3
    have hO23 := hO2.keep b3
    clear PC hn3 hI2 hO2
    go_wp2_with fail
    refine Calls.mono (lessW_calls a1 a3 n n3 _ _ w3 hI3 hO3.1 (by omega) hn3b (by rw [val_words, val_words]; exact HGR.out.2.2.2.2)) ?_
    rintro e w4 ⟨a4, M4, rfl, hO4, hv4, b4⟩
    rw [val_words, val_words] at hv4
    have hO24 := hO23.keep b4
    have b14 := nbelow_trans b13 b4
    have AC : Hid _ := answers_calls w.heap.size a2 a4 n2 n2 n n (wordsOf r) M4 w4 (hO24.low b1.size) (hO4.low b13.size) (by omega) (by omega) (by rw [val_words]; exact HGR.out.1) (by rw [hv4]; exact HGR.out.2.1)
    rw [val_words, hv4] at AC
    clear hv4 hI3 hO3 hO23 hO24 hO4
    go_wp2_with fail
    refine Calls.mono AC.out ?_
    rintro e w5 ⟨v1, v2, rfl, hA1, hA2, b5⟩
    clear AC
    go_wp2_with fail
    go_ret3
    rw [HG.out.1, HG.out.2.1, HG.out.2.2]
    exact ⟨v1, v2, rfl, hA1, hA2, nbelow_trans b14 b5⟩

set_option maxHeartbeats 1000000 in
theorem sqrt_calls (a : Option Addr) (len cap : Nat) (xs : List Int) (w : World) (h : IsW w a len cap xs) (hm : len ≤ 17592186044416) :
    Calls Tryz.prog 4 #[.slice a len cap] w fun e w' => ∃ v v', e = .returned (.tuple #[v, v', .int .i64 (rtE (val xs))]) ∧ NatAt w.heap.size w' v (rtQ 2 (val xs)) ∧ NatAt w.heap.size w' v' (rtM 2 (val xs)) ∧ Below w.heap.size w w' := by
  have RC : Hid _ := rest2_calls a len cap xs w h hm
  clear h hm
  go_enter Tryz.func4, Tryz.ntmps4
  go_wp2_with fail
  refine Calls.mono RC.out ?_
  rintro e w1 ⟨v1, v2, rfl, hA1, hA2, b1⟩
  go_wp2_with fail
  go_ret3
  exact ⟨v1, v2, rfl, hA1, hA2, b1⟩

set_option maxRecDepth 100000 in
set_option maxHeartbeats 1000000 in
theorem rest3_calls (a : Option Addr) (len cap : Nat) (xs : List Int) (w : World) (h : IsW w a len cap xs) (hm : len ≤ 17592186044416) :
    Calls Tryz.prog 11 #[.slice a len cap, .int .i64 3] w fun e w' => ∃ v v', e = .returned (.tuple #[v, v', .int .i64 (rtE (val xs))]) ∧ NatAt w.heap.size w' v (rtQ 3 (val xs)) ∧ NatAt w.heap.size w' v' (rtM 3 (val xs)) ∧ Below w.heap.size w w' := by
  have HT := trimN_pack a len cap xs w h hm
  go_enter Tryz.func11, Tryz.ntmps11
  go_wp2_with fail
  refine Calls.mono HT ?_
  rintro e w ⟨a1, n, rfl, hn, hI, rfl⟩
  have HN : Hid (n = (wordsOf (val xs)).length) := hn
  clear hn HT h hm
  go_wp2_with fail
  refine Calls.mono (great1_calls _ a1 n n _ (by go_simp)) ?_
  rintro e w1 ⟨rfl, rfl⟩
  by_cases hg : 1024 < n
  · have HG : Hid _ := rt_great (k := 3) (great_of_len HN.out hg)
    go_wp2_with fail
    go_ret3
    rw [HG.out.1, HG.out.2.1, HG.out.2.2]
    exact ⟨_, _, rfl, natAt_nil _ _, natAt_nil _ _, below_one _ _⟩
  · have hgr := fit_of_len HN.out hg
    have HG : Hid _ := rt_fit (k := 3) hgr
    have b1 := below_one w (.cells #[.slice a1 n n] 36)
    have hI1 := hI.keep b1
    generalize w.alloc (.cells #[.slice a1 n n] 36) = w1 at *
    have hn : n ≤ 1024 := by omega
    have RC : Hid _ := root3_calls (val xs) a1 n w1 hI1 hn
    have hs := (rt_spec 3 (val xs) (by decide)).1
    have hrv := rt_self (k := 3) (v := val xs) (by decide)
    obtain ⟨r, hr⟩ : ∃ r, r = rt 3 (val xs) := ⟨_, rfl⟩
    rw [← hr] at RC HG hs hrv
    have HGR : Hid (greatB r = false ∧ greatB (val xs - r ^ 3) = false ∧ (wordsOf r).length ≤ 1024 ∧ (wordsOf (r ^ 3)).length ≤ n ∧ r ^ 3 ≤ val xs) := ⟨great_mono hrv hgr, great_mono (Nat.sub_le _ _) hgr, (great_len _).1 (great_mono hrv hgr), by rw [HN.out]; exact words_mono hs, hs⟩
    clear hr hs hrv hgr hI
    go_wp2_with fail
    refine Calls.mono RC.out ?_
    rintro e w2 ⟨a2, n2, rfl, hn2, hO2, b2⟩
    have hn2b : n2 ≤ 1024 := by rw [hn2]; exact HGR.out.2.2.1
    have b12 := nbelow_trans b1 b2
    have hI2 := hI1.keep b2
    have PC : Hid _ := power_calls a2 n2 r 3 w2 hO2.1 (by omega) (by decide) (by have := HGR.out.2.2.2.1; omega)
    clear RC hn2 hI1
    go_wp2_with fail
    refine Calls.mono PC.out ?_
    rintro e w3 ⟨a3, n3, rfl, hn3, hO3, b3⟩
    have hn3b : n3 ≤ n := by rw [hn3]; exact HGR.out.2.2.2.1
    have b13 := nbelow_trans b12 b3
    have hI3 := hI2.keep b3
    have hO23 := hO2.keep b3
    clear PC hn3 hI2 hO2
    go_wp2_with fail
    refine Calls.mono (lessW_calls a1 a3 n n3 _ _ w3 hI3 hO3.1 (by omega) hn3b (by rw [val_words, val_words]; exact HGR.out.2.2.2.2)) ?_
    rintro e w4 ⟨a4, M4, rfl, hO4, hv4, b4⟩
    rw [val_words, val_words] at hv4
    have hO24 := hO23.keep b4
    have b14 := nbelow_trans b13 b4
    have AC : Hid _ := answers_calls w.heap.size a2 a4 n2 n2 n n (wordsOf r) M4 w4 (hO24.low b1.size) (hO4.low b13.size) (by omega) (by omega) (by rw [val_words]; exact HGR.out.1) (by rw [hv4]; exact HGR.out.2.1)
    rw [val_words, hv4] at AC
    clear hv4 hI3 hO3 hO23 hO24 hO4
    go_wp2_with fail
    refine Calls.mono AC.out ?_
    rintro e w5 ⟨v1, v2, rfl, hA1, hA2, b5⟩
    clear AC
    go_wp2_with fail
    go_ret3
    rw [HG.out.1, HG.out.2.1, HG.out.2.2]
    exact ⟨v1, v2, rfl, hA1, hA2, nbelow_trans b14 b5⟩

set_option maxHeartbeats 1000000 in
theorem cbrt_calls (a : Option Addr) (len cap : Nat) (xs : List Int) (w : World) (h : IsW w a len cap xs) (hm : len ≤ 17592186044416) :
    Calls Tryz.prog 6 #[.slice a len cap] w fun e w' => ∃ v v', e = .returned (.tuple #[v, v', .int .i64 (rtE (val xs))]) ∧ NatAt w.heap.size w' v (rtQ 3 (val xs)) ∧ NatAt w.heap.size w' v' (rtM 3 (val xs)) ∧ Below w.heap.size w w' := by
  have RC : Hid _ := rest3_calls a len cap xs w h hm
  clear h hm
  go_enter Tryz.func6, Tryz.ntmps6
  go_wp2_with fail
  refine Calls.mono RC.out ?_
  rintro e w1 ⟨v1, v2, rfl, hA1, hA2, b1⟩
  go_wp2_with fail
  go_ret3
  exact ⟨v1, v2, rfl, hA1, hA2, b1⟩

end Go.Proofs.YtfmjgagajlhfoaaGreatDoor
