/- Package special: Special, Inside and Args of every function. -/
import Derived.Test.YtkkccnpmcbpdnaaGreatDoorSPS2
import Derived.Test.YtkkccnpmcbpdnaaGreatDoorSPR1
import Derived.Test.YtkkccnpmcbpdnaaGreatDoorSPR2
import Derived.Test.YtkkccnpmcbpdnaaGreatDoorSPR3
namespace Go.Proofs.YtkkccnpmcbpdnaaGreatDoor
open Go.RowKit

theorem notF (f : Int) (h : 37 ≤ f) : isF f = false := by unfold isF; simp; omega
theorem spV_1 (x y : Int) : spV 1 x y = rowsAt (withN [] lExp) x x := rfl
theorem spV_2 (x y : Int) : spV 2 x y = rowsAt (withN [] lExp) x x := rfl
theorem spV_3 (x y : Int) : spV 3 x y = rowsAt (withN [] lExp) x x := rfl
theorem spV_4 (x y : Int) : spV 4 x y = rowsAt (withN [] lExpm1) x x := rfl
theorem spV_5 (x y : Int) : spV 5 x y = rowsAt (withN [] lExpm1) x x := rfl
theorem spV_6 (x y : Int) : spV 6 x y = rowsAt (withN [] lExpm1) x x := rfl
theorem spV_7 (x y : Int) : spV 7 x y = rowsAt (withN [] lLog) x x := rfl
theorem spV_8 (x y : Int) : spV 8 x y = rowsAt (withN [] lLog) x x := rfl
theorem spV_9 (x y : Int) : spV 9 x y = rowsAt (withN [] lLog) x x := rfl
theorem spV_10 (x y : Int) : spV 10 x y = rowsAt (withN [] lLog1p) x x := rfl
theorem spV_11 (x y : Int) : spV 11 x y = rowsAt (withN [] lLog1p) x x := rfl
theorem spV_12 (x y : Int) : spV 12 x y = rowsAt (withN [] lLog1p) x x := rfl
theorem spV_13 (x y : Int) : spV 13 x y = rowsAt (withN [] lSin) x x := rfl
theorem spV_14 (x y : Int) : spV 14 x y = rowsAt (withN [] lCos) x x := rfl
theorem spV_15 (x y : Int) : spV 15 x y = rowsAt (withN [] lSin) x x := rfl
theorem spV_16 (x y : Int) : spV 16 x y = rowsAt (withN [] lSinpi) x x := rfl
theorem spV_17 (x y : Int) : spV 17 x y = rowsAt (withN [] lCospi) x x := rfl
theorem spV_18 (x y : Int) : spV 18 x y = rowsAt (withN [] lTanpi) x x := rfl
theorem spV_19 (x y : Int) : spV 19 x y = rowsAt (withN [] lAsin) x x := rfl
theorem spV_20 (x y : Int) : spV 20 x y = rowsAt (withN [] lAcos) x x := rfl
theorem spV_21 (x y : Int) : spV 21 x y = rowsAt (withN [] lAtan) x x := rfl
theorem spV_22 (x y : Int) : spV 22 x y = rowsAt (withN [] lAsin) x x := rfl
theorem spV_23 (x y : Int) : spV 23 x y = rowsAt (withN [] lAcos) x x := rfl
theorem spV_24 (x y : Int) : spV 24 x y = rowsAt (withN [] lAtanpi) x x := rfl
theorem spV_25 (x y : Int) : spV 25 x y = rowsAt (withN [] lThem) x x := rfl
theorem spV_26 (x y : Int) : spV 26 x y = rowsAt (withN [] lCosh) x x := rfl
theorem spV_27 (x y : Int) : spV 27 x y = rowsAt (withN [] lTanh) x x := rfl
theorem spV_28 (x y : Int) : spV 28 x y = rowsAt (withN [] lThem) x x := rfl
theorem spV_29 (x y : Int) : spV 29 x y = rowsAt (withN [] lAcosh) x x := rfl
theorem spV_30 (x y : Int) : spV 30 x y = rowsAt (withN [] lAtanh) x x := rfl
theorem spV_31 (x y : Int) : spV 31 x y = rowsAt (withN [] lThem) x x := rfl
theorem spV_32 (x y : Int) : spV 32 x y = rowsAt (withN [] lRsqrt) x x := rfl
theorem spV_33 (x y : Int) : spV 33 x y = rowsAt (withN [] lRad) x y := rfl
theorem spV_34 (x y : Int) : spV 34 x y = rowsAt (withN [] lTurn) x y := rfl
theorem spV_35 (x y : Int) : spV 35 x y = rowsAt (withN lAny lPow) x y := rfl
theorem spV_36 (x y : Int) : spV 36 x y = rowsAt (withN lFar lDist) x y := rfl

theorem special_nat (x y : Int) (w : World) (h : U x) (k : U y) (hT : Tab w) (hM : Meas w) : ∀ n : Nat, n < 37 → Calls Tryz.prog 4 #[.int .u8 ((n : Nat) : Int), .int .u64 x, .int .u64 y] w fun r w' => r = .returned (SR (spV ((n : Nat) : Int) x y) (spE ((n : Nat) : Int))) ∧ Below w.heap.size w w'
  | 0, _ => special_nil 0 x y w (fun W => rowsOf_calls 0 _ W (by omega) rfl)
  | 1, _ => special_one 1 39 lExp lExp_cl (by decide) x y w h h hT hM (fun W => rowsOf_calls 1 _ W (by omega) rfl)
  | 2, _ => special_one 2 39 lExp lExp_cl (by decide) x y w h h hT hM (fun W => rowsOf_calls 2 _ W (by omega) rfl)
  | 3, _ => special_one 3 39 lExp lExp_cl (by decide) x y w h h hT hM (fun W => rowsOf_calls 3 _ W (by omega) rfl)
  | 4, _ => special_one 4 40 lExpm1 lExpm1_cl (by decide) x y w h h hT hM (fun W => rowsOf_calls 4 _ W (by omega) rfl)
  | 5, _ => special_one 5 40 lExpm1 lExpm1_cl (by decide) x y w h h hT hM (fun W => rowsOf_calls 5 _ W (by omega) rfl)
  | 6, _ => special_one 6 40 lExpm1 lExpm1_cl (by decide) x y w h h hT hM (fun W => rowsOf_calls 6 _ W (by omega) rfl)
  | 7, _ => special_one 7 41 lLog lLog_cl (by decide) x y w h h hT hM (fun W => rowsOf_calls 7 _ W (by omega) rfl)
  | 8, _ => special_one 8 41 lLog lLog_cl (by decide) x y w h h hT hM (fun W => rowsOf_calls 8 _ W (by omega) rfl)
  | 9, _ => special_one 9 41 lLog lLog_cl (by decide) x y w h h hT hM (fun W => rowsOf_calls 9 _ W (by omega) rfl)
  | 10, _ => special_one 10 42 lLog1p lLog1p_cl (by decide) x y w h h hT hM (fun W => rowsOf_calls 10 _ W (by omega) rfl)
  | 11, _ => special_one 11 42 lLog1p lLog1p_cl (by decide) x y w h h hT hM (fun W => rowsOf_calls 11 _ W (by omega) rfl)
  | 12, _ => special_one 12 42 lLog1p lLog1p_cl (by decide) x y w h h hT hM (fun W => rowsOf_calls 12 _ W (by omega) rfl)
  | 13, _ => special_one 13 43 lSin lSin_cl (by decide) x y w h h hT hM (fun W => rowsOf_calls 13 _ W (by omega) rfl)
  | 14, _ => special_one 14 44 lCos lCos_cl (by decide) x y w h h hT hM (fun W => rowsOf_calls 14 _ W (by omega) rfl)
  | 15, _ => special_one 15 43 lSin lSin_cl (by decide) x y w h h hT hM (fun W => rowsOf_calls 15 _ W (by omega) rfl)
  | 16, _ => special_one 16 45 lSinpi lSinpi_cl (by decide) x y w h h hT hM (fun W => rowsOf_calls 16 _ W (by omega) rfl)
  | 17, _ => special_one 17 46 lCospi lCospi_cl (by decide) x y w h h hT hM (fun W => rowsOf_calls 17 _ W (by omega) rfl)
  | 18, _ => special_one 18 47 lTanpi lTanpi_cl (by decide) x y w h h hT hM (fun W => rowsOf_calls 18 _ W (by omega) rfl)
  | 19, _ => special_one 19 48 lAsin lAsin_cl (by decide) x y w h h hT hM (fun W => rowsOf_calls 19 _ W (by omega) rfl)
  | 20, _ => special_one 20 49 lAcos lAcos_cl (by decide) x y w h h hT hM (fun W => rowsOf_calls 20 _ W (by omega) rfl)
  | 21, _ => special_one 21 50 lAtan lAtan_cl (by decide) x y w h h hT hM (fun W => rowsOf_calls 21 _ W (by omega) rfl)
  | 22, _ => special_one 22 48 lAsin lAsin_cl (by decide) x y w h h hT hM (fun W => rowsOf_calls 22 _ W (by omega) rfl)
  | 23, _ => special_one 23 49 lAcos lAcos_cl (by decide) x y w h h hT hM (fun W => rowsOf_calls 23 _ W (by omega) rfl)
  | 24, _ => special_one 24 51 lAtanpi lAtanpi_cl (by decide) x y w h h hT hM (fun W => rowsOf_calls 24 _ W (by omega) rfl)
  | 25, _ => special_one 25 52 lThem lThem_cl (by decide) x y w h h hT hM (fun W => rowsOf_calls 25 _ W (by omega) rfl)
  | 26, _ => special_one 26 53 lCosh lCosh_cl (by decide) x y w h h hT hM (fun W => rowsOf_calls 26 _ W (by omega) rfl)
  | 27, _ => special_one 27 54 lTanh lTanh_cl (by decide) x y w h h hT hM (fun W => rowsOf_calls 27 _ W (by omega) rfl)
  | 28, _ => special_one 28 52 lThem lThem_cl (by decide) x y w h h hT hM (fun W => rowsOf_calls 28 _ W (by omega) rfl)
  | 29, _ => special_one 29 55 lAcosh lAcosh_cl (by decide) x y w h h hT hM (fun W => rowsOf_calls 29 _ W (by omega) rfl)
  | 30, _ => special_one 30 56 lAtanh lAtanh_cl (by decide) x y w h h hT hM (fun W => rowsOf_calls 30 _ W (by omega) rfl)
  | 31, _ => special_one 31 52 lThem lThem_cl (by decide) x y w h h hT hM (fun W => rowsOf_calls 31 _ W (by omega) rfl)
  | 32, _ => special_one 32 57 lRsqrt lRsqrt_cl (by decide) x y w h h hT hM (fun W => rowsOf_calls 32 _ W (by omega) rfl)
  | 33, _ => special_two 33 58 59 [] lRad lNil_cl lRad_cl (by decide) (by decide) x y w h k hT hM (fun W => rowsOf_calls 33 _ W (by omega) rfl)
  | 34, _ => special_two 34 58 60 [] lTurn lNil_cl lTurn_cl (by decide) (by decide) x y w h k hT hM (fun W => rowsOf_calls 34 _ W (by omega) rfl)
  | 35, _ => special_two 35 61 62 lAny lPow lAny_cl lPow_cl (by decide) (by decide) x y w h k hT hM (fun W => rowsOf_calls 35 _ W (by omega) rfl)
  | 36, _ => special_two 36 63 64 lFar lDist lFar_cl lDist_cl (by decide) (by decide) x y w h k hT hM (fun W => rowsOf_calls 36 _ W (by omega) rfl)
  | n + 37, hn => absurd hn (by omega)
theorem special_calls (f x y : Int) (w : World) (hf : 0 ≤ f) (h : U x) (k : U y) (hT : Tab w) (hM : Meas w) : Calls Tryz.prog 4 #[.int .u8 f, .int .u64 x, .int .u64 y] w fun r w' => r = .returned (SR (spV f x y) (spE f)) ∧ Below w.heap.size w w' := by
  by_cases h37 : 37 ≤ f
  · have e1 : spV f x y = (0, 0, 0) := by unfold spV; rw [notF f h37]; rfl
    have e2 : spE f = 2 := by unfold spE; rw [notF f h37]; rfl
    rw [e1, e2]
    exact special_nil f x y w (fun W => rowsOf_not f W h37)
  · obtain ⟨n, rfl⟩ := Int.eq_ofNat_of_zero_le hf
    exact special_nat x y w h k hT hM n (by omega)

theorem inside_nat (x y : Int) (w : World) (h : U x) (k : U y) (hT : Tab w) (hM : Meas w) : ∀ n : Nat, n < 37 → Calls Tryz.prog 6 #[.int .u8 ((n : Nat) : Int), .int .u64 x, .int .u64 y] w fun r w' => r = .returned (.bool (spIn ((n : Nat) : Int) x y)) ∧ Below w.heap.size w w'
  | 0, _ => inside_nil 0 x y w (fun W => rowsOf_calls 0 _ W (by omega) rfl)
  | 1, _ => inside_one 1 39 lExp lExp_cl (by decide) x y w h h hT hM (fun W => rowsOf_calls 1 _ W (by omega) rfl)
  | 2, _ => inside_one 2 39 lExp lExp_cl (by decide) x y w h h hT hM (fun W => rowsOf_calls 2 _ W (by omega) rfl)
  | 3, _ => inside_one 3 39 lExp lExp_cl (by decide) x y w h h hT hM (fun W => rowsOf_calls 3 _ W (by omega) rfl)
  | 4, _ => inside_one 4 40 lExpm1 lExpm1_cl (by decide) x y w h h hT hM (fun W => rowsOf_calls 4 _ W (by omega) rfl)
  | 5, _ => inside_one 5 40 lExpm1 lExpm1_cl (by decide) x y w h h hT hM (fun W => rowsOf_calls 5 _ W (by omega) rfl)
  | 6, _ => inside_one 6 40 lExpm1 lExpm1_cl (by decide) x y w h h hT hM (fun W => rowsOf_calls 6 _ W (by omega) rfl)
  | 7, _ => inside_one 7 41 lLog lLog_cl (by decide) x y w h h hT hM (fun W => rowsOf_calls 7 _ W (by omega) rfl)
  | 8, _ => inside_one 8 41 lLog lLog_cl (by decide) x y w h h hT hM (fun W => rowsOf_calls 8 _ W (by omega) rfl)
  | 9, _ => inside_one 9 41 lLog lLog_cl (by decide) x y w h h hT hM (fun W => rowsOf_calls 9 _ W (by omega) rfl)
  | 10, _ => inside_one 10 42 lLog1p lLog1p_cl (by decide) x y w h h hT hM (fun W => rowsOf_calls 10 _ W (by omega) rfl)
  | 11, _ => inside_one 11 42 lLog1p lLog1p_cl (by decide) x y w h h hT hM (fun W => rowsOf_calls 11 _ W (by omega) rfl)
  | 12, _ => inside_one 12 42 lLog1p lLog1p_cl (by decide) x y w h h hT hM (fun W => rowsOf_calls 12 _ W (by omega) rfl)
  | 13, _ => inside_one 13 43 lSin lSin_cl (by decide) x y w h h hT hM (fun W => rowsOf_calls 13 _ W (by omega) rfl)
  | 14, _ => inside_one 14 44 lCos lCos_cl (by decide) x y w h h hT hM (fun W => rowsOf_calls 14 _ W (by omega) rfl)
  | 15, _ => inside_one 15 43 lSin lSin_cl (by decide) x y w h h hT hM (fun W => rowsOf_calls 15 _ W (by omega) rfl)
  | 16, _ => inside_one 16 45 lSinpi lSinpi_cl (by decide) x y w h h hT hM (fun W => rowsOf_calls 16 _ W (by omega) rfl)
  | 17, _ => inside_one 17 46 lCospi lCospi_cl (by decide) x y w h h hT hM (fun W => rowsOf_calls 17 _ W (by omega) rfl)
  | 18, _ => inside_one 18 47 lTanpi lTanpi_cl (by decide) x y w h h hT hM (fun W => rowsOf_calls 18 _ W (by omega) rfl)
  | 19, _ => inside_one 19 48 lAsin lAsin_cl (by decide) x y w h h hT hM (fun W => rowsOf_calls 19 _ W (by omega) rfl)
  | 20, _ => inside_one 20 49 lAcos lAcos_cl (by decide) x y w h h hT hM (fun W => rowsOf_calls 20 _ W (by omega) rfl)
  | 21, _ => inside_one 21 50 lAtan lAtan_cl (by decide) x y w h h hT hM (fun W => rowsOf_calls 21 _ W (by omega) rfl)
  | 22, _ => inside_one 22 48 lAsin lAsin_cl (by decide) x y w h h hT hM (fun W => rowsOf_calls 22 _ W (by omega) rfl)
  | 23, _ => inside_one 23 49 lAcos lAcos_cl (by decide) x y w h h hT hM (fun W => rowsOf_calls 23 _ W (by omega) rfl)
  | 24, _ => inside_one 24 51 lAtanpi lAtanpi_cl (by decide) x y w h h hT hM (fun W => rowsOf_calls 24 _ W (by omega) rfl)
  | 25, _ => inside_one 25 52 lThem lThem_cl (by decide) x y w h h hT hM (fun W => rowsOf_calls 25 _ W (by omega) rfl)
  | 26, _ => inside_one 26 53 lCosh lCosh_cl (by decide) x y w h h hT hM (fun W => rowsOf_calls 26 _ W (by omega) rfl)
  | 27, _ => inside_one 27 54 lTanh lTanh_cl (by decide) x y w h h hT hM (fun W => rowsOf_calls 27 _ W (by omega) rfl)
  | 28, _ => inside_one 28 52 lThem lThem_cl (by decide) x y w h h hT hM (fun W => rowsOf_calls 28 _ W (by omega) rfl)
  | 29, _ => inside_one 29 55 lAcosh lAcosh_cl (by decide) x y w h h hT hM (fun W => rowsOf_calls 29 _ W (by omega) rfl)
  | 30, _ => inside_one 30 56 lAtanh lAtanh_cl (by decide) x y w h h hT hM (fun W => rowsOf_calls 30 _ W (by omega) rfl)
  | 31, _ => inside_one 31 52 lThem lThem_cl (by decide) x y w h h hT hM (fun W => rowsOf_calls 31 _ W (by omega) rfl)
  | 32, _ => inside_one 32 57 lRsqrt lRsqrt_cl (by decide) x y w h h hT hM (fun W => rowsOf_calls 32 _ W (by omega) rfl)
  | 33, _ => inside_two 33 58 59 [] lRad lNil_cl lRad_cl (by decide) (by decide) x y w h k hT hM (fun W => rowsOf_calls 33 _ W (by omega) rfl)
  | 34, _ => inside_two 34 58 60 [] lTurn lNil_cl lTurn_cl (by decide) (by decide) x y w h k hT hM (fun W => rowsOf_calls 34 _ W (by omega) rfl)
  | 35, _ => inside_two 35 61 62 lAny lPow lAny_cl lPow_cl (by decide) (by decide) x y w h k hT hM (fun W => rowsOf_calls 35 _ W (by omega) rfl)
  | 36, _ => inside_two 36 63 64 lFar lDist lFar_cl lDist_cl (by decide) (by decide) x y w h k hT hM (fun W => rowsOf_calls 36 _ W (by omega) rfl)
  | n + 37, hn => absurd hn (by omega)
theorem inside_calls (f x y : Int) (w : World) (hf : 0 ≤ f) (h : U x) (k : U y) (hT : Tab w) (hM : Meas w) : Calls Tryz.prog 6 #[.int .u8 f, .int .u64 x, .int .u64 y] w fun r w' => r = .returned (.bool (spIn f x y)) ∧ Below w.heap.size w w' := by
  by_cases h37 : 37 ≤ f
  · have e1 : spIn f x y = false := by unfold spIn; rw [notF f h37]; rfl
    rw [e1]
    exact inside_nil f x y w (fun W => rowsOf_not f W h37)
  · obtain ⟨n, rfl⟩ := Int.eq_ofNat_of_zero_le hf
    exact inside_nat x y w h k hT hM n (by omega)