/- The document's numbers and the program's, so many times, are alike, rounded down: reckoned. -/
import Derived.Test.YtkkldnnndlpblaaGreatDoorCKA
namespace Go.Proofs.YtkkldnnndlpblaaGreatDoor
namespace Ck

def forceN (x : Nat) (f : Nat → Bool) : Bool := match x with | 0 => f 0 | y + 1 => f (y + 1)

theorem forceN_eq (x : Nat) (f : Nat → Bool) : forceN x f = f x := by cases x <;> rfl

/-- both numbers so many times are alike, rounded down: of powers of 2 and of 10 -/
def sameB (N D N' D' : Nat) : Bool := (List.range 1985).all (fun n => N * 2 ^ n / D == N' * 2 ^ n / D') && (List.range 501).all (fun n => N * 10 ^ n / D == N' * 10 ^ n / D')

def chkD (k : Nat) : Bool := forceN (dN k 8400) fun N => forceN (dD k 8400) fun D => forceN (ptN k 8400) fun N' => forceN (ptD k 8400) fun D' => sameB N D N' D'

def chkH (k : Nat) : Bool := forceN (eLo k 8192) fun N => forceN (2 ^ 8192) fun D => forceN (eHi k 8192) fun N' => sameB N D N' D

set_option maxRecDepth 100000 in
theorem chkD_all : chkD 1 = true ∧ chkD 2 = true ∧ chkD 3 = true ∧ chkD 4 = true ∧ chkD 5 = true ∧ chkD 6 = true ∧ chkD 7 = true := by decide +kernel

set_option maxRecDepth 100000 in
theorem chkH_all : chkH 1 = true ∧ chkH 2 = true ∧ chkH 3 = true ∧ chkH 4 = true ∧ chkH 5 = true ∧ chkH 6 = true ∧ chkH 7 = true := by decide +kernel

theorem sameB_get {N D N' D' : Nat} (h : sameB N D N' D' = true) : (∀ n, n ≤ 1984 → N * 2 ^ n / D = N' * 2 ^ n / D') ∧ (∀ n, n ≤ 500 → N * 10 ^ n / D = N' * 10 ^ n / D') := by
  unfold sameB at h
  rw [Bool.and_eq_true, List.all_eq_true, List.all_eq_true] at h
  exact ⟨fun n hn => by simpa using h.1 n (List.mem_range.2 (by omega)), fun n hn => by simpa using h.2 n (List.mem_range.2 (by omega))⟩

/-- the document's number so many times is the program's so many times -/
theorem doc_same (k : Nat) (h1 : 1 ≤ k) (h7 : k ≤ 7) : (∀ n, n ≤ 1984 → dN k 8400 * 2 ^ n / dD k 8400 = ptN k 8400 * 2 ^ n / ptD k 8400) ∧ (∀ n, n ≤ 500 → dN k 8400 * 10 ^ n / dD k 8400 = ptN k 8400 * 10 ^ n / ptD k 8400) := by
  have h : chkD k = true := by
    obtain ⟨a1, a2, a3, a4, a5, a6, a7⟩ := chkD_all
    rcases (by omega : k = 1 ∨ k = 2 ∨ k = 3 ∨ k = 4 ∨ k = 5 ∨ k = 6 ∨ k = 7) with rfl | rfl | rfl | rfl | rfl | rfl | rfl
    · exact a1
    · exact a2
    · exact a3
    · exact a4
    · exact a5
    · exact a6
    · exact a7
  unfold chkD at h
  rw [forceN_eq, forceN_eq, forceN_eq, forceN_eq] at h
  exact sameB_get h

/-- at the most bits both ends tell -/
theorem not_hard (k : Nat) (h1 : 1 ≤ k) (h7 : k ≤ 7) : (∀ n, n ≤ 1984 → eLo k 8192 * 2 ^ n / 2 ^ 8192 = eHi k 8192 * 2 ^ n / 2 ^ 8192) ∧ (∀ n, n ≤ 500 → eLo k 8192 * 10 ^ n / 2 ^ 8192 = eHi k 8192 * 10 ^ n / 2 ^ 8192) := by
  have h : chkH k = true := by
    obtain ⟨a1, a2, a3, a4, a5, a6, a7⟩ := chkH_all
    rcases (by omega : k = 1 ∨ k = 2 ∨ k = 3 ∨ k = 4 ∨ k = 5 ∨ k = 6 ∨ k = 7) with rfl | rfl | rfl | rfl | rfl | rfl | rfl
    · exact a1
    · exact a2
    · exact a3
    · exact a4
    · exact a5
    · exact a6
    · exact a7
  unfold chkH at h
  rw [forceN_eq, forceN_eq, forceN_eq] at h
  exact sameB_get h

end Ck
end Go.Proofs.YtkkldnnndlpblaaGreatDoor
