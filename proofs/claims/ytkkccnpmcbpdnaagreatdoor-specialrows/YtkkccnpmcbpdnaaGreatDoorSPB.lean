/- Package special: the table of rows. -/
import Derived.Test.YtkkccnpmcbpdnaaGreatDoorSPL0
import Derived.Laws.Tables
import Derived.Laws.Cells
namespace Go.Proofs.YtkkccnpmcbpdnaaGreatDoor
open Go.RowKit

/-- operations that come to values, one behind the other -/
def runPure (P : Program) (ops : Array Oper) : List Nat → Act → World → Option (Act × World)
  | [], a, w => some (a, w)
  | i :: rest, a, w =>
    match ops[i]? with
    | none => runPure P ops rest a w
    | some o =>
      if Region.wanted o (yielded ops a.tmps) then
        match (execOp a.eval o).run P w with
        | .ok (.value v) w' => runPure P ops rest (a.put o.dst v) w'
        | _ => none
      else runPure P ops rest (a.put o.dst undef) w
theorem runPure_wp {P : Program} {ops : Array Oper} {Q : Exit → Act → World → Prop} (l2 : List Nat) (a' : Act) (w' : World) (h : wpOps P ops Q l2 a' w') : ∀ (l1 : List Nat) (a : Act) (w : World), runPure P ops l1 a w = some (a', w') → wpOps P ops Q (l1 ++ l2) a w
  | [], a, w, e => by
    simp only [runPure, Option.some.injEq, Prod.mk.injEq] at e
    obtain ⟨rfl, rfl⟩ := e
    exact h
  | i :: l1, a, w, e => by
    unfold runPure at e
    rw [List.cons_append]
    unfold wpOps
    cases ho : ops[i]? with
    | none => simp only [ho] at e ⊢; exact runPure_wp l2 a' w' h l1 a w e
    | some o =>
      simp only [ho] at e ⊢
      by_cases hw : Region.wanted o (yielded ops a.tmps) = true
      · rw [if_pos hw] at e ⊢
        refine Or.inl ?_
        unfold Oper.wp
        cases hr : (execOp a.eval o).run P w with
        | halt x w1 => simp [hr] at e
        | ok n w1 =>
          cases n with
          | value v => simp only [hr] at e; exact runPure_wp l2 a' w' h l1 _ _ e
          | _ => simp [hr] at e
      · rw [if_neg hw] at e ⊢
        exact runPure_wp l2 a' w' h l1 _ _ e
theorem wp_region_pure {P : Program} {id : Nat} {ops : Array Oper} {Q : Exit → Act → World → Prop} {a : Act} {w : World} (l1 l2 : List Nat) (a' : Act) (w' : World) (hl : List.range ops.size = l1 ++ l2) (hr : runPure P ops l1 a w = some (a', w')) (h : wpOps P ops Q l2 a' w') : (Code.region id ops false).wp P Q a w :=
  wp_region (by rw [hl]; exact runPure_wp l2 a' w' h l1 a w hr)
theorem wpOps_store_row {P : Program} {ops : Array Oper} {Q : Exit → Act → World → Prop} {a : Act} {w : World} (i : Nat) (ty : TypeId) (x y : Operand) (g : Nat) (cells : Array Value) (t : TypeId) (old : Array Value) (ho : (ops[i]?).map (fun o => (o.op, o.dst)) = some (.store ty x y, none)) (hw : (ops[i]?).map (fun o => Region.wanted o (yielded ops a.tmps)) = some true)
    (hx : a.eval x = .pointer (some ⟨g, 0, none⟩)) (hy : a.eval y = .agg cells) (hg : w.heap[g]? = some (.cells old t (0, 0))) (hi : (P.info? ty).map (·.size) = some cells.size) (hold : old.size = cells.size) (h1 : cells.all (·.oneCell') = true)
    (h : Q .normal (a.put none undef) (w.setRow g cells)) : wpOps P ops Q [i] a w := by
  cases hq : ops[i]? with
  | none => simp [hq] at ho
  | some o =>
    simp only [hq, Option.map_some, Option.some.injEq, Prod.mk.injEq] at ho hw
    unfold wpOps
    simp only [hq]
    rw [if_pos hw]
    refine Or.inl (wp_store_row ty x y ho.1 g cells hx hy t old hg hi hold h1 ?_)
    rw [ho.2]
    exact h

theorem setRow_alloc (w : World) (Z V : Array Value) (T : TypeId) : (w.alloc (.cells Z T)).setRow w.heap.size V = w.alloc (.cells V T) := by
  unfold World.setRow World.alloc
  simp only [World.mk.injEq, and_true]
  apply Array.ext
  · simp
  · intro i h1 h2
    simp only [Array.size_modify, Array.size_push] at h1
    rw [Array.getElem_modify]
    by_cases hi : w.heap.size = i
    · subst hi; simp
    · rw [if_neg hi, Array.getElem_push_lt (by omega), Array.getElem_push_lt (by omega)]
abbrev r1 (F : Nat) : Value := .iface 73 (.agg #[.func (.func F) #[] #[]])
abbrev r2 (F G : Nat) : Value := .iface 75 (.agg #[.func (.func F) #[] #[], .func (.func G) #[] #[]])
def tabV : Array Value := #[.nilIface, r1 39, r1 39, r1 39, r1 40, r1 40, r1 40, r1 41, r1 41, r1 41, r1 42, r1 42, r1 42, r1 43, r1 44, r1 43, r1 45, r1 46, r1 47, r1 48, r1 49, r1 50, r1 48, r1 49, r1 51, r1 52, r1 53, r1 54, r1 52, r1 55, r1 56, r1 52, r1 57, r2 58 59, r2 58 60, r2 61 62, r2 63 64]
def tabZ : Array Value := #[.nilIface, .nilIface, .nilIface, .nilIface, .nilIface, .nilIface, .nilIface, .nilIface, .nilIface, .nilIface, .nilIface, .nilIface, .nilIface, .nilIface, .nilIface, .nilIface, .nilIface, .nilIface, .nilIface, .nilIface, .nilIface, .nilIface, .nilIface, .nilIface, .nilIface, .nilIface, .nilIface, .nilIface, .nilIface, .nilIface, .nilIface, .nilIface, .nilIface, .nilIface, .nilIface, .nilIface, .nilIface]
def tabA (w : World) : Act := { tmps := #[.pointer (some ⟨w.heap.size, 0, none⟩), .agg #[.func (.func 39) #[] #[]], r1 39, .agg #[.func (.func 39) #[] #[]], r1 39, .agg #[.func (.func 39) #[] #[]], r1 39, .agg #[.func (.func 40) #[] #[]], r1 40, .agg #[.func (.func 40) #[] #[]], r1 40, .agg #[.func (.func 40) #[] #[]], r1 40, .agg #[.func (.func 41) #[] #[]], r1 41, .agg #[.func (.func 41) #[] #[]], r1 41, .agg #[.func (.func 41) #[] #[]], r1 41, .agg #[.func (.func 42) #[] #[]], r1 42, .agg #[.func (.func 42) #[] #[]], r1 42, .agg #[.func (.func 42) #[] #[]], r1 42, .agg #[.func (.func 43) #[] #[]], r1 43, .agg #[.func (.func 44) #[] #[]], r1 44, .agg #[.func (.func 43) #[] #[]], r1 43, .agg #[.func (.func 45) #[] #[]], r1 45, .agg #[.func (.func 46) #[] #[]], r1 46, .agg #[.func (.func 47) #[] #[]], r1 47, .agg #[.func (.func 48) #[] #[]], r1 48, .agg #[.func (.func 49) #[] #[]], r1 49, .agg #[.func (.func 50) #[] #[]], r1 50, .agg #[.func (.func 48) #[] #[]], r1 48, .agg #[.func (.func 49) #[] #[]], r1 49, .agg #[.func (.func 51) #[] #[]], r1 51, .agg #[.func (.func 52) #[] #[]], r1 52, .agg #[.func (.func 53) #[] #[]], r1 53, .agg #[.func (.func 54) #[] #[]], r1 54, .agg #[.func (.func 52) #[] #[]], r1 52, .agg #[.func (.func 55) #[] #[]], r1 55, .agg #[.func (.func 56) #[] #[]], r1 56, .agg #[.func (.func 52) #[] #[]], r1 52, .agg #[.func (.func 57) #[] #[]], r1 57, .agg #[.func (.func 58) #[] #[], .func (.func 59) #[] #[]], r2 58 59, .agg #[.func (.func 58) #[] #[], .func (.func 60) #[] #[]], r2 58 60, .agg #[.func (.func 61) #[] #[], .func (.func 62) #[] #[]], r2 61 62, .agg #[.func (.func 63) #[] #[], .func (.func 64) #[] #[]], r2 63 64, .agg tabV], defers := [] }
def tabB (w : World) : Act := { tmps := #[.pointer (some ⟨w.heap.size, 0, none⟩), undef, undef, undef, undef, undef, undef, undef, undef, undef, undef, undef, undef, undef, undef, undef, undef, undef, undef, undef, undef, undef, undef, undef, undef, undef, undef, undef, undef, undef, undef, undef, undef, undef, undef, undef, undef, undef, undef, undef, undef, undef, undef, undef, undef, undef, undef, undef, undef, undef, undef, undef, undef, undef, undef, undef, undef, undef, undef, undef, undef, undef, undef, undef, undef, undef, undef, undef, undef, undef, undef, undef, undef, undef], defers := [] }
theorem tab_ix0 (w : World) : Sem.run Tryz.prog (Instr.index 51 (.agg tabV) (.int .u8 (0 : Nat))) w = .ok (tabV.getD 0 undef) w := by kernel_rfl
theorem tab_ix1 (w : World) : Sem.run Tryz.prog (Instr.index 51 (.agg tabV) (.int .u8 (1 : Nat))) w = .ok (tabV.getD 1 undef) w := by kernel_rfl
theorem tab_ix2 (w : World) : Sem.run Tryz.prog (Instr.index 51 (.agg tabV) (.int .u8 (2 : Nat))) w = .ok (tabV.getD 2 undef) w := by kernel_rfl
theorem tab_ix3 (w : World) : Sem.run Tryz.prog (Instr.index 51 (.agg tabV) (.int .u8 (3 : Nat))) w = .ok (tabV.getD 3 undef) w := by kernel_rfl
theorem tab_ix4 (w : World) : Sem.run Tryz.prog (Instr.index 51 (.agg tabV) (.int .u8 (4 : Nat))) w = .ok (tabV.getD 4 undef) w := by kernel_rfl
theorem tab_ix5 (w : World) : Sem.run Tryz.prog (Instr.index 51 (.agg tabV) (.int .u8 (5 : Nat))) w = .ok (tabV.getD 5 undef) w := by kernel_rfl
theorem tab_ix6 (w : World) : Sem.run Tryz.prog (Instr.index 51 (.agg tabV) (.int .u8 (6 : Nat))) w = .ok (tabV.getD 6 undef) w := by kernel_rfl
theorem tab_ix7 (w : World) : Sem.run Tryz.prog (Instr.index 51 (.agg tabV) (.int .u8 (7 : Nat))) w = .ok (tabV.getD 7 undef) w := by kernel_rfl
theorem tab_ix8 (w : World) : Sem.run Tryz.prog (Instr.index 51 (.agg tabV) (.int .u8 (8 : Nat))) w = .ok (tabV.getD 8 undef) w := by kernel_rfl
theorem tab_ix9 (w : World) : Sem.run Tryz.prog (Instr.index 51 (.agg tabV) (.int .u8 (9 : Nat))) w = .ok (tabV.getD 9 undef) w := by kernel_rfl
theorem tab_ix10 (w : World) : Sem.run Tryz.prog (Instr.index 51 (.agg tabV) (.int .u8 (10 : Nat))) w = .ok (tabV.getD 10 undef) w := by kernel_rfl
theorem tab_ix11 (w : World) : Sem.run Tryz.prog (Instr.index 51 (.agg tabV) (.int .u8 (11 : Nat))) w = .ok (tabV.getD 11 undef) w := by kernel_rfl
theorem tab_ix12 (w : World) : Sem.run Tryz.prog (Instr.index 51 (.agg tabV) (.int .u8 (12 : Nat))) w = .ok (tabV.getD 12 undef) w := by kernel_rfl
theorem tab_ix13 (w : World) : Sem.run Tryz.prog (Instr.index 51 (.agg tabV) (.int .u8 (13 : Nat))) w = .ok (tabV.getD 13 undef) w := by kernel_rfl
theorem tab_ix14 (w : World) : Sem.run Tryz.prog (Instr.index 51 (.agg tabV) (.int .u8 (14 : Nat))) w = .ok (tabV.getD 14 undef) w := by kernel_rfl
theorem tab_ix15 (w : World) : Sem.run Tryz.prog (Instr.index 51 (.agg tabV) (.int .u8 (15 : Nat))) w = .ok (tabV.getD 15 undef) w := by kernel_rfl
theorem tab_ix16 (w : World) : Sem.run Tryz.prog (Instr.index 51 (.agg tabV) (.int .u8 (16 : Nat))) w = .ok (tabV.getD 16 undef) w := by kernel_rfl
theorem tab_ix17 (w : World) : Sem.run Tryz.prog (Instr.index 51 (.agg tabV) (.int .u8 (17 : Nat))) w = .ok (tabV.getD 17 undef) w := by kernel_rfl
theorem tab_ix18 (w : World) : Sem.run Tryz.prog (Instr.index 51 (.agg tabV) (.int .u8 (18 : Nat))) w = .ok (tabV.getD 18 undef) w := by kernel_rfl
theorem tab_ix19 (w : World) : Sem.run Tryz.prog (Instr.index 51 (.agg tabV) (.int .u8 (19 : Nat))) w = .ok (tabV.getD 19 undef) w := by kernel_rfl
theorem tab_ix20 (w : World) : Sem.run Tryz.prog (Instr.index 51 (.agg tabV) (.int .u8 (20 : Nat))) w = .ok (tabV.getD 20 undef) w := by kernel_rfl
theorem tab_ix21 (w : World) : Sem.run Tryz.prog (Instr.index 51 (.agg tabV) (.int .u8 (21 : Nat))) w = .ok (tabV.getD 21 undef) w := by kernel_rfl
theorem tab_ix22 (w : World) : Sem.run Tryz.prog (Instr.index 51 (.agg tabV) (.int .u8 (22 : Nat))) w = .ok (tabV.getD 22 undef) w := by kernel_rfl
theorem tab_ix23 (w : World) : Sem.run Tryz.prog (Instr.index 51 (.agg tabV) (.int .u8 (23 : Nat))) w = .ok (tabV.getD 23 undef) w := by kernel_rfl
theorem tab_ix24 (w : World) : Sem.run Tryz.prog (Instr.index 51 (.agg tabV) (.int .u8 (24 : Nat))) w = .ok (tabV.getD 24 undef) w := by kernel_rfl
theorem tab_ix25 (w : World) : Sem.run Tryz.prog (Instr.index 51 (.agg tabV) (.int .u8 (25 : Nat))) w = .ok (tabV.getD 25 undef) w := by kernel_rfl
theorem tab_ix26 (w : World) : Sem.run Tryz.prog (Instr.index 51 (.agg tabV) (.int .u8 (26 : Nat))) w = .ok (tabV.getD 26 undef) w := by kernel_rfl
theorem tab_ix27 (w : World) : Sem.run Tryz.prog (Instr.index 51 (.agg tabV) (.int .u8 (27 : Nat))) w = .ok (tabV.getD 27 undef) w := by kernel_rfl
theorem tab_ix28 (w : World) : Sem.run Tryz.prog (Instr.index 51 (.agg tabV) (.int .u8 (28 : Nat))) w = .ok (tabV.getD 28 undef) w := by kernel_rfl
theorem tab_ix29 (w : World) : Sem.run Tryz.prog (Instr.index 51 (.agg tabV) (.int .u8 (29 : Nat))) w = .ok (tabV.getD 29 undef) w := by kernel_rfl
theorem tab_ix30 (w : World) : Sem.run Tryz.prog (Instr.index 51 (.agg tabV) (.int .u8 (30 : Nat))) w = .ok (tabV.getD 30 undef) w := by kernel_rfl
theorem tab_ix31 (w : World) : Sem.run Tryz.prog (Instr.index 51 (.agg tabV) (.int .u8 (31 : Nat))) w = .ok (tabV.getD 31 undef) w := by kernel_rfl
theorem tab_ix32 (w : World) : Sem.run Tryz.prog (Instr.index 51 (.agg tabV) (.int .u8 (32 : Nat))) w = .ok (tabV.getD 32 undef) w := by kernel_rfl
theorem tab_ix33 (w : World) : Sem.run Tryz.prog (Instr.index 51 (.agg tabV) (.int .u8 (33 : Nat))) w = .ok (tabV.getD 33 undef) w := by kernel_rfl
theorem tab_ix34 (w : World) : Sem.run Tryz.prog (Instr.index 51 (.agg tabV) (.int .u8 (34 : Nat))) w = .ok (tabV.getD 34 undef) w := by kernel_rfl
theorem tab_ix35 (w : World) : Sem.run Tryz.prog (Instr.index 51 (.agg tabV) (.int .u8 (35 : Nat))) w = .ok (tabV.getD 35 undef) w := by kernel_rfl
theorem tab_ix36 (w : World) : Sem.run Tryz.prog (Instr.index 51 (.agg tabV) (.int .u8 (36 : Nat))) w = .ok (tabV.getD 36 undef) w := by kernel_rfl
theorem tab_index (w : World) : ∀ f : Nat, f < 37 → Sem.run Tryz.prog (Instr.index 51 (.agg tabV) (.int .u8 (f : Int))) w = .ok (tabV.getD f undef) w
  | 0, _ => tab_ix0 w
  | 1, _ => tab_ix1 w
  | 2, _ => tab_ix2 w
  | 3, _ => tab_ix3 w
  | 4, _ => tab_ix4 w
  | 5, _ => tab_ix5 w
  | 6, _ => tab_ix6 w
  | 7, _ => tab_ix7 w
  | 8, _ => tab_ix8 w
  | 9, _ => tab_ix9 w
  | 10, _ => tab_ix10 w
  | 11, _ => tab_ix11 w
  | 12, _ => tab_ix12 w
  | 13, _ => tab_ix13 w
  | 14, _ => tab_ix14 w
  | 15, _ => tab_ix15 w
  | 16, _ => tab_ix16 w
  | 17, _ => tab_ix17 w
  | 18, _ => tab_ix18 w
  | 19, _ => tab_ix19 w
  | 20, _ => tab_ix20 w
  | 21, _ => tab_ix21 w
  | 22, _ => tab_ix22 w
  | 23, _ => tab_ix23 w
  | 24, _ => tab_ix24 w
  | 25, _ => tab_ix25 w
  | 26, _ => tab_ix26 w
  | 27, _ => tab_ix27 w
  | 28, _ => tab_ix28 w
  | 29, _ => tab_ix29 w
  | 30, _ => tab_ix30 w
  | 31, _ => tab_ix31 w
  | 32, _ => tab_ix32 w
  | 33, _ => tab_ix33 w
  | 34, _ => tab_ix34 w
  | 35, _ => tab_ix35 w
  | 36, _ => tab_ix36 w
  | n + 37, h => absurd h (by omega)

set_option maxRecDepth 100000 in
set_option maxHeartbeats 8000000 in
theorem table_calls (w : World) : Calls Tryz.prog 19 #[] w fun r w' => r = .returned (.agg tabV) ∧ Below w.heap.size w w' := by
  go_enter Tryz.func19, Tryz.ntmps19
  refine wp_seq (wp_region_pure [0] [] (tabB w) (w.alloc (.cells tabZ 51)) (by kernel_rfl) (by kernel_rfl) ?_)
  change Code.wp _ _ _ _ _
  refine wp_seq (wp_region_pure (List.range 73) [73] (tabA w) (w.alloc (.cells tabZ 51)) (by kernel_rfl) (by kernel_rfl) ?_)
  have hg : (w.alloc (.cells tabZ 51)).heap[w.heap.size]? = some (.cells tabZ 51 (0, 0)) := heap_alloc_new w _
  refine wpOps_store_row 73 51 (.tmp 0) (.tmp 73) w.heap.size tabV 51 tabZ (by kernel_rfl) (by kernel_rfl) (by kernel_rfl) (by kernel_rfl) hg (by kernel_rfl) (by kernel_rfl) (by kernel_rfl) ?_
  change Code.wp _ _ _ _ _
  refine wp_ret ?_
  rw [setRow_alloc]
  have hA : Sem.run Tryz.prog (isAgg 51) (w.alloc (.cells tabV 51)) = .ok true (w.alloc (.cells tabV 51)) := by kernel_rfl
  have hS : Sem.run Tryz.prog (sizeOf 51) (w.alloc (.cells tabV 51)) = .ok tabV.toList.length (w.alloc (.cells tabV 51)) := by kernel_rfl
  have hP : ((tabA w).put none undef).tmps.getD 0 undef = .pointer (some ⟨w.heap.size, 0, none⟩) := by kernel_rfl
  refine bodyPost_ret (v := .agg tabV) ?_ rfl ⟨rfl, below_alloc _ _⟩
  · have hc : (loadCells ⟨w.heap.size, 0, none⟩ tabV.toList.length).run Tryz.prog (w.alloc (.cells tabV 51)) = .ok tabV.toList.toArray _ := run_loadCells_list _ _ _ (fun j v hj => by
      rw [Addr.add_lit, Nat.zero_add, World.cell?_alloc_new, ← hj]
      simp)
    rw [Array.toArray_toList] at hc
    have hV : Sem.run Tryz.prog (loadVar 51 ⟨w.heap.size, 0, none⟩) (w.alloc (.cells tabV 51)) = .ok (.agg tabV) (w.alloc (.cells tabV 51)) := by
      simp only [loadVar, Sem.run_bind, hA, Result.andThen_ok, hS, hc, Sem.run_pure, if_true]
    have hQ : ∀ W : World, Sem.run Tryz.prog (asAddr (.pointer (some ⟨w.heap.size, 0, none⟩))) W = .ok ⟨w.heap.size, 0, none⟩ W := fun _ => rfl
    clear hA hS hc hg
    simp [results, Tryz.results19, hP, hV, hQ, -Array.getD_eq_getD_getElem?]

set_option maxRecDepth 100000 in
set_option maxHeartbeats 8000000 in
theorem rowsOf_not (f : Int) (w : World) (h : 37 ≤ f) : Calls Tryz.prog 9 #[.int .u8 f] w fun r w' => r = .returned .nilIface ∧ Below w.heap.size w w' := by
  go_enter Tryz.func9, Tryz.ntmps9
  go_wp2_with fail
  go_ret
  exact ⟨rfl, Below.refl _ _⟩

set_option maxRecDepth 100000 in
set_option maxHeartbeats 8000000 in
theorem rowsOf_calls (f : Nat) (v : Value) (w : World) (h : f < 37) (hv : tabV.getD f undef = v) : Calls Tryz.prog 9 #[.int .u8 (f : Int)] w fun r w' => r = .returned v ∧ Below w.heap.size w w' := by
  have hi : ∀ w, Sem.run Tryz.prog (Instr.index 51 (.agg tabV) (.int .u8 (f : Int))) w = .ok v w := fun w => by rw [← hv]; exact tab_index w f h
  have HT : Hid _ := fun w => table_calls w
  clear hv
  generalize tabV = X at *
  go_enter Tryz.func9, Tryz.ntmps9
  go_wp2_with fail
  refine (HT.out _).mono ?_
  rintro r w1 ⟨rfl, b1⟩
  go_wp2_with fail
  go_ret
  exact ⟨rfl, b1⟩
end Go.Proofs.YtkkccnpmcbpdnaaGreatDoor
