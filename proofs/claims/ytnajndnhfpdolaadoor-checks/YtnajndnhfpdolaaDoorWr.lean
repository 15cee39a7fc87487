import Derived.Test.YtnajndnhfpdolaaDoorWs
namespace Go.Proofs.YtnajndnhfpdolaaDoor
open Go.RowKit

theorem ret_none : Ending.returned (.tuple #[]) = Ending.returned (.tuple #[]) := rfl

set_option maxRecDepth 100000 in
set_option maxHeartbeats 400000 in
theorem cl50 (f0 f1 f2 f3 c r : Int) (B : Nat) (bits s0 : Int) (w : World)
    (hb : w.heap[B]? = some (.cells #[.int .i64 bits] 3 (0, 0))) (hs : w.heap[B + 1]? = some (.cells #[.int .i64 s0] 3 (0, 0)))
    (hc : 0 ≤ c ∧ c ≤ 5000) (hr : 0 ≤ r ∧ r ≤ 5000) (hbits : 0 ≤ bits ∧ bits ≤ 64) (hs0 : 0 ≤ s0 ∧ s0 ≤ 2000000000) :
    Calls Tryd.prog 23 #[.agg #[.int .i64 f0, .int .i64 f1, .int .i64 f2, .int .i64 f3, .int .i64 c, .int .i64 r], .pointer (some ⟨B, 0, none⟩), .pointer (some ⟨B + 1, 0, none⟩)] w
      fun e w' => e = .returned (.tuple #[]) ∧ w'.heap[B + 1]? = some (.cells #[.int .i64 (s0 + Pm.ad c r bits)] 3 (0, 0)) ∧ Kp (· = B + 1) w w' := by
  have h1 := Pm.cb_range c bits hc hbits
  have h2 := Pm.ad_range c r bits hc hr hbits
  have e : Pm.ad c r bits = r * (1 + (c * bits + 7) / 8) := rfl
  have cb := cell_of_one hb
  have cs := cell_of_one hs
  have fs := free_of_one hs
  have lb := lt_of_block hb
  have ls := lt_of_block hs
  rw [e] at h2 ⊢
  clear e
  go_enter Tryd.func23, Tryd.ntmps23
  go_wp2
  go_end0
  refine ⟨rfl, ?_, ?_⟩
  · exact blk_old (one_setCell hs) _
  · exact ((Kp.refl (· = B + 1) w).setCell (p := ⟨B + 1, 0, none⟩) (.inl rfl) _).alloc _

/-- The flat cells of the table of seven passes. -/
def tab42 : Array Value := #[.int .i64 0, .int .i64 0, .int .i64 8, .int .i64 8, .int .i64 0, .int .i64 0, .int .i64 4, .int .i64 0, .int .i64 8, .int .i64 8, .int .i64 0, .int .i64 0,
  .int .i64 0, .int .i64 4, .int .i64 4, .int .i64 8, .int .i64 0, .int .i64 0, .int .i64 2, .int .i64 0, .int .i64 4, .int .i64 4, .int .i64 0, .int .i64 0,
  .int .i64 0, .int .i64 2, .int .i64 2, .int .i64 4, .int .i64 0, .int .i64 0, .int .i64 1, .int .i64 0, .int .i64 2, .int .i64 2, .int .i64 0, .int .i64 0,
  .int .i64 0, .int .i64 1, .int .i64 1, .int .i64 2, .int .i64 0, .int .i64 0]
abbrev row6 (a b c d : Int) : Value := .agg #[.int .i64 a, .int .i64 b, .int .i64 c, .int .i64 d, .int .i64 0, .int .i64 0]
theorem tab_at0 (w : World) : (Instr.index 44 (.agg tab42) (.int .i64 0)).run Tryd.prog w = .ok (row6 0 0 8 8) w := by kernel_rfl
theorem tab_at1 (w : World) : (Instr.index 44 (.agg tab42) (.int .i64 1)).run Tryd.prog w = .ok (row6 4 0 8 8) w := by kernel_rfl
theorem tab_at2 (w : World) : (Instr.index 44 (.agg tab42) (.int .i64 2)).run Tryd.prog w = .ok (row6 0 4 4 8) w := by kernel_rfl
theorem tab_at3 (w : World) : (Instr.index 44 (.agg tab42) (.int .i64 3)).run Tryd.prog w = .ok (row6 2 0 4 4) w := by kernel_rfl
theorem tab_at4 (w : World) : (Instr.index 44 (.agg tab42) (.int .i64 4)).run Tryd.prog w = .ok (row6 0 2 2 4) w := by kernel_rfl
theorem tab_at5 (w : World) : (Instr.index 44 (.agg tab42) (.int .i64 5)).run Tryd.prog w = .ok (row6 1 0 2 2) w := by kernel_rfl
theorem tab_at6 (w : World) : (Instr.index 44 (.agg tab42) (.int .i64 6)).run Tryd.prog w = .ok (row6 0 1 1 2) w := by kernel_rfl

set_option maxRecDepth 100000 in
set_option maxHeartbeats 400000 in
theorem each_flat (wd ht kd dp : Int) (pv sv : Value) (B : Nat) (bits : Int) (w : World)
    (hb : w.heap[B]? = some (.cells #[.int .i64 bits] 3 (0, 0))) (hs : w.heap[B + 1]? = some (.cells #[.int .i64 0] 3 (0, 0)))
    (hwd : 1 ≤ wd ∧ wd ≤ 5000) (hht : 1 ≤ ht ∧ ht ≤ 5000) (hbits : 0 ≤ bits ∧ bits ≤ 64) :
    Calls Tryd.prog 22 #[img wd ht kd dp false pv sv, .func (.func 23) #[] #[.pointer (some ⟨B, 0, none⟩), .pointer (some ⟨B + 1, 0, none⟩)]] w
      fun e w' => e = .returned (.tuple #[]) ∧ w'.heap[B + 1]? = some (.cells #[.int .i64 (Pm.ad wd ht bits)] 3 (0, 0)) ∧ Kp (· = B + 1) w w' := by
  go_enter Tryd.func22, Tryd.ntmps22
  go_wp2_with (go_at_call 23; refine (cl50 0 0 1 1 wd ht B bits 0 _ (blk_old hb _) (blk_old hs _) (by omega) (by omega) hbits (by omega)).mono ?_; rintro e w1 ⟨rfl, h1, h2⟩)
  exact bodyPost_ret (results_none rfl _ _ _) rfl ⟨rfl, by simpa using h1, ((Kp.refl _ _).alloc _).trans h2⟩

end Go.Proofs.YtnajndnhfpdolaaDoor
