import Derived.Test.YtmfijackgekioaaDoorWa
namespace Go.Proofs.YtmfijackgekioaaDoor
open Go.RowKit

theorem b1 {a b : Int} (h : a = b) : (a == b) = true := by simp [h]
theorem b0 {a b : Int} (h : a ≠ b) : (a == b) = false := by simp [h]

set_option maxRecDepth 100000 in
set_option maxHeartbeats 1000000 in
theorem chan28 (k d : Int) (w : World) :
    Calls Tryd.prog 15 #[.int .i64 k, .int .i64 d] w fun e w' => e = .returned (.int .i64 (Pm.chan k d)) ∧ w' = w := by
  go_enter Tryd.func15, Tryd.ntmps15
  go_wp2
  all_goals go_ret
  all_goals refine ⟨ret_int ?_, rfl⟩
  all_goals (unfold Pm.chan; simp_all)

set_option maxRecDepth 100000 in
set_option maxHeartbeats 1000000 in
theorem chan13 (k d : Int) (w : World) :
    Calls Tryd.prog 10 #[.int .i64 k, .int .i64 d] w fun e w' => e = .returned (.int .i64 (Pm.chan k d)) ∧ w' = w := by
  go_enter Tryd.func10, Tryd.ntmps10
  go_wp2
  all_goals go_ret
  all_goals refine ⟨ret_int ?_, rfl⟩
  all_goals (unfold Pm.chan; simp_all)

end Go.Proofs.YtmfijackgekioaaDoor
