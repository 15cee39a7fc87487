import Derived.Test.YtmfijackgekioaaDoorRows
import Derived.Test.YtmfijackgekioaaDoorPm
import Derived.WalkKit
import Derived.WalkSpells
import Derived.WalkLawsBesides
import Derived.BigQuiet
import Derived.Deep.QuietTactic
namespace Go.Proofs.YtmfijackgekioaaDoor
open Go.RowKit

theorem ret_int {k : IntKind} {a b : Int} (h : a = b) : Ending.returned (.int k a) = .returned (.int k b) := by rw [h]
theorem ret_bool {a b : Bool} (h : a = b) : Ending.returned (.bool a) = .returned (.bool b) := by rw [h]

set_option maxRecDepth 100000 in
set_option maxHeartbeats 400000 in
theorem pass52 (c r : Int) (w : World) (hc : 0 ≤ c ∧ c ≤ 5000) (hr : 0 ≤ r ∧ r ≤ 5000) :
    Calls Tryd.prog 27 #[.int .i64 c, .int .i64 r] w fun e w' => e = .returned (.int .i64 (Pm.pass c r)) ∧ w' = w := by
  go_enter Tryd.func27, Tryd.ntmps27
  go_wp2
  all_goals go_ret
  all_goals refine ⟨ret_int ?_, rfl⟩
  all_goals (unfold Pm.pass; simp_all)

set_option maxRecDepth 100000 in
set_option maxHeartbeats 400000 in
theorem side29 (n : Int) (w : World) :
    Calls Tryd.prog 16 #[.int .i64 n] w fun e w' => e = .returned (.bool (Pm.sideB n)) ∧ w' = w := by
  go_enter Tryd.func16, Tryd.ntmps16
  go_wp2
  all_goals go_ret
  all_goals refine ⟨ret_bool ?_, rfl⟩
  all_goals (unfold Pm.sideB; first | (simp_all; done) | (simp; omega))

set_option maxRecDepth 100000 in
set_option maxHeartbeats 400000 in
theorem side14 (n : Int) (w : World) :
    Calls Tryd.prog 11 #[.int .i64 n] w fun e w' => e = .returned (.bool (Pm.sideB n)) ∧ w' = w := by
  go_enter Tryd.func11, Tryd.ntmps11
  go_wp2
  all_goals go_ret
  all_goals refine ⟨ret_bool ?_, rfl⟩
  all_goals (unfold Pm.sideB; first | (simp_all; done) | (simp; omega))

set_option maxRecDepth 100000 in
set_option maxHeartbeats 400000 in
theorem steps71 (s t e : Int) (w : World) (hs : 0 ≤ s ∧ s ≤ 8) (ht : 1 ≤ t ∧ t ≤ 8) (he : 0 ≤ e ∧ e ≤ 5000) (h : 0 ≤ e - s + t - 1) :
    Calls Tryd.prog 28 #[.int .i64 s, .int .i64 t, .int .i64 e] w fun x w' => x = .returned (.int .i64 ((e - s + t - 1) / t)) ∧ w' = w := by
  go_enter Tryd.func28, Tryd.ntmps28
  go_wp2
  all_goals go_ret
  all_goals exact ⟨rfl, rfl⟩

end Go.Proofs.YtmfijackgekioaaDoor
