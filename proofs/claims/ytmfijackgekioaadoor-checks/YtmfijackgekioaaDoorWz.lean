import Derived.Test.YtmfijackgekioaaDoorWe
import Derived.Deep.RegionHeld3
namespace Go.Proofs.YtmfijackgekioaaDoor
open Go.RowKit

set_option maxRecDepth 100000 in
set_option maxHeartbeats 1000000 in
theorem raw30 (wd ht kd dp : Int) (ps : Bool) (pv sv : Value) (w : World) (tt : TypeId) (fr : Nat × Nat)
    (hT : Hid (w.heap[0]? = some (.cells tab42 tt fr)))
    (hwd : 1 ≤ wd ∧ wd ≤ 5000) (hht : 1 ≤ ht ∧ ht ≤ 5000) (hch : Pm.chan kd dp ≠ 0) :
    Calls Tryd.prog 17 #[img wd ht kd dp ps pv sv] w
      fun e w' => e = .returned (.int .i64 (Pm.raw wd ht (Pm.chan kd dp * dp) ps)) ∧ Below w.heap.size w w' := by
  have m0 := blk_new w (.cells #[.int .i64 wd, .int .i64 ht, .int .i64 kd, .int .i64 dp, .bool ps, pv, sv] 24)
  have q0 := blk_old m0 (.cells #[.int .i64 0] 3)
  have q1 := blk_new (w.alloc (.cells #[.int .i64 wd, .int .i64 ht, .int .i64 kd, .int .i64 dp, .bool ps, pv, sv] 24)) (.cells #[.int .i64 0] 3)
  rw [World.size_alloc] at q1
  have k0 : Below w.heap.size w ((w.alloc (.cells #[.int .i64 wd, .int .i64 ht, .int .i64 kd, .int .i64 dp, .bool ps, pv, sv] 24)).alloc (.cells #[.int .i64 0] 3)) := ((Below.refl _ _).alloc (Nat.le_refl _) _).alloc (by simp) _
  have t0 : Hid (((w.alloc (.cells #[.int .i64 wd, .int .i64 ht, .int .i64 kd, .int .i64 dp, .bool ps, pv, sv] 24)).alloc (.cells #[.int .i64 0] 3)).heap[0]? = some (.cells tab42 tt fr)) := blk_old (blk_old hT.out _) _
  have HQ : Hid (((w.alloc (.cells #[.int .i64 wd, .int .i64 ht, .int .i64 kd, .int .i64 dp, .bool ps, pv, sv] 24)).alloc (.cells #[.int .i64 0] 3)).heap[w.heap.size]? = some (.cells #[.int .i64 wd, .int .i64 ht, .int .i64 kd, .int .i64 dp, .bool ps, pv, sv] 24 (0, 0)) ∧ ((w.alloc (.cells #[.int .i64 wd, .int .i64 ht, .int .i64 kd, .int .i64 dp, .bool ps, pv, sv] 24)).alloc (.cells #[.int .i64 0] 3)).heap[w.heap.size + 1]? = some (.cells #[.int .i64 0] 3 (0, 0))) := ⟨q0, q1⟩
  clear m0 q0 q1
  cases ps
  · go_enter Tryd.func17, Tryd.ntmps17
    go_wp2_with fail
    refine (each_flat wd ht kd dp pv sv w.heap.size (Pm.chan kd dp * dp) _ HQ.out.1 HQ.out.2 hwd hht hch rfl).mono ?_
    rintro e w1 ⟨rfl, q1, q2⟩
    have q3 := cell_of_one q1
    have q4 : Below w.heap.size w w1 := k0.trans (q2.below k0.size (fun k _ e => by omega))
    clear q1 q2
    go_wp2
    go_ret
    exact ⟨rfl, q4⟩
  · go_enter Tryd.func17, Tryd.ntmps17
    go_wp2_with fail
    refine (each_seven wd ht kd dp pv sv w.heap.size (Pm.chan kd dp * dp) _ tt fr t0.out HQ.out.1 HQ.out.2 hwd hht hch rfl).mono ?_
    rintro e w1 ⟨rfl, q1, q2⟩
    have q3 := cell_of_one q1
    have q4 : Below w.heap.size w w1 := k0.trans (q2.below k0.size (fun k _ e => by omega))
    clear q1 q2
    go_wp2
    go_ret
    exact ⟨rfl, q4⟩

end Go.Proofs.YtmfijackgekioaaDoor
