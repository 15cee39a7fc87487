import Derived.Test.YtnajndnhfpdolaaDoorWe
import Derived.Deep.RegionHeld3
namespace Go.Proofs.YtnajndnhfpdolaaDoor
open Go.RowKit

theorem blk_2 (w : World) (o1 o2 o3 : Obj) : (((w.alloc o1).alloc o2).alloc o3).drew.heap[w.heap.size + 1]? = some o2 := by
  have := blk_new (w.alloc o1) o2
  rw [World.size_alloc] at this
  exact blk_old this o3
theorem blk_0 {w : World} {k : Nat} {o : Obj} (h : w.heap[k]? = some o) (o1 o2 o3 : Obj) : (((w.alloc o1).alloc o2).alloc o3).drew.heap[k]? = some o :=
  blk_old (blk_old (blk_old h o1) o2) o3
theorem blk_3 (w : World) (o1 o2 o3 : Obj) : (((w.alloc o1).alloc o2).alloc o3).drew.heap[w.heap.size + 1 + 1]? = some o3 := by
  have := blk_new ((w.alloc o1).alloc o2) o3
  rw [World.size_alloc, World.size_alloc] at this
  exact this
theorem below_3 {w w1 : World} {o1 o2 o3 : Obj} (h : Kp (· = w.heap.size + 1 + 1) (((w.alloc o1).alloc o2).alloc o3).drew w1) : Below w.heap.size w w1 :=
  (((((Below.refl _ w).alloc (Nat.le_refl _) o1).alloc (by simp) o2).alloc (by simp; omega) o3).drew).trans (h.below (by show _ ≤ (((w.alloc o1).alloc o2).alloc o3).heap.size; simp; omega) (fun k _ e => by omega))

set_option maxRecDepth 100000 in
set_option maxHeartbeats 1000000 in
theorem raw30 (wd ht kd dp : Int) (ps : Bool) (pv sv : Value) (w : World) (tt : TypeId) (fr : Nat × Nat)
    (hT : Hid (w.heap[0]? = some (.cells tab42 tt fr)))
    (hwd : 1 ≤ wd ∧ wd ≤ 5000) (hht : 1 ≤ ht ∧ ht ≤ 5000) (hch : Pm.chan kd dp ≠ 0) :
    Calls Tryd.prog 17 #[img wd ht kd dp ps pv sv] w
      fun e w' => e = .returned (.int .i64 (Pm.raw wd ht (Pm.chan kd dp * dp) ps)) ∧ Below w.heap.size w w' := by
  have hb := Pm.pb_range kd dp hch
  have h1 := Pm.chan_range kd dp
  have h2 := Pm.chan_depth kd dp hch
  have hwr : IntKind.i64.wrap (Pm.chan kd dp * dp) = Pm.chan kd dp * dp := IntWalk.i64_in _ (by omega)
  cases ps
  · go_enter Tryd.func17, Tryd.ntmps17
    go_wp2_with fail
    go_region_held3 (fun w' => w'.cell? ⟨w.heap.size, 2, none⟩ = some (.int .i64 kd) ∧ w'.cell? ⟨w.heap.size, 3, none⟩ = some (.int .i64 dp)) (go_keep) ((go_at_call 15; refine (chan28 _ _ _).mono ?_; rintro e w' ⟨rfl, rfl⟩))
    all_goals go_wp2_with fail
    all_goals refine (each_flat wd ht kd dp pv sv (w.heap.size + 1) (Pm.chan kd dp * dp) _ (blk_2 _ _ _ _) (blk_3 _ _ _ _) hwd hht hb).mono ?_
    all_goals rintro e w1 ⟨rfl, q1, q2⟩
    all_goals have q3 := cell_of_one q1
    all_goals have q4 := below_3 q2
    all_goals clear q1 q2
    all_goals go_wp2
    all_goals go_ret
    all_goals exact ⟨rfl, q4⟩
  · go_enter Tryd.func17, Tryd.ntmps17
    go_wp2_with fail
    go_region_held3 (fun w' => w'.cell? ⟨w.heap.size, 2, none⟩ = some (.int .i64 kd) ∧ w'.cell? ⟨w.heap.size, 3, none⟩ = some (.int .i64 dp)) (go_keep) ((go_at_call 15; refine (chan28 _ _ _).mono ?_; rintro e w' ⟨rfl, rfl⟩))
    all_goals go_wp2_with fail
    all_goals refine (each_seven wd ht kd dp pv sv (w.heap.size + 1) (Pm.chan kd dp * dp) _ tt fr (blk_0 hT.out _ _ _) (blk_2 _ _ _ _) (blk_3 _ _ _ _) hwd hht hb).mono ?_
    all_goals rintro e w1 ⟨rfl, q1, q2⟩
    all_goals have q3 := cell_of_one q1
    all_goals have q4 := below_3 q2
    all_goals clear q1 q2
    all_goals go_wp2
    all_goals go_ret
    all_goals exact ⟨rfl, q4⟩

end Go.Proofs.YtnajndnhfpdolaaDoor
