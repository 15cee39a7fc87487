import Derived.Test.YtmfijackgekioaaGreatDoorQWaWs5
import Derived.Test.YtmfijackgekioaaGreatDoorQUtFm2

namespace Go.Proofs.YtmfijackgekioaaGreatDoor
open Go.RowKit

theorem ret_none : Ending.returned (.tuple #[]) = Ending.returned (.tuple #[]) := rfl

theorem cells7 {w : World} {T : Nat} {a b c d e f g : Value} {t : TypeId} (h : w.heap[T]? = some (.cells #[a, b, c, d, e, f, g] t (0, 0))) :
    w.cell? ⟨T, 0, none⟩ = some a ∧ w.cell? ⟨T, 1, none⟩ = some b ∧ w.cell? ⟨T, 2, none⟩ = some c ∧ w.cell? ⟨T, 3, none⟩ = some d ∧ w.cell? ⟨T, 4, none⟩ = some e ∧ w.cell? ⟨T, 5, none⟩ = some f ∧ w.cell? ⟨T, 6, none⟩ = some g :=
  ⟨cell_of_row _ _ _ _ _ _ h, cell_of_row _ _ _ _ _ _ h, cell_of_row _ _ _ _ _ _ h, cell_of_row _ _ _ _ _ _ h, cell_of_row _ _ _ _ _ _ h, cell_of_row _ _ _ _ _ _ h, cell_of_row _ _ _ _ _ _ h⟩
theorem cells6W {w : World} {T : Nat} {a b c d e f : Value} {t : TypeId} (h : w.heap[T]? = some (.cells #[a, b, c, d, e, f] t (0, 0))) :
    w.cell? ⟨T, 0, none⟩ = some a ∧ w.cell? ⟨T, 1, none⟩ = some b ∧ w.cell? ⟨T, 2, none⟩ = some c ∧ w.cell? ⟨T, 3, none⟩ = some d ∧ w.cell? ⟨T, 4, none⟩ = some e ∧ w.cell? ⟨T, 5, none⟩ = some f :=
  ⟨cell_of_row _ _ _ _ _ _ h, cell_of_row _ _ _ _ _ _ h, cell_of_row _ _ _ _ _ _ h, cell_of_row _ _ _ _ _ _ h, cell_of_row _ _ _ _ _ _ h, cell_of_row _ _ _ _ _ _ h⟩

set_option maxRecDepth 100000 in
set_option maxHeartbeats 400000 in
theorem pbits29 (wd ht kd dp : Int) (ps : Bool) (pv sv : Value) (w : World) (hch : Pm.chan kd dp ≠ 0) :
    Calls Tryz.prog 136 #[img wd ht kd dp ps pv sv] w fun e w' => e = .returned (.int .i64 (Pm.chan kd dp * dp)) ∧ Below w.heap.size w w' := by
  have hb := Pm.pb_range kd dp hch
  have h1 := Pm.chan_range kd dp
  have h2 := Pm.chan_depth kd dp hch
  have hwr : IntKind.i64.wrap (Pm.chan kd dp * dp) = Pm.chan kd dp * dp := IntWalk.i64_in _ (by omega)
  go_enter Tryz.func136, Tryz.ntmps136
  go_wp2
  go_quiet ((go_at_call 54; exact Calls.quiet_of_same (chan28 _ _ _)))
  go_wp2
  go_ret
  exact ⟨ret_int (by first | rfl | simp only [hwr]), below_drewN ((Below.refl _ _).alloc (Nat.le_refl _) _) _⟩

set_option maxRecDepth 100000 in
set_option maxHeartbeats 400000 in
theorem rbytes24 (wd ht kd dp : Int) (ps : Bool) (pv sv : Value) (f0 f1 f2 f3 c r : Int) (w : World) (hc : 0 ≤ c ∧ c ≤ 5000) (hch : Pm.chan kd dp ≠ 0) :
    Calls Tryz.prog 94 #[img wd ht kd dp ps pv sv, .agg #[.int .i64 f0, .int .i64 f1, .int .i64 f2, .int .i64 f3, .int .i64 c, .int .i64 r]] w fun e w' => e = .returned (.int .i64 ((c * (Pm.chan kd dp * dp) + 7) / 8)) ∧ Below w.heap.size w w' := by
  have hb := Pm.pb_range kd dp hch
  have h1 := Pm.cb_range c (Pm.chan kd dp * dp) hc hb
  have hpb := fun u => pbits29 wd ht kd dp ps pv sv u hch
  have hwr : IntKind.i64.wrap (c * (Pm.chan kd dp * dp)) = c * (Pm.chan kd dp * dp) := IntWalk.i64_in _ (by omega)
  generalize Pm.chan kd dp * dp = bits at *
  generalize hcb : c * bits = cb at *
  have k0 : Below w.heap.size w ((w.alloc (.cells #[.int .i64 wd, .int .i64 ht, .int .i64 kd, .int .i64 dp, .bool ps, pv, sv] 30)).alloc (.cells #[.int .i64 f0, .int .i64 f1, .int .i64 f2, .int .i64 f3, .int .i64 c, .int .i64 r] 122)).drew := (((Below.refl _ _).alloc (Nat.le_refl _) _).alloc (by simp) _).drew
  have m0 : ((w.alloc (.cells #[.int .i64 wd, .int .i64 ht, .int .i64 kd, .int .i64 dp, .bool ps, pv, sv] 30)).alloc (.cells #[.int .i64 f0, .int .i64 f1, .int .i64 f2, .int .i64 f3, .int .i64 c, .int .i64 r] 122)).drew.heap[w.heap.size]? = some (.cells #[.int .i64 wd, .int .i64 ht, .int .i64 kd, .int .i64 dp, .bool ps, pv, sv] 30 (0, 0)) := blk_old (blk_new w _) _
  have m1 : ((w.alloc (.cells #[.int .i64 wd, .int .i64 ht, .int .i64 kd, .int .i64 dp, .bool ps, pv, sv] 30)).alloc (.cells #[.int .i64 f0, .int .i64 f1, .int .i64 f2, .int .i64 f3, .int .i64 c, .int .i64 r] 122)).drew.heap[w.heap.size + 1]? = some (.cells #[.int .i64 f0, .int .i64 f1, .int .i64 f2, .int .i64 f3, .int .i64 c, .int .i64 r] 122 (0, 0)) := by
    have := blk_new (w.alloc (.cells #[.int .i64 wd, .int .i64 ht, .int .i64 kd, .int .i64 dp, .bool ps, pv, sv] 30)) (.cells #[.int .i64 f0, .int .i64 f1, .int .i64 f2, .int .i64 f3, .int .i64 c, .int .i64 r] 122)
    rw [World.size_alloc] at this
    exact this
  go_enter Tryz.func94, Tryz.ntmps94
  go_wp2_with fail
  generalize hwd : World.drew _ = v0 at *
  have hS : v0.cell? ⟨w.heap.size, 0, none⟩ = some (.int .i64 wd) ∧ v0.cell? ⟨w.heap.size, 1, none⟩ = some (.int .i64 ht) ∧ v0.cell? ⟨w.heap.size, 2, none⟩ = some (.int .i64 kd) ∧ v0.cell? ⟨w.heap.size, 3, none⟩ = some (.int .i64 dp) ∧ v0.cell? ⟨w.heap.size, 4, none⟩ = some (.bool ps) ∧ v0.cell? ⟨w.heap.size, 5, none⟩ = some (pv) ∧ v0.cell? ⟨w.heap.size, 6, none⟩ = some (sv) ∧ v0.cell? ⟨w.heap.size + 1, 4, none⟩ = some (.int .i64 c) := by
    obtain ⟨a0, a1, a2, a3, a4, a5, a6⟩ := cells7 m0
    exact ⟨a0, a1, a2, a3, a4, a5, a6, (cells6W m1).2.2.2.2.1⟩
  refine regionZ (by kernel_rfl) (fun w' => w'.cell? ⟨w.heap.size, 0, none⟩ = some (.int .i64 wd) ∧ w'.cell? ⟨w.heap.size, 1, none⟩ = some (.int .i64 ht) ∧ w'.cell? ⟨w.heap.size, 2, none⟩ = some (.int .i64 kd) ∧ w'.cell? ⟨w.heap.size, 3, none⟩ = some (.int .i64 dp) ∧ w'.cell? ⟨w.heap.size, 4, none⟩ = some (.bool ps) ∧ w'.cell? ⟨w.heap.size, 5, none⟩ = some (pv) ∧ w'.cell? ⟨w.heap.size, 6, none⟩ = some (sv) ∧ w'.cell? ⟨w.heap.size + 1, 4, none⟩ = some (.int .i64 c)) 999 ?_
  rw [hwd]
  refine anyZ_take (i := 0) (v := ?_) rfl (by kernel_rfl) (by kernel_rfl) (by kernel_rfl) (by kernel_rfl) (fun _ _ _ h => h) (by kernel_rfl) ?_ hS ?_
  rotate_left
  · intro w hSw; (try dsimp only at hSw); go_simp; try with_reducible rfl
  try simp only [Act.put]
  refine anyZ_take (i := 1) (v := ?_) rfl (by kernel_rfl) (by kernel_rfl) (by kernel_rfl) (by kernel_rfl) (fun _ _ _ h => h) (by kernel_rfl) ?_ hS ?_
  rotate_left
  · intro w hSw; (try dsimp only at hSw); go_simp; try with_reducible rfl
  try simp only [Act.put]
  refine anyZ_take (i := 2) (v := ?_) rfl (by kernel_rfl) (by kernel_rfl) (by kernel_rfl) (by kernel_rfl) (fun _ _ _ h => h) (by kernel_rfl) ?_ hS ?_
  rotate_left
  · intro w hSw; (try dsimp only at hSw); go_simp; try with_reducible rfl
  try simp only [Act.put]
  refine anyZ_one (i := 3) (by kernel_rfl) rfl (fun K hK => ?_)
  go_simp
  refine (hpb _).mono ?_
  rintro e w1 ⟨rfl, hb1⟩
  have n0 := (hb1.block _ (lt_of_block m0)).trans m0
  have n1 := (hb1.block _ (lt_of_block m1)).trans m1
  have hS1 : w1.cell? ⟨w.heap.size, 0, none⟩ = some (.int .i64 wd) ∧ w1.cell? ⟨w.heap.size, 1, none⟩ = some (.int .i64 ht) ∧ w1.cell? ⟨w.heap.size, 2, none⟩ = some (.int .i64 kd) ∧ w1.cell? ⟨w.heap.size, 3, none⟩ = some (.int .i64 dp) ∧ w1.cell? ⟨w.heap.size, 4, none⟩ = some (.bool ps) ∧ w1.cell? ⟨w.heap.size, 5, none⟩ = some (pv) ∧ w1.cell? ⟨w.heap.size, 6, none⟩ = some (sv) ∧ w1.cell? ⟨w.heap.size + 1, 4, none⟩ = some (.int .i64 c) := by
    obtain ⟨a0, a1, a2, a3, a4, a5, a6⟩ := cells7 n0
    exact ⟨a0, a1, a2, a3, a4, a5, a6, (cells6W n1).2.2.2.2.1⟩
  refine hK _ _ (fun _ => hS1) ?_
  clear hK K
  have KB : Below w.heap.size w w1 := k0.trans (hb1.mono k0.size)
  clear n0 n1 hb1 m0 m1 k0 hS hpb
  refine anyZ_take (i := 4) (v := ?_) rfl (by kernel_rfl) (by kernel_rfl) (by kernel_rfl) (by kernel_rfl) (fun _ _ _ h => h) (by kernel_rfl) ?_ hS1 ?_
  rotate_left
  · intro w hSw; (try dsimp only at hSw); go_simp; try with_reducible rfl
  try simp only [Act.put]
  refine anyZ_take (i := 5) (v := ?_) rfl (by kernel_rfl) (by kernel_rfl) (by kernel_rfl) (by kernel_rfl) (fun _ _ _ h => h) (by kernel_rfl) ?_ hS1 ?_
  rotate_left
  · intro w hSw; (try dsimp only at hSw); go_simp; try with_reducible rfl
  try simp only [Act.put]
  refine anyZ_take (i := 6) (v := ?_) rfl (by kernel_rfl) (by kernel_rfl) (by kernel_rfl) (by kernel_rfl) (fun _ _ _ h => h) (by kernel_rfl) ?_ hS1 ?_
  rotate_left
  · intro w hSw; (try dsimp only at hSw); go_simp; try with_reducible rfl
  try simp only [Act.put]
  refine anyZ_one (i := 7) (by kernel_rfl) rfl (fun K hK => ?_)
  go_simp
  refine hK _ _ (fun _ => hS1) ?_
  clear hK K
  refine anyZ_done (by kernel_rfl) ?_ _
  go_wp2
  go_ret
  exact ⟨ret_int (by rw [IntWalk.i64_in (cb + 7) (by omega), Int.tdiv_eq_ediv_of_nonneg (by omega), IntWalk.i64_in _ (by omega)]), KB⟩

set_option maxRecDepth 100000 in
set_option maxHeartbeats 400000 in
theorem cl50 (wd ht kd dp : Int) (ps : Bool) (pv sv : Value) (f0 f1 f2 f3 c r : Int) (B : Nat) (bits s0 : Int) (w : World)
    (hb : w.heap[B]? = some (.cells #[.int .i64 wd, .int .i64 ht, .int .i64 kd, .int .i64 dp, .bool ps, pv, sv] 30 (0, 0))) (hs : w.heap[B + 1]? = some (.cells #[.int .i64 s0] 3 (0, 0)))
    (hc : 0 ≤ c ∧ c ≤ 5000) (hr : 0 ≤ r ∧ r ≤ 5000) (hch : Pm.chan kd dp ≠ 0) (hbt : bits = Pm.chan kd dp * dp) (hs0 : 0 ≤ s0 ∧ s0 ≤ 2000000000) :
    Calls Tryz.prog 93 #[.agg #[.int .i64 f0, .int .i64 f1, .int .i64 f2, .int .i64 f3, .int .i64 c, .int .i64 r], .pointer (some ⟨B + 1, 0, none⟩), .pointer (some ⟨B, 0, none⟩)] w
      fun e w' => e = .returned (.tuple #[]) ∧ w'.heap[B + 1]? = some (.cells #[.int .i64 (s0 + Pm.ad c r bits)] 3 (0, 0)) ∧ Kp (· = B + 1) w w' := by
  have hbits := Pm.pb_range kd dp hch
  rw [← hbt] at hbits
  have h1 := Pm.cb_range c bits hc hbits
  have h2 := Pm.ad_range c r bits hc hr hbits
  have e : Pm.ad c r bits = r * (1 + (c * bits + 7) / 8) := rfl
  have hrb := fun u => rbytes24 wd ht kd dp ps pv sv f0 f1 f2 f3 c r u hc hch
  rw [← hbt] at hrb
  rw [e] at h2 ⊢
  clear e hbt
  generalize c * bits = cb at *
  obtain ⟨rb, hrbe⟩ : ∃ rb, (cb + 7) / 8 = rb := ⟨_, rfl⟩
  rw [hrbe] at hrb h2 ⊢
  have h3 : 0 ≤ rb ∧ rb ≤ 50000 := by omega
  clear hrbe h1 hbits
  generalize hm : r * (1 + rb) = ad at *
  have lb := lt_of_block hb
  have ls := lt_of_block hs
  have q0 : (w.alloc (.cells #[.int .i64 f0, .int .i64 f1, .int .i64 f2, .int .i64 f3, .int .i64 c, .int .i64 r] 122)).drew.heap[w.heap.size]? = some (.cells #[.int .i64 f0, .int .i64 f1, .int .i64 f2, .int .i64 f3, .int .i64 c, .int .i64 r] 122 (0, 0)) := blk_new w _
  have q1 : (w.alloc (.cells #[.int .i64 f0, .int .i64 f1, .int .i64 f2, .int .i64 f3, .int .i64 c, .int .i64 r] 122)).drew.heap[B]? = _ := blk_old hb _
  have q2 : (w.alloc (.cells #[.int .i64 f0, .int .i64 f1, .int .i64 f2, .int .i64 f3, .int .i64 c, .int .i64 r] 122)).drew.heap[B + 1]? = _ := blk_old hs _
  have k0 : Below w.heap.size w (w.alloc (.cells #[.int .i64 f0, .int .i64 f1, .int .i64 f2, .int .i64 f3, .int .i64 c, .int .i64 r] 122)).drew := ((Below.refl _ _).alloc (Nat.le_refl _) _).drew
  go_enter Tryz.func93, Tryz.ntmps93
  go_wp2_with fail
  generalize hwd : World.drew _ = v0 at *
  have hS : v0.cell? ⟨B + 1, 0, none⟩ = some (.int .i64 s0) ∧ v0.cell? ⟨B, 0, none⟩ = some (.int .i64 wd) ∧ v0.cell? ⟨B, 1, none⟩ = some (.int .i64 ht) ∧ v0.cell? ⟨B, 2, none⟩ = some (.int .i64 kd) ∧ v0.cell? ⟨B, 3, none⟩ = some (.int .i64 dp) ∧ v0.cell? ⟨B, 4, none⟩ = some (.bool ps) ∧ v0.cell? ⟨B, 5, none⟩ = some (pv) ∧ v0.cell? ⟨B, 6, none⟩ = some (sv) ∧ v0.cell? ⟨w.heap.size, 0, none⟩ = some (.int .i64 f0) ∧ v0.cell? ⟨w.heap.size, 1, none⟩ = some (.int .i64 f1) ∧ v0.cell? ⟨w.heap.size, 2, none⟩ = some (.int .i64 f2) ∧ v0.cell? ⟨w.heap.size, 3, none⟩ = some (.int .i64 f3) ∧ v0.cell? ⟨w.heap.size, 4, none⟩ = some (.int .i64 c) ∧ v0.cell? ⟨w.heap.size, 5, none⟩ = some (.int .i64 r) := by
    obtain ⟨a0, a1, a2, a3, a4, a5, a6⟩ := cells7 q1
    obtain ⟨d0, d1, d2, d3, d4, d5⟩ := cells6W q0
    exact ⟨cell_of_one q2, a0, a1, a2, a3, a4, a5, a6, d0, d1, d2, d3, d4, d5⟩
  refine regionZ (by kernel_rfl) (fun w' => w'.cell? ⟨B + 1, 0, none⟩ = some (.int .i64 s0) ∧ w'.cell? ⟨B, 0, none⟩ = some (.int .i64 wd) ∧ w'.cell? ⟨B, 1, none⟩ = some (.int .i64 ht) ∧ w'.cell? ⟨B, 2, none⟩ = some (.int .i64 kd) ∧ w'.cell? ⟨B, 3, none⟩ = some (.int .i64 dp) ∧ w'.cell? ⟨B, 4, none⟩ = some (.bool ps) ∧ w'.cell? ⟨B, 5, none⟩ = some (pv) ∧ w'.cell? ⟨B, 6, none⟩ = some (sv) ∧ w'.cell? ⟨w.heap.size, 0, none⟩ = some (.int .i64 f0) ∧ w'.cell? ⟨w.heap.size, 1, none⟩ = some (.int .i64 f1) ∧ w'.cell? ⟨w.heap.size, 2, none⟩ = some (.int .i64 f2) ∧ w'.cell? ⟨w.heap.size, 3, none⟩ = some (.int .i64 f3) ∧ w'.cell? ⟨w.heap.size, 4, none⟩ = some (.int .i64 c) ∧ w'.cell? ⟨w.heap.size, 5, none⟩ = some (.int .i64 r)) 9 ?_
  rw [hwd]
  refine anyZ_take (i := 0) (v := ?_) rfl (by kernel_rfl) (by kernel_rfl) (by kernel_rfl) (by kernel_rfl) (fun _ _ _ h => h) (by kernel_rfl) ?_ hS ?_
  rotate_left
  · intro w hSw; (try dsimp only at hSw); go_simp; try with_reducible rfl
  try simp only [Act.put]
  refine anyZ_take (i := 1) (v := ?_) rfl (by kernel_rfl) (by kernel_rfl) (by kernel_rfl) (by kernel_rfl) (fun _ _ _ h => h) (by kernel_rfl) ?_ hS ?_
  rotate_left
  · intro w hSw; (try dsimp only at hSw); go_simp; try with_reducible rfl
  try simp only [Act.put]
  refine anyZ_take (i := 2) (v := ?_) rfl (by kernel_rfl) (by kernel_rfl) (by kernel_rfl) (by kernel_rfl) (fun _ _ _ h => h) (by kernel_rfl) ?_ hS ?_
  rotate_left
  · intro w hSw; (try dsimp only at hSw); go_simp; try with_reducible rfl
  try simp only [Act.put]
  refine anyZ_take (i := 3) (v := ?_) rfl (by kernel_rfl) (by kernel_rfl) (by kernel_rfl) (by kernel_rfl) (fun _ _ _ h => h) (by kernel_rfl) ?_ hS ?_
  rotate_left
  · intro w hSw; (try dsimp only at hSw); go_simp; try with_reducible rfl
  try simp only [Act.put]
  refine anyZ_take (i := 4) (v := ?_) rfl (by kernel_rfl) (by kernel_rfl) (by kernel_rfl) (by kernel_rfl) (fun _ _ _ h => h) (by kernel_rfl) ?_ hS ?_
  rotate_left
  · intro w hSw; (try dsimp only at hSw); go_simp; try with_reducible rfl
  try simp only [Act.put]
  refine anyZ_one (i := 5) (by kernel_rfl) rfl (fun K hK => ?_)
  go_simp
  refine (hrb _).mono ?_
  rintro e w1 ⟨rfl, hb1⟩
  have n0 := (hb1.block _ (lt_of_block q0)).trans q0
  have n1 := (hb1.block _ (lt_of_block q1)).trans q1
  have n2 := (hb1.block _ (lt_of_block q2)).trans q2
  have hS1 : w1.cell? ⟨B + 1, 0, none⟩ = some (.int .i64 s0) ∧ w1.cell? ⟨B, 0, none⟩ = some (.int .i64 wd) ∧ w1.cell? ⟨B, 1, none⟩ = some (.int .i64 ht) ∧ w1.cell? ⟨B, 2, none⟩ = some (.int .i64 kd) ∧ w1.cell? ⟨B, 3, none⟩ = some (.int .i64 dp) ∧ w1.cell? ⟨B, 4, none⟩ = some (.bool ps) ∧ w1.cell? ⟨B, 5, none⟩ = some (pv) ∧ w1.cell? ⟨B, 6, none⟩ = some (sv) ∧ w1.cell? ⟨w.heap.size, 0, none⟩ = some (.int .i64 f0) ∧ w1.cell? ⟨w.heap.size, 1, none⟩ = some (.int .i64 f1) ∧ w1.cell? ⟨w.heap.size, 2, none⟩ = some (.int .i64 f2) ∧ w1.cell? ⟨w.heap.size, 3, none⟩ = some (.int .i64 f3) ∧ w1.cell? ⟨w.heap.size, 4, none⟩ = some (.int .i64 c) ∧ w1.cell? ⟨w.heap.size, 5, none⟩ = some (.int .i64 r) := by
    obtain ⟨a0, a1, a2, a3, a4, a5, a6⟩ := cells7 n1
    obtain ⟨d0, d1, d2, d3, d4, d5⟩ := cells6W n0
    exact ⟨cell_of_one n2, a0, a1, a2, a3, a4, a5, a6, d0, d1, d2, d3, d4, d5⟩
  refine hK _ _ (fun _ => hS1) ?_
  clear hK K
  have KB : Below w.heap.size w w1 := k0.trans (hb1.mono k0.size)
  have fz := free_of_one n2
  have HN2 : Hid (w1.heap[B + 1]? = some (.cells #[.int .i64 s0] 3 (0, 0))) := n2
  have hl1 : B + 1 < w1.heap.size := lt_of_block n2
  clear n0 n1 n2 hb1 q0 q1 q2 k0 hS hrb hb hs
  refine anyZ_take (i := 6) (v := ?_) rfl (by kernel_rfl) (by kernel_rfl) (by kernel_rfl) (by kernel_rfl) (fun _ _ _ h => h) (by kernel_rfl) ?_ hS1 ?_
  rotate_left
  · intro w hSw; (try dsimp only at hSw); go_simp; try with_reducible rfl
  try simp only [Act.put]
  refine anyZ_take (i := 7) (v := ?_) rfl (by kernel_rfl) (by kernel_rfl) (by kernel_rfl) (by kernel_rfl) (fun _ _ _ h => h) (by kernel_rfl) ?_ hS1 ?_
  rotate_left
  · intro w hSw; (try dsimp only at hSw); go_simp; try with_reducible rfl
  try simp only [Act.put]
  refine anyZ_take (i := 8) (v := ?_) rfl (by kernel_rfl) (by kernel_rfl) (by kernel_rfl) (by kernel_rfl) (fun _ _ _ h => h) (by kernel_rfl) ?_ hS1 ?_
  rotate_left
  · intro w hSw; (try dsimp only at hSw); go_simp; try with_reducible rfl
  try simp only [Act.put]
  refine anyZ_one (i := 9) (by kernel_rfl) rfl (fun K hK => ?_)
  go_simp
  refine hK _ _ (fun h => absurd rfl h) ?_
  clear hK K
  refine anyZ_done (by kernel_rfl) ?_ _
  go_wp2
  go_end0
  refine ⟨rfl, ?_, ?_⟩
  · have := one_setCell (u := .int .i64 (s0 + ad)) HN2.out
    rw [IntWalk.i64_in (1 + rb) (by omega), hm, IntWalk.i64_in ad (by omega), IntWalk.i64_in (s0 + ad) (by omega)]
    exact this
  · exact Kp.setCell (S := fun x => x = B + 1) (p := ⟨B + 1, 0, none⟩) (Kp.ofBelow KB) (.inl rfl) _

/-- The flat cells of the table of seven passes. -/
def tab42 : Array Value := #[.int .i64 0, .int .i64 0, .int .i64 8, .int .i64 8, .int .i64 0, .int .i64 0, .int .i64 4, .int .i64 0, .int .i64 8, .int .i64 8, .int .i64 0, .int .i64 0,
  .int .i64 0, .int .i64 4, .int .i64 4, .int .i64 8, .int .i64 0, .int .i64 0, .int .i64 2, .int .i64 0, .int .i64 4, .int .i64 4, .int .i64 0, .int .i64 0,
  .int .i64 0, .int .i64 2, .int .i64 2, .int .i64 4, .int .i64 0, .int .i64 0, .int .i64 1, .int .i64 0, .int .i64 2, .int .i64 2, .int .i64 0, .int .i64 0,
  .int .i64 0, .int .i64 1, .int .i64 1, .int .i64 2, .int .i64 0, .int .i64 0]
abbrev row6 (a b c d : Int) : Value := .agg #[.int .i64 a, .int .i64 b, .int .i64 c, .int .i64 d, .int .i64 0, .int .i64 0]
theorem tab_at0 (w : World) : (Instr.index 178 (.agg tab42) (.int .i64 0)).run Tryz.prog w = .ok (row6 0 0 8 8) w := by kernel_rfl
theorem tab_at1 (w : World) : (Instr.index 178 (.agg tab42) (.int .i64 1)).run Tryz.prog w = .ok (row6 4 0 8 8) w := by kernel_rfl
theorem tab_at2 (w : World) : (Instr.index 178 (.agg tab42) (.int .i64 2)).run Tryz.prog w = .ok (row6 0 4 4 8) w := by kernel_rfl
theorem tab_at3 (w : World) : (Instr.index 178 (.agg tab42) (.int .i64 3)).run Tryz.prog w = .ok (row6 2 0 4 4) w := by kernel_rfl
theorem tab_at4 (w : World) : (Instr.index 178 (.agg tab42) (.int .i64 4)).run Tryz.prog w = .ok (row6 0 2 2 4) w := by kernel_rfl
theorem tab_at5 (w : World) : (Instr.index 178 (.agg tab42) (.int .i64 5)).run Tryz.prog w = .ok (row6 1 0 2 2) w := by kernel_rfl
theorem tab_at6 (w : World) : (Instr.index 178 (.agg tab42) (.int .i64 6)).run Tryz.prog w = .ok (row6 0 1 1 2) w := by kernel_rfl

set_option maxRecDepth 100000 in
set_option maxHeartbeats 400000 in
theorem each_flat (wd ht kd dp : Int) (pv sv : Value) (B : Nat) (bits : Int) (w : World)
    (hb : w.heap[B]? = some (.cells #[.int .i64 wd, .int .i64 ht, .int .i64 kd, .int .i64 dp, .bool false, pv, sv] 30 (0, 0))) (hs : w.heap[B + 1]? = some (.cells #[.int .i64 0] 3 (0, 0)))
    (hwd : 1 ≤ wd ∧ wd ≤ 5000) (hht : 1 ≤ ht ∧ ht ≤ 5000) (hch : Pm.chan kd dp ≠ 0) (hbt : bits = Pm.chan kd dp * dp) :
    Calls Tryz.prog 92 #[img wd ht kd dp false pv sv, .func (.func 93) #[] #[.pointer (some ⟨B + 1, 0, none⟩), .pointer (some ⟨B, 0, none⟩)]] w
      fun e w' => e = .returned (.tuple #[]) ∧ w'.heap[B + 1]? = some (.cells #[.int .i64 (Pm.ad wd ht bits)] 3 (0, 0)) ∧ Kp (· = B + 1) w w' := by
  go_enter Tryz.func92, Tryz.ntmps92
  go_wp2_with (go_at_call 93; refine (cl50 wd ht kd dp false pv sv 0 0 1 1 wd ht B bits 0 _ (blk_old hb _) (blk_old hs _) (by omega) (by omega) hch hbt (by omega)).mono ?_; rintro e w1 ⟨rfl, h1, h2⟩)
  exact bodyPost_ret (results_none rfl _ _ _) rfl ⟨rfl, by simpa using h1, ((Kp.refl _ _).alloc _).trans h2⟩

end Go.Proofs.YtmfijackgekioaaGreatDoor

namespace Go.Proofs.YtmfijackgekioaaGreatDoor
open Go.RowKit

theorem tab_facts {wd ht : Int} (b : Int) (hw : 1 ≤ wd ∧ wd ≤ 5000) (hh : 1 ≤ ht ∧ ht ≤ 5000) (k : Nat) (hk : k < 7) :
    ∃ c0 r0 cs rs : Int, Pm.Rnd wd ht b k c0 r0 cs rs ∧ ∀ w : World, (Instr.index 178 (.agg tab42) (.int .i64 (k : Int))).run Tryz.prog w = .ok (row6 c0 r0 cs rs) w := by
  match k, hk with
  | 0, _ => exact ⟨_, _, _, _, Pm.rnd0 b hw hh, tab_at0⟩
  | 1, _ => exact ⟨_, _, _, _, Pm.rnd1 b hw hh, tab_at1⟩
  | 2, _ => exact ⟨_, _, _, _, Pm.rnd2 b hw hh, tab_at2⟩
  | 3, _ => exact ⟨_, _, _, _, Pm.rnd3 b hw hh, tab_at3⟩
  | 4, _ => exact ⟨_, _, _, _, Pm.rnd4 b hw hh, tab_at4⟩
  | 5, _ => exact ⟨_, _, _, _, Pm.rnd5 b hw hh, tab_at5⟩
  | 6, _ => exact ⟨_, _, _, _, Pm.rnd6 b hw hh, tab_at6⟩

theorem rawTo_range {wd ht : Int} (b : Int) (hw : 1 ≤ wd ∧ wd ≤ 5000) (hh : 1 ≤ ht ∧ ht ≤ 5000) (hb : 0 ≤ b ∧ b ≤ 64) (k : Nat) (hk : k ≤ 7) :
    0 ≤ Pm.rawTo wd ht b k ∧ Pm.rawTo wd ht b k ≤ 200010000 * k := by
  induction k with
  | zero => simp [Pm.rawTo]
  | succ k ih =>
    obtain ⟨c0, r0, cs, rs, R, _⟩ := tab_facts b hw hh k (by omega)
    have h1 := Pm.one_range wd ht b c0 r0 cs rs R.bc R.br hb
    have h2 := ih (by omega)
    rw [R.next]
    omega

theorem steps_cnt (s t e : Int) (w : World) (hs : 0 ≤ s ∧ s ≤ 8) (ht : 1 ≤ t ∧ t ≤ 8) (he : 0 ≤ e ∧ e ≤ 5000) (h : 0 ≤ e - s + t - 1) :
    Calls Tryz.prog 135 #[.int .i64 s, .int .i64 t, .int .i64 e] w fun x w' => x = .returned (.int .i64 (Pm.cnt s t e)) ∧ w' = w := steps71 s t e w hs ht he h

theorem info_tab : (Tryz.prog.info? 178).map (·.size) = some tab42.size := by kernel_rfl

set_option maxRecDepth 100000 in
set_option maxHeartbeats 1000000 in
theorem each_seven (wd ht kd dp : Int) (pv sv : Value) (B : Nat) (bits : Int) (w : World) (tt : TypeId) (fr : Nat × Nat)
    (hT : w.heap[0]? = some (.cells tab42 tt fr))
    (hb : w.heap[B]? = some (.cells #[.int .i64 wd, .int .i64 ht, .int .i64 kd, .int .i64 dp, .bool true, pv, sv] 30 (0, 0))) (hs : w.heap[B + 1]? = some (.cells #[.int .i64 0] 3 (0, 0)))
    (hwd : 1 ≤ wd ∧ wd ≤ 5000) (hht : 1 ≤ ht ∧ ht ≤ 5000) (hch : Pm.chan kd dp ≠ 0) (hbt : bits = Pm.chan kd dp * dp) :
    Calls Tryz.prog 92 #[img wd ht kd dp true pv sv, .func (.func 93) #[] #[.pointer (some ⟨B + 1, 0, none⟩), .pointer (some ⟨B, 0, none⟩)]] w
      fun e w' => e = .returned (.tuple #[]) ∧ w'.heap[B + 1]? = some (.cells #[.int .i64 (Pm.rawTo wd ht bits 7)] 3 (0, 0)) ∧ Kp (· = B + 1) w w' := by
  have HT : Hid (w.heap[0]? = some (.cells tab42 tt fr)) := hT
  clear hT
  have hbits : 0 ≤ bits ∧ bits ≤ 64 := by rw [hbt]; exact Pm.pb_range kd dp hch
  have lb := lt_of_block hb
  have ls := lt_of_block hs
  go_enter Tryz.func92, Tryz.ntmps92
  go_wp2_with (refine wpList_load_row rfl 178 _ rfl 0 rfl tt tab42 fr _ (blk_old HT.out _) Tryz.underlying178 rfl info_tab ?_)
  go_loopw [17] (fun i wr => ∃ k : Nat, k ≤ 7 ∧ i = .int .i64 k ∧ wr.heap[B + 1]? = some (.cells #[.int .i64 (Pm.rawTo wd ht bits k)] 3 (0, 0)) ∧ Kp (· = B + 1) (w.alloc (.cells #[.int .i64 wd, .int .i64 ht, .int .i64 kd, .int .i64 dp, .bool true, pv, sv] 30)) wr) (fun i _ => 7 - (intOf i).toNat)
  case atStart => exact ⟨0, Nat.zero_le _, rfl, blk_old hs _, Kp.refl _ _⟩
  case round =>
    obtain ⟨k, hk, rfl, hsz, hkp⟩ := hrel
    by_cases hlt : k < 7
    · obtain ⟨c0, r0, cs, rs, R, hidx⟩ := tab_facts bits hwd hht k hlt
      have hsr := rawTo_range bits hwd hht hbits k hk
      have hsz' := hkp.size
      rw [World.size_alloc] at hsz'
      have hlt2 : w.heap.size < wr.heap.size := by omega
      have hlt3 : B < wr.heap.size := by omega
      have hlt4 : B + 1 < wr.heap.size := by omega
      have m0 : wr.cell? ⟨w.heap.size, 0, none⟩ = some (.int .i64 wd) := (hkp.cell (by simp) (by simp; omega)).trans (by simp)
      have m1 : wr.cell? ⟨w.heap.size, 1, none⟩ = some (.int .i64 ht) := (hkp.cell (by simp) (by simp; omega)).trans (by simp)
      have hbr : wr.heap[B]? = some (.cells #[.int .i64 wd, .int .i64 ht, .int .i64 kd, .int .i64 dp, .bool true, pv, sv] 30 (0, 0)) := (hkp.block B (by simp; omega) (by omega)).trans (blk_old hb _)
      have HN : Hid (Pm.rawTo wd ht bits (k + 1) = Pm.rawTo wd ht bits k + Pm.one wd ht bits c0 r0 cs rs) := R.next
      have p1 := R.pc
      have p2 := R.pr
      have b1 := R.bc
      have b2 := R.br
      have ho := Pm.one_range wd ht bits c0 r0 cs rs R.bc R.br hbits
      go_wp2_with fail
      refine (steps_cnt c0 cs wd _ R.hc0 R.hcs (by omega) R.pc).mono ?_
      rintro e w' ⟨rfl, rfl⟩
      go_wp2_with fail
      refine (steps_cnt r0 rs ht _ R.hr0 R.hrs (by omega) R.pr).mono ?_
      rintro e w' ⟨rfl, rfl⟩
      clear p1 p2
      by_cases d1 : 0 < Pm.cnt c0 cs wd
      · by_cases d2 : 0 < Pm.cnt r0 rs ht
        · have HO : Hid (Pm.one wd ht bits c0 r0 cs rs = Pm.ad (Pm.cnt c0 cs wd) (Pm.cnt r0 rs ht) bits) := by show _ = _; rw [Pm.one, if_pos ⟨d1, d2⟩]
          go_wp2_with fail
          refine (cl50 wd ht kd dp true pv sv c0 r0 cs rs (Pm.cnt c0 cs wd) (Pm.cnt r0 rs ht) B bits (Pm.rawTo wd ht bits k) _ (blk_old hbr _) (blk_old hsz _) R.bc R.br hch hbt (by omega)).mono ?_
          rintro e w1 ⟨rfl, h1, h2⟩
          have R2 : w1.heap[B + 1]? = some (.cells #[.int .i64 (Pm.rawTo wd ht bits (k + 1))] 3 (0, 0)) ∧ Kp (· = B + 1) (w.alloc (.cells #[.int .i64 wd, .int .i64 ht, .int .i64 kd, .int .i64 dp, .bool true, pv, sv] 30)) w1 :=
            ⟨by rw [HN.out, HO.out]; exact h1, (hkp.alloc _).trans h2⟩
          clear h1 h2 hsz hkp
          go_wp2
          go_roundw
          case rel => exact ⟨k + 1, by omega, by go_num, R2.1, R2.2⟩
          case measure => simp [intOf]; omega
        · have HO : Hid (Pm.one wd ht bits c0 r0 cs rs = 0) := by show _ = _; rw [Pm.one, if_neg (by omega)]
          go_wp2
          go_roundw
          case rel => exact ⟨k + 1, by omega, by go_num, by rw [HN.out, HO.out, Int.add_zero]; exact blk_old hsz _, hkp.alloc _⟩
          case measure => simp [intOf]; omega
      · have HO : Hid (Pm.one wd ht bits c0 r0 cs rs = 0) := by show _ = _; rw [Pm.one, if_neg (by omega)]
        go_wp2
        go_roundw
        case rel => exact ⟨k + 1, by omega, by go_num, by rw [HN.out, HO.out, Int.add_zero]; exact blk_old hsz _, hkp.alloc _⟩
        case measure => simp [intOf]; omega
    · have hk2 : k = 7 := by omega
      subst hk2
      go_wp2
      go_end0
      exact ⟨rfl, hsz, ((Kp.refl _ _).alloc _).trans hkp⟩

end Go.Proofs.YtmfijackgekioaaGreatDoor
