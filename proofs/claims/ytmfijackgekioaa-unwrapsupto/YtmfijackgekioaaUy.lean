/-
  The call's face: Inflate.
-/
import Derived.Test.YtmfijackgekioaaUx
import Derived.Defers
import Derived.Recover
namespace Go.Proofs.Ytmfijackgekioaa
open Go.RowKit

set_option maxRecDepth 100000 in
set_option maxHeartbeats 1000000 in
theorem number_nil (o : Int) (w : World) : Calls Try.prog 21 #[.nilIface, .int .i64 o] w fun e w' => e = .returned (.int .i64 0) ∧ w' = w := by
  go_enter Try.func21, Try.ntmps21
  go_wp2
  go_ret
  exact ⟨rfl, rfl⟩
set_option maxRecDepth 100000 in
set_option maxHeartbeats 1000000 in
theorem number_fault (c o : Int) (w : World) : Calls Try.prog 21 #[.iface 52 (.int .i64 c), .int .i64 o] w fun e w' => e = .returned (.int .i64 c) ∧ w' = w := by
  have hta : ∀ w : World, (Instr.typeAssert (.iface 52 (.int .i64 c)) 20 52 true).run Try.prog w = .ok (.tuple #[.int .i64 c, .bool true]) w := fun _ => by kernel_rfl
  go_enter Try.func21, Try.ntmps21
  go_wp2
  go_ret
  exact ⟨rfl, rfl⟩

theorem catch_panicking (p : Addr) (x c : Int) (older : List PanicEntry) (w : World) (hc : w.cell? p = some (.int .i64 x)) (hz : w.frozen? p = false) :
    CallsD Try.prog 20 #[.pointer (some p)] (.panicking ({ v := .iface 52 (.int .i64 c), recovered := false } :: older)) w fun e u' w' =>
      e = .returned (.tuple #[]) ∧ u' = .panicking ({ v := .iface 52 (.int .i64 c), recovered := true } :: older) ∧ w' = w.setCell p (.int .i64 c) := by
  refine callsD_of_wpS Try.func20 rfl fun c₀ cs hu => ?_
  apply wpS_region
  simp [wpOpsS, go_sem, recoverD, hu, Try.ntmps20]
  refine (number_fault c 6 w).mono ?_
  rintro e w' ⟨rfl, rfl⟩
  simp [go_sem, hc, hz, bodyPostS, results, Try.results20]

theorem catch_idle (p : Addr) (x : Int) (w : World) (hc : w.cell? p = some (.int .i64 x)) (hz : w.frozen? p = false) :
    CallsD Try.prog 20 #[.pointer (some p)] .returning w fun e u' w' => e = .returned (.tuple #[]) ∧ u' = .returning ∧ w' = w.setCell p (.int .i64 0) := by
  refine callsD_of_wpS Try.func20 rfl fun c₀ cs hu => ?_
  apply wpS_region
  simp [wpOpsS, go_sem, recoverD, hu, Try.ntmps20]
  refine (number_nil 6 w).mono ?_
  rintro e w' ⟨rfl, rfl⟩
  simp [go_sem, hc, hz, bodyPostS, results, Try.results20]
  cases c₀
  simp_all

/-- What the document's unpacking answers. -/
def answer (F : Rf.St) : Value := if (F.bad || F.full) = true then .tuple #[.string ⟨#[]⟩, .int .i64 0, .int .i64 (code F)] else .tuple #[.string ⟨F.out.toArray⟩, .int .i64 (((F.pos + 7) / 8 : Nat) : Int), .int .i64 0]

set_option maxRecDepth 100000 in
set_option maxHeartbeats 2000000 in
theorem inflate11 (s : ByteArray) (limit : Int) (w : World) (hs : s.size ≤ 1048576) (hl0 : -9223372036854775808 ≤ limit) (hl1 : limit ≤ 9223372036854775807) :
    Calls Try.prog 11 #[.string s, .int .i64 limit] w fun e w' => e = .returned (answer (Rf.inflate (lw s) limit)) ∧ Below w.heap.size w w' := by
  have hmf : ∀ (fn : Fn) (first cap : Array Value) (w : World), (Instr.makeFunc fn first cap).run Try.prog w = .ok (.func fn first cap) w := fun _ _ _ _ => rfl
  have hby := bytes22 s limit (w.alloc (.cells #[.int .i64 0] 24)) hs hl0 hl1 (alike_fixed s)
  generalize Rf.inflate (lw s) limit = F at *
  go_enter_defers Try.func11, Try.ntmps11
  go_wp2_with fail
  refine hby.mono ?_
  rintro e w1 (⟨f1, f2, rfl, b1, -⟩ | ⟨f1, rfl, b1⟩)
  · rw [World.size_alloc] at b1
    have hb : w1.heap[w.heap.size]? = some (.cells #[.int .i64 0] 24 (0, 0)) := (b1.block _ (by omega)).trans (blk_new w _)
    obtain ⟨c0, cz, clt⟩ := one_cell hb
    have HB : Hid (Below w.heap.size w w1) := ((Below.refl _ _).alloc (Nat.le_refl _) _).trans (b1.mono (by omega))
    have HA : Hid (answer F = .tuple #[.string ⟨F.out.toArray⟩, .int .i64 (((F.pos + 7) / 8 : Nat) : Int), .int .i64 0]) := by show _ = _; rw [answer, f1, f2]; rfl
    have hset := one_set hb (.int .i64 0)
    obtain ⟨d0, dz, dlt⟩ := one_cell hset
    clear hby b1 hb
    go_wp2
    refine leaves_cons (f := 20) (args := #[.pointer (some ⟨w.heap.size, 0, none⟩)]) (by simp) (by simp [go_sem]) ?_
    refine (catch_idle ⟨w.heap.size, 0, none⟩ 0 _ d0 dz).mono ?_
    rintro e u' w'' ⟨rfl, rfl, rfl⟩
    have hset2 := one_set hset (.int .i64 0)
    obtain ⟨x0, xz, xlt⟩ := one_cell hset2
    simp [Leaves, settle, results, Try.results11, go_sem, x0]
    rw [HA.out]
    exact ⟨by rw [show ((F.pos : Int) + 7) / 8 = (((F.pos + 7) / 8 : Nat) : Int) by omega], (HB.out.setCell (p := ⟨w.heap.size, 0, none⟩) (Nat.le_refl _) _).setCell (p := ⟨w.heap.size, 0, none⟩) (Nat.le_refl _) _⟩
  · rw [World.size_alloc] at b1
    have hb : w1.heap[w.heap.size]? = some (.cells #[.int .i64 0] 24 (0, 0)) := (b1.block _ (by omega)).trans (blk_new w _)
    obtain ⟨c0, cz, clt⟩ := one_cell hb
    have HB : Hid (Below w.heap.size w w1) := ((Below.refl _ _).alloc (Nat.le_refl _) _).trans (b1.mono (by omega))
    have HA : Hid (answer F = .tuple #[.string ⟨#[]⟩, .int .i64 0, .int .i64 (code F)]) := by show _ = _; rw [answer, if_pos f1]
    generalize code F = cd at *
    clear hby b1
    go_wp2
    refine leaves_cons (f := 20) (args := #[.pointer (some ⟨w.heap.size, 0, none⟩)]) (by simp) (by simp [go_sem]) ?_
    refine (catch_panicking ⟨w.heap.size, 0, none⟩ 0 cd [] _ c0 cz).mono ?_
    rintro e u' w'' ⟨rfl, rfl, rfl⟩
    have hset2 := one_set hb (.int .i64 cd)
    obtain ⟨x0, xz, xlt⟩ := one_cell hset2
    simp [Leaves, settle, results, Try.results11, go_sem, x0]
    rw [HA.out]
    exact ⟨rfl, HB.out.setCell (p := ⟨w.heap.size, 0, none⟩) (Nat.le_refl _) _⟩

end Go.Proofs.Ytmfijackgekioaa
