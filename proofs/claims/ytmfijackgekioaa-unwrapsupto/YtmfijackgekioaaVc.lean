/-
  Unwrapping: the call's face.
-/
import Derived.Test.YtmfijackgekioaaVb
namespace Go.Proofs.Ytmfijackgekioaa
open Go.RowKit

theorem ucatch_panicking (p : Addr) (x c : Int) (older : List PanicEntry) (w : World) (hc : w.cell? p = some (.int .i64 x)) (hz : w.frozen? p = false) :
    CallsD Try.prog 31 #[.pointer (some p)] (.panicking ({ v := .iface 52 (.int .i64 c), recovered := false } :: older)) w fun e u' w' =>
      e = .returned (.tuple #[]) ∧ u' = .panicking ({ v := .iface 52 (.int .i64 c), recovered := true } :: older) ∧ w' = w.setCell p (.int .i64 c) := by
  refine callsD_of_wpS Try.func31 rfl fun c₀ cs hu => ?_
  apply wpS_region
  simp [wpOpsS, go_sem, recoverD, hu, Try.ntmps31]
  refine (number_fault c 6 w).mono ?_
  rintro e w' ⟨rfl, rfl⟩
  simp [go_sem, hc, hz, bodyPostS, results, Try.results31]

theorem ucatch_idle (p : Addr) (x : Int) (w : World) (hc : w.cell? p = some (.int .i64 x)) (hz : w.frozen? p = false) :
    CallsD Try.prog 31 #[.pointer (some p)] .returning w fun e u' w' => e = .returned (.tuple #[]) ∧ u' = .returning ∧ w' = w.setCell p (.int .i64 0) := by
  refine callsD_of_wpS Try.func31 rfl fun c₀ cs hu => ?_
  apply wpS_region
  simp [wpOpsS, go_sem, recoverD, hu, Try.ntmps31]
  refine (number_nil 6 w).mono ?_
  rintro e w' ⟨rfl, rfl⟩
  simp [go_sem, hc, hz, bodyPostS, results, Try.results31]
  cases c₀
  simp_all

/-- What unwrapping answers: the text. -/
def wtext (s : ByteArray) (limit : Int) : ByteArray := if wcode s limit = 0 then ⟨(mid s limit).out.toArray⟩ else ⟨#[]⟩

set_option maxRecDepth 100000 in
set_option maxHeartbeats 2000000 in
theorem unwrap15 (s : ByteArray) (limit : Int) (w : World) (hs : s.size ≤ 1048576) (hl0 : -9223372036854775808 ≤ limit) (hl1 : limit ≤ 9223372036854775807) :
    Calls Try.prog 15 #[.string s, .int .i64 limit] w fun e w' => e = .returned (.tuple #[.string (wtext s limit), .int .i64 (wcode s limit)]) ∧ Fine s limit ∧ Below w.heap.size w w' := by
  have hmf : ∀ (fn : Fn) (first cap : Array Value) (w : World), (Instr.makeFunc fn first cap).run Try.prog w = .ok (.func fn first cap) w := fun _ _ _ _ => rfl
  have hby := open32 s limit (w.alloc (.cells #[.int .i64 0] 24)) hs hl0 hl1
  unfold EndsO at hby
  have HT : Hid (wtext s limit = if wcode s limit = 0 then ⟨(mid s limit).out.toArray⟩ else ⟨#[]⟩) := rfl
  generalize wtext s limit = TX at *
  generalize wcode s limit = cd at *
  generalize mid s limit = F at *
  generalize Fine s limit = FN at *
  go_enter_defers Try.func15, Try.ntmps15
  go_wp2_with fail
  refine hby.mono ?_
  rintro e w1 ⟨⟨f1, rfl⟩ | ⟨f1, rfl⟩, HN, b1⟩
  · rw [World.size_alloc] at b1
    have hb : w1.heap[w.heap.size]? = some (.cells #[.int .i64 0] 24 (0, 0)) := (b1.block _ (by omega)).trans (blk_new w _)
    obtain ⟨c0, cz, clt⟩ := one_cell hb
    have HB : Hid (Below w.heap.size w w1) := ((Below.refl _ _).alloc (Nat.le_refl _) _).trans (b1.mono (by omega))
    rw [if_pos f1] at HT
    have HN : Hid FN := HN
    subst f1
    have hset := one_set hb (.int .i64 0)
    obtain ⟨d0, dz, dlt⟩ := one_cell hset
    clear hby b1 hb
    go_wp2
    refine leaves_cons (f := 31) (args := #[.pointer (some ⟨w.heap.size, 0, none⟩)]) (by simp) (by simp [go_sem]) ?_
    refine (ucatch_idle ⟨w.heap.size, 0, none⟩ 0 _ d0 dz).mono ?_
    rintro e u' w'' ⟨rfl, rfl, rfl⟩
    have hset2 := one_set hset (.int .i64 0)
    obtain ⟨x0, xz, xlt⟩ := one_cell hset2
    simp [Leaves, settle, results, Try.results15, go_sem, x0]
    rw [HT.out]
    exact ⟨rfl, HN.out, (HB.out.setCell (p := ⟨w.heap.size, 0, none⟩) (Nat.le_refl _) _).setCell (p := ⟨w.heap.size, 0, none⟩) (Nat.le_refl _) _⟩
  · rw [World.size_alloc] at b1
    have hb : w1.heap[w.heap.size]? = some (.cells #[.int .i64 0] 24 (0, 0)) := (b1.block _ (by omega)).trans (blk_new w _)
    obtain ⟨c0, cz, clt⟩ := one_cell hb
    have HB : Hid (Below w.heap.size w w1) := ((Below.refl _ _).alloc (Nat.le_refl _) _).trans (b1.mono (by omega))
    rw [if_neg f1] at HT
    have HN : Hid FN := HN
    clear hby b1 f1
    go_wp2
    refine leaves_cons (f := 31) (args := #[.pointer (some ⟨w.heap.size, 0, none⟩)]) (by simp) (by simp [go_sem]) ?_
    refine (ucatch_panicking ⟨w.heap.size, 0, none⟩ 0 cd [] _ c0 cz).mono ?_
    rintro e u' w'' ⟨rfl, rfl, rfl⟩
    have hset2 := one_set hb (.int .i64 cd)
    obtain ⟨x0, xz, xlt⟩ := one_cell hset2
    simp [Leaves, settle, results, Try.results15, go_sem, x0]
    rw [HT.out]
    exact ⟨rfl, HN.out, HB.out.setCell (p := ⟨w.heap.size, 0, none⟩) (Nat.le_refl _) _⟩

end Go.Proofs.Ytmfijackgekioaa
