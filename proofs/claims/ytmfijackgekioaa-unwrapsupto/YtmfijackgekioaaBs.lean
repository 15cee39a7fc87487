/-
  What the texts on unpacking want of the rest: lists of integers in memory, endings.
-/
import Derived.Test.YtmfijackgekioaaKp
import Derived.BigQuiet
import Derived.Deep.QuietTactic
import Derived.Laws.CopyOwn
namespace Go.Proofs.Ytmfijackgekioaa
open Go.RowKit

theorem ret_int {k : IntKind} {a b : Int} (h : a = b) : Ending.returned (.int k a) = .returned (.int k b) := by rw [h]
theorem ret_bool {a b : Bool} (h : a = b) : Ending.returned (.bool a) = .returned (.bool b) := by rw [h]

/-- A list of integers in memory, at an address that is known where there is an element. -/
def Ints (w : World) (ao : Option Addr) (zs : List Int) : Prop :=
  ∀ j, (h : j < zs.length) → ∃ b off, ao = some ⟨b, off, none⟩ ∧ w.cell? ⟨b, off + j, none⟩ = some (.int .i64 zs[j])

theorem ne_of_lt {α : Type} {zs : List α} {k : Nat} (h : k < zs.length) : zs ≠ [] := by intro e; rw [e] at h; exact absurd h (Nat.not_lt_zero _)

theorem Ints.below {w w' : World} {ao : Option Addr} {zs : List Int} {B : Nat} (h : Ints w ao zs) (hb : Below B w w') (ha : ∀ a, ao = some a → zs ≠ [] → a.block < B) : Ints w' ao zs := by
  intro j hj
  obtain ⟨b, off, e, hc⟩ := h j hj
  exact ⟨b, off, e, (hb.cell (p := ⟨b, off + j, none⟩) (ha ⟨b, off, none⟩ e (ne_of_lt hj))).trans hc⟩

theorem own_slice {w : World} {base e n : Nat} {v : Value} {xs : List Value} (h : w.ownsRow base e 1 v n xs) :
    ∃ ao cap, v = .slice ao n cap := by
  rcases h.2 with ⟨rfl, rfl⟩ | ⟨g, cap, cur, rfl, hb, hg, hnc, hcm, hcs, htake⟩
  · exact ⟨_, _, rfl⟩
  · exact ⟨_, _, rfl⟩

theorem Try.info3 : (Try.prog.info? 3).map (fun i => (i.zero, i.size, i.bytes)) = some (some (.int .i64 0), 1, 8) := by kernel_rfl

abbrev vals (zs : List Int) : List Value := zs.map (Value.int .i64)

end Go.Proofs.Ytmfijackgekioaa
