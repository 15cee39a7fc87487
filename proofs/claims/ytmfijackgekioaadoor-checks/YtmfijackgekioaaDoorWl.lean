import Derived.Test.YtmfijackgekioaaDoorWc
import Derived.Test.YtmfijackgekioaaDoorKp
namespace Go.Proofs.YtmfijackgekioaaDoor
open Go.RowKit

/-- A list of integers in memory, at an address that is known where there is an element. -/
def Ints (w : World) (ao : Option Addr) (zs : List Int) : Prop :=
  ∀ j, (h : j < zs.length) → ∃ b off, ao = some ⟨b, off, none⟩ ∧ w.cell? ⟨b, off + j, none⟩ = some (.int .i64 zs[j])

theorem ne_of_lt {α : Type} {zs : List α} {k : Nat} (h : k < zs.length) : zs ≠ [] := by intro e; rw [e] at h; exact absurd h (Nat.not_lt_zero _)

theorem Ints.below {w w' : World} {ao : Option Addr} {zs : List Int} {B : Nat} (h : Ints w ao zs) (hb : Below B w w') (ha : ∀ a, ao = some a → zs ≠ [] → a.block < B) : Ints w' ao zs := by
  intro j hj
  obtain ⟨b, off, e, hc⟩ := h j hj
  exact ⟨b, off, e, (hb.cell (p := ⟨b, off + j, none⟩) (ha ⟨b, off, none⟩ e (ne_of_lt hj))).trans hc⟩

set_option maxRecDepth 100000 in
set_option maxHeartbeats 400000 in
theorem allBelow51 (ao : Option Addr) (cap : Nat) (zs : List Int) (e : Int) (w : World) (hm : zs.length ≤ maxLen) (hi : Ints w ao zs) :
    Calls Tryd.prog 26 #[.slice ao zs.length cap, .int .i64 e] w fun x w' => x = .returned (.bool (Pm.allB zs e)) ∧ w' = w := by
  unfold maxLen at hm
  go_enter Tryd.func26, Tryd.ntmps26
  go_wp2
  go_loop [9] (fun i => ∃ k : Nat, k ≤ zs.length ∧ i = .int .i64 k ∧ Hid (Pm.allB (zs.take k) e = true)) (fun i => zs.length - (intOf i).toNat)
  case atStart => exact ⟨0, Nat.zero_le _, rfl, rfl⟩
  case round =>
    obtain ⟨k, hk, rfl, HA⟩ := hrel
    by_cases hlt : k < zs.length
    · obtain ⟨b, off, rfl, hc⟩ := hi k hlt
      obtain ⟨x, hx⟩ : ∃ x : Int, x = zs[k] := ⟨_, rfl⟩
      rw [← hx] at hc
      have HX : Hid (x = zs[k]) := hx
      clear hx hi
      by_cases h1 : x < 0
      · go_wp2
        go_ret
        exact ⟨ret_bool (Pm.allB_no zs k hlt e (by rw [← HX.out]; omega)).symm, rfl⟩
      · by_cases h2 : e ≤ x
        · go_wp2
          go_ret
          exact ⟨ret_bool (Pm.allB_no zs k hlt e (by rw [← HX.out]; omega)).symm, rfl⟩
        · go_wp2
          go_round
          case rel => exact ⟨k + 1, by omega, by go_num, by show _ = _; rw [Pm.allB_snoc zs k hlt, HA.out, ← HX.out]; simp; omega⟩
          case measure => simp [intOf]; omega
    · go_wp2
      go_ret
      refine ⟨ret_bool ?_, rfl⟩
      have h := HA.out
      rw [List.take_of_length_le (by omega)] at h
      exact h.symm

end Go.Proofs.YtmfijackgekioaaDoor
