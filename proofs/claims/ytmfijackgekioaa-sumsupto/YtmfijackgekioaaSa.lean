import Derived.Test.YtmfijackgekioaaRows
import Derived.Test.YtmfijackgekioaaSm
import Derived.WalkKit
import Derived.WalkSpells
import Derived.WalkLawsBesides
namespace Go.Proofs.Ytmfijackgekioaa
open Go.RowKit

theorem ret_int {k : IntKind} {a b : Int} (h : a = b) : Ending.returned (.int k a) = .returned (.int k b) := by rw [h]

set_option maxHeartbeats 400000 in
theorem adler7 (s : ByteArray) (w : World) (hs : s.size ≤ maxLen) :
    Calls Try.prog 10 #[.string s] w fun e w' => e = .returned (.int .i64 (Mx.adler s.data.toList)) ∧ w' = w := by
  unfold maxLen at hs
  go_enter Try.func10, Try.ntmps10
  go_wp2
  go_loop [3, 4, 5] (fun x y i => ∃ k : Nat, k ≤ s.size ∧ i = .int .i64 k ∧ x = .int .i64 (Mx.adS (s.data.toList.take k)) ∧ y = .int .i64 (Mx.adT (s.data.toList.take k))) (fun _ _ i => s.size - (intOf i).toNat)
  case atStart => exact ⟨0, Nat.zero_le _, rfl, rfl, rfl⟩
  case round =>
    obtain ⟨k, hk, rfl, rfl, rfl⟩ := hrel
    have h1 := Mx.adS_range (s.data.toList.take k)
    have h2 := Mx.adT_range (s.data.toList.take k)
    by_cases hlt : k < s.size
    · have hc : (s[k].toNat : Int) < 256 := by have := s[k].toNat_lt; omega
      have HS : Hid (Mx.adS (s.data.toList.take (k + 1)) = (Mx.adS (s.data.toList.take k) + s[k].toNat) % 65521) := by rw [Mx.take_snoc s k hlt]; exact Mx.adS_snoc _ _
      have HT : Hid (Mx.adT (s.data.toList.take (k + 1)) = (Mx.adT (s.data.toList.take k) + (Mx.adS (s.data.toList.take k) + s[k].toNat) % 65521) % 65521) := by rw [Mx.take_snoc s k hlt]; exact Mx.adT_snoc _ _
      go_wp2
      go_round
      case rel => exact ⟨k + 1, by omega, by go_num, by rw [HS.out], by rw [HT.out]⟩
      case measure => simp [intOf]; omega
    · go_wp2
      go_ret
      exact ⟨ret_int (by rw [List.take_of_length_le (by simp; omega)]; rfl), rfl⟩

set_option maxHeartbeats 400000 in
theorem adler9 (s : ByteArray) (w : World) (hs : s.size ≤ maxLen) :
    Calls Try.prog 18 #[.string s] w fun e w' => e = .returned (.int .i64 (Mx.adler s.data.toList)) ∧ w' = w := by
  unfold maxLen at hs
  go_enter Try.func18, Try.ntmps18
  go_wp2
  go_loop [3, 4, 8] (fun x y i => ∃ k : Nat, k ≤ s.size ∧ i = .int .i64 k ∧ x = .int .i64 (Mx.adS (s.data.toList.take k)) ∧ y = .int .i64 (Mx.adT (s.data.toList.take k))) (fun _ _ i => s.size - (intOf i).toNat)
  case atStart => exact ⟨0, Nat.zero_le _, rfl, rfl, rfl⟩
  case round =>
    obtain ⟨k, hk, rfl, rfl, rfl⟩ := hrel
    have h1 := Mx.adS_range (s.data.toList.take k)
    have h2 := Mx.adT_range (s.data.toList.take k)
    by_cases hlt : k < s.size
    · have hc : (s[k].toNat : Int) < 256 := by have := s[k].toNat_lt; omega
      have HS : Hid (Mx.adS (s.data.toList.take (k + 1)) = (Mx.adS (s.data.toList.take k) + s[k].toNat) % 65521) := by rw [Mx.take_snoc s k hlt]; exact Mx.adS_snoc _ _
      have HT : Hid (Mx.adT (s.data.toList.take (k + 1)) = (Mx.adT (s.data.toList.take k) + (Mx.adS (s.data.toList.take k) + s[k].toNat) % 65521) % 65521) := by rw [Mx.take_snoc s k hlt]; exact Mx.adT_snoc _ _
      go_wp2
      go_round
      case rel => exact ⟨k + 1, by omega, by go_num, by rw [HS.out], by rw [HT.out]⟩
      case measure => simp [intOf]; omega
    · go_wp2
      go_ret
      exact ⟨ret_int (by rw [List.take_of_length_le (by simp; omega)]; rfl), rfl⟩


set_option maxHeartbeats 400000 in
theorem adler5 (s : ByteArray) (w : World) (hs : s.size ≤ maxLen) :
    Calls Try.prog 8 #[.string s] w fun e w' => e = .returned (.int .i64 (Mx.adler s.data.toList)) ∧ w' = w := by
  go_enter Try.func8, Try.ntmps8
  go_wp2_with (go_at_call 18; refine (adler9 s _ hs).mono ?_; rintro e w' ⟨rfl, rfl⟩)
  go_ret
  exact ⟨rfl, rfl⟩

end Go.Proofs.Ytmfijackgekioaa
