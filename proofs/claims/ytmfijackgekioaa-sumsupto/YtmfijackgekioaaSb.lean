import Derived.Test.YtmfijackgekioaaSa
import Derived.Laws.BitsAllLaws
namespace Go.Proofs.Ytmfijackgekioaa
open Go.RowKit

theorem stp_walk (x : Nat) (h : x < 4294967296) : bits .xor .u32 ((x : Int) / 2) (3988292384 * bits .and .u32 (x : Int) 1 % 4294967296) = ((Mx.stp x : Nat) : Int) := by
  have e1 : bits .and .u32 (x : Int) 1 = ((x % 2 : Nat) : Int) := by
    have := u32_and_nat x 1 h (by omega)
    rw [Nat.and_one_is_mod] at this
    exact this
  rw [e1]
  have e2 : (3988292384 * ((x % 2 : Nat) : Int) % 4294967296) = ((3988292384 * (x % 2) : Nat) : Int) := by omega
  have e3 : ((x : Int) / 2) = ((x / 2 : Nat) : Int) := by omega
  rw [e2, e3, u32_xor_nat _ _ (by omega) (by omega)]
  rfl

theorem not_walk (x : Nat) (h : x < 4294967296) : bits .xor .u32 IntKind.u32.max (x : Int) = 4294967295 - (x : Int) := by
  have e : IntKind.u32.max = ((4294967295 : Nat) : Int) := by decide
  rw [e, u32_xor_nat _ _ (by omega) h]
  have h2 : 4294967295 ^^^ x = 4294967295 - x := by
    apply Nat.eq_of_testBit_eq
    intro i
    have a := Nat.testBit_two_pow_sub_one 32 i
    have b := Nat.testBit_two_pow_sub_succ (n := 32) (x := x) (by omega) i
    rw [show 2 ^ 32 - 1 = 4294967295 from rfl] at a
    rw [show 2 ^ 32 - (x + 1) = 4294967295 - x by omega] at b
    rw [Nat.testBit_xor, a, b]
    by_cases hi : i < 32
    · simp [hi]
    · have : x.testBit i = false := Nat.testBit_lt_two_pow (Nat.lt_of_lt_of_le (m := 2 ^ 32) (by omega) (Nat.pow_le_pow_right (by omega) (by omega)))
      simp [hi, this]
  rw [h2]
  omega

set_option maxRecDepth 100000 in
set_option maxHeartbeats 400000 in
theorem crc8 (s : ByteArray) (w : World) (hs : s.size ≤ maxLen) :
    Calls Try.prog 17 #[.string s] w fun e w' => e = .returned (.int .i64 (4294967295 - (Mx.crcR s.data.toList : Int))) ∧ w' = w := by
  unfold maxLen at hs
  go_enter Try.func17, Try.ntmps17
  go_wp2
  go_loop [3, 8] (fun x i => ∃ k : Nat, k ≤ s.size ∧ i = .int .i64 k ∧ x = .int .u32 (Mx.crcR (s.data.toList.take k) : Nat)) (fun _ i => s.size - (intOf i).toNat)
  case atStart => exact ⟨0, Nat.zero_le _, rfl, rfl⟩
  case round =>
    obtain ⟨k, hk, rfl, rfl⟩ := hrel
    have hr := Mx.crcR_lt (s.data.toList.take k)
    by_cases hlt : k < s.size
    · have HS : Hid (Mx.crcR (s.data.toList.take (k + 1)) = Mx.stps 8 (Mx.crcR (s.data.toList.take k) ^^^ s[k].toNat)) := by rw [Mx.take_snoc s k hlt]; exact Mx.crcR_snoc _ _
      have hc : (s[k].toNat : Int) < 256 := by have := s[k].toNat_lt; omega
      have e1 : bits .xor .u32 (Mx.crcR (s.data.toList.take k) : Int) (s[k].toNat : Int) = ((Mx.crcR (s.data.toList.take k) ^^^ s[k].toNat : Nat) : Int) := u32_xor_nat _ _ hr (by omega)
      have hq0 := Mx.xor_lt _ s[k].toNat hr (by omega)
      generalize Mx.crcR (s.data.toList.take k) ^^^ s[k].toNat = q at *
      go_wp2
      go_loop [3, 17] (fun x i => ∃ t : Nat, t ≤ 8 ∧ i = .int .i64 t ∧ x = .int .u32 (Mx.stps t q : Nat)) (fun _ i => 8 - (intOf i).toNat)
      case atStart => exact ⟨0, Nat.zero_le _, rfl, rfl⟩
      case round =>
        obtain ⟨t, ht, rfl, rfl⟩ := hrel
        have hq := Mx.stps_lt t q hq0
        by_cases hlt' : t < 8
        · go_wp2
          go_round
          case rel => exact ⟨t + 1, by omega, by go_num, by rw [stp_walk _ hq]; rfl⟩
          case measure => simp [intOf]; omega
        · have ht8 : t = 8 := by omega
          subst ht8
          go_wp2
          go_round
          case rel => exact ⟨k + 1, by omega, by go_num, by rw [HS.out]⟩
          case measure => simp [intOf]; omega
    · go_wp2
      go_ret
      refine ⟨ret_int ?_, rfl⟩
      rw [not_walk _ hr, List.take_of_length_le (by simp; omega)]
      rw [List.take_of_length_le (by simp; omega)] at hr
      exact IntWalk.wrap64_in _ (by omega)

set_option maxHeartbeats 400000 in
theorem crc4 (s : ByteArray) (w : World) (hs : s.size ≤ maxLen) :
    Calls Try.prog 7 #[.string s] w fun e w' => e = .returned (.int .i64 (4294967295 - (Mx.crcR s.data.toList : Int))) ∧ w' = w := by
  go_enter Try.func7, Try.ntmps7
  go_wp2_with (go_at_call 17; refine (crc8 s _ hs).mono ?_; rintro e w' ⟨rfl, rfl⟩)
  go_ret
  exact ⟨rfl, rfl⟩

end Go.Proofs.Ytmfijackgekioaa
