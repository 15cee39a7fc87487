import Derived.Test.YtmfijackgekioaaGreatDoorQKpBs2
import Derived.Test.YtmfijackgekioaaGreatDoorQSmRo4
import Derived.Laws.BitsAllLaws

namespace Go.Proofs.YtmfijackgekioaaGreatDoor
open Go.RowKit

theorem stp_walk (x : Nat) (h : x < 4294967296) : bits .xor .u32 ((x : Int) / 2) (3988292384 * bits .and .u32 (x : Int) 1 % 4294967296) = ((Mx.stp x : Nat) : Int) := by
  have e1 : bits .and .u32 (x : Int) 1 = ((x % 2 : Nat) : Int) := by
    have := u32_and_nat x 1 h (by omega)
    rw [Nat.and_one_is_mod] at this
    exact this
  rw [e1]
  have e2 : (3988292384 * ((x % 2 : Nat) : Int) % 4294967296) = ((3988292384 * (x % 2) : Nat) : Int) := by omega
  have e3 : ((x : Int) / 2) = ((x / 2 : Nat) : Int) := by omega
  rw [e2, e3, u32_xor_nat _ _ (by omega) (by omega)]
  rfl

theorem not_walk (x : Nat) (h : x < 4294967296) : bits .xor .u32 IntKind.u32.max (x : Int) = 4294967295 - (x : Int) := by
  have e : IntKind.u32.max = ((4294967295 : Nat) : Int) := by decide
  rw [e, u32_xor_nat _ _ (by omega) h]
  have h2 : 4294967295 ^^^ x = 4294967295 - x := by
    apply Nat.eq_of_testBit_eq
    intro i
    have a := Nat.testBit_two_pow_sub_one 32 i
    have b := Nat.testBit_two_pow_sub_succ (n := 32) (x := x) (by omega) i
    rw [show 2 ^ 32 - 1 = 4294967295 from rfl] at a
    rw [show 2 ^ 32 - (x + 1) = 4294967295 - x by omega] at b
    rw [Nat.testBit_xor, a, b]
    by_cases hi : i < 32
    · simp [hi]
    · have : x.testBit i = false := Nat.testBit_lt_two_pow (Nat.lt_of_lt_of_le (m := 2 ^ 32) (by omega) (Nat.pow_le_pow_right (by omega) (by omega)))
      simp [hi, this]
  rw [h2]
  omega

set_option maxRecDepth 100000 in
set_option maxHeartbeats 400000 in
theorem crc8 (s : ByteArray) (w : World) (hs : s.size ≤ maxLen) :
    Calls Tryz.prog 106 #[.string s] w fun e w' => e = .returned (.int .i64 (4294967295 - (Mx.crcR s.data.toList : Int))) ∧ w' = w := by
  unfold maxLen at hs
  go_enter Tryz.func106, Tryz.ntmps106
  go_wp2
  go_loop [3, 8] (fun x i => ∃ k : Nat, k ≤ s.size ∧ i = .int .i64 k ∧ x = .int .u32 (Mx.crcR (s.data.toList.take k) : Nat)) (fun _ i => s.size - (intOf i).toNat)
  case atStart => exact ⟨0, Nat.zero_le _, rfl, rfl⟩
  case round =>
    obtain ⟨k, hk, rfl, rfl⟩ := hrel
    have hr := Mx.crcR_lt (s.data.toList.take k)
    by_cases hlt : k < s.size
    · have HS : Hid (Mx.crcR (s.data.toList.take (k + 1)) = Mx.stps 8 (Mx.crcR (s.data.toList.take k) ^^^ s[k].toNat)) := by rw [Mx.take_snoc s k hlt]; exact Mx.crcR_snoc _ _
      have hc : (s[k].toNat : Int) < 256 := by have := s[k].toNat_lt; omega
      have e1 : bits .xor .u32 (Mx.crcR (s.data.toList.take k) : Int) (s[k].toNat : Int) = ((Mx.crcR (s.data.toList.take k) ^^^ s[k].toNat : Nat) : Int) := u32_xor_nat _ _ hr (by omega)
      have hq0 := Mx.xor_lt _ s[k].toNat hr (by omega)
      generalize Mx.crcR (s.data.toList.take k) ^^^ s[k].toNat = q at *
      go_wp2
      go_loop [3, 17] (fun x i => ∃ t : Nat, t ≤ 8 ∧ i = .int .i64 t ∧ x = .int .u32 (Mx.stps t q : Nat)) (fun _ i => 8 - (intOf i).toNat)
      case atStart => exact ⟨0, Nat.zero_le _, rfl, rfl⟩
      case round =>
        obtain ⟨t, ht, rfl, rfl⟩ := hrel
        have hq := Mx.stps_lt t q hq0
        by_cases hlt' : t < 8
        · go_wp2
          go_round
          case rel => exact ⟨t + 1, by omega, by go_num, by rw [stp_walk _ hq]; rfl⟩
          case measure => simp [intOf]; omega
        · have ht8 : t = 8 := by omega
          subst ht8
          go_wp2
          go_round
          case rel => exact ⟨k + 1, by omega, by go_num, by rw [HS.out]⟩
          case measure => simp [intOf]; omega
    · go_wp2
      go_ret
      refine ⟨ret_int ?_, rfl⟩
      rw [not_walk _ hr, List.take_of_length_le (by simp; omega)]
      rw [List.take_of_length_le (by simp; omega)] at hr
      exact IntWalk.wrap64_in _ (by omega)

end Go.Proofs.YtmfijackgekioaaGreatDoor

namespace Go.Proofs.YtmfijackgekioaaGreatDoor
open Go.RowKit

theorem i64_and1S (n : Int) : bits .and .i64 n 1 = n % 2 := by
  have h1 : (BitVec.ofInt 64 1).toNat = 2 ^ 1 - 1 := by decide
  have key : (BitVec.ofInt 64 n &&& BitVec.ofInt 64 1).toNat = (n % ((2 ^ 64 : Nat) : Int)).toNat % 2 ^ 1 := by
    rw [BitVec.toNat_and, BitVec.toNat_ofInt, h1, Nat.and_two_pow_sub_one_eq_mod]
  show IntKind.i64.wrap ((BitVec.ofInt 64 n &&& BitVec.ofInt 64 1).toNat : Nat) = n % 2
  rw [key, IntKind.wrap_i64]
  omega
theorem and_oneS (a j : Nat) : bits .and .i64 ((a : Int) / 2 ^ j) 1 = ((a / 2 ^ j % 2 : Nat) : Int) := by
  rw [i64_and1S]
  simp

set_option maxRecDepth 100000 in
set_option maxHeartbeats 400000 in
theorem low10 (s : ByteArray) (w : World) (hs : s.size ≤ 5000000) :
    Calls Tryz.prog 77 #[.string s] w fun e w' => ∃ v, e = .returned v ∧ w'.ownsRow w.heap.size 3 1 v (8 * s.size) ((Mx.low s.data.toList).map (Value.int .i64)) ∧ Below w.heap.size w w' := by
  obtain ⟨i0, hi, hz0, hz1, hz2⟩ := info_parts Tryz.info3
  go_enter Tryz.func77, Tryz.ntmps77
  go_wp2
  go_loopw [3, 4] (fun v i wr => ∃ k : Nat, k ≤ s.size ∧ i = .int .i64 k ∧ wr.ownsRow w.heap.size 3 1 v (8 * k) ((Mx.low (s.data.toList.take k)).map (Value.int .i64)) ∧ Below w.heap.size w wr) (fun _ i _ => s.size - (intOf i).toNat)
  case atStart => exact ⟨0, Nat.zero_le _, rfl, World.ownsRow_nil _ _ _ _, Below.refl _ _⟩
  case round =>
    obtain ⟨k, hk, rfl, hown, hnx⟩ := hrel
    by_cases hlt : k < s.size
    · have hc : (s[k].toNat : Int) < 256 := by have := s[k].toNat_lt; omega
      go_wp2
      go_loopw [3, 5] (fun v i wr => ∃ j : Nat, j ≤ 8 ∧ i = .int .i64 j ∧ wr.ownsRow w.heap.size 3 1 v (8 * k + j) ((Mx.low (s.data.toList.take k) ++ Mx.some s[k] j).map (Value.int .i64)) ∧ Below w.heap.size w wr) (fun _ i _ => 8 - (intOf i).toNat)
      case atStart => exact ⟨0, Nat.zero_le _, rfl, by simpa [Mx.some] using hown, hnx⟩
      case round =>
        obtain ⟨j, hj, rfl, hown, hnx⟩ := hrel
        by_cases hlt' : j < 8
        · obtain ⟨x, hx⟩ : ∃ x : Int, x = ((s[k].toNat / 2 ^ j % 2 : Nat) : Int) := ⟨_, rfl⟩
          have hb : bits .and .i64 ((s[k].toNat : Int) / 2 ^ j) 1 = x := by rw [hx]; exact and_oneS _ _
          have HX : Hid (x = ((s[k].toNat / 2 ^ j % 2 : Nat) : Int)) := hx
          clear hx
          go_wp2_with (at_builtin; refine wpList_append_own _ rfl _ _ 24 rfl w.heap.size 3 i0 (.int .i64 0) 1 8 Tryz.underlying24 hi hz0 hz1 hz2 rfl (by decide) _ _ _ rfl (hown.alloc _) ⟨wr.heap.size, 0, none⟩ 1 1 [.int .i64 x] rfl rfl ?c1 ?c2 ?c3 ?c4 ?c5 ?_)
          case c1 => exact cell_one_new _ _ _
          case c2 => intro u hu; simp at hu; subst hu; rfl
          case c3 => unfold maxLen; omega
          case c4 => omega
          case c5 => have := hnx.size; simp; omega
          · intro v' w1 hown' hgrow _
            have R : w1.ownsRow w.heap.size 3 1 v' (8 * k + (j + 1)) ((Mx.low (s.data.toList.take k) ++ Mx.some s[k] (j + 1)).map (Value.int .i64)) ∧ Below w.heap.size w w1 := by
              refine ⟨?_, (hnx.alloc hnx.size _).grown hgrow (by have := hnx.size; simp; omega) (fun b hb => (hown.lt b hb).1)⟩
              rw [Mx.some_succ, ← HX.out]
              simpa [Nat.add_assoc] using hown'
            clear hown' hgrow hown hnx
            go_wp2
            go_roundw
            case rel => exact ⟨j + 1, by omega, by go_num, R.1, R.2⟩
            case measure => simp [intOf]; omega
        · have hj8 : j = 8 := by omega
          subst hj8
          go_wp2
          go_roundw
          case rel => exact ⟨k + 1, by omega, by go_num, by rw [Mx.take_snoc s k hlt, Mx.low_snoc]; exact hown, hnx⟩
          case measure => simp [intOf]; omega
    · have hk2 : k = s.size := by omega
      subst hk2
      go_wp2
      go_ret
      exact ⟨_, rfl, by rw [List.take_of_length_le (by simp)] at hown; exact hown, hnx⟩

end Go.Proofs.YtmfijackgekioaaGreatDoor
