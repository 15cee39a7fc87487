import Derived.Test.YtmfijackgekioaaRt
import Derived.Test.YtmfijackgekioaaSm
namespace Go.Proofs.Ytmfijackgekioaa
open Go.RowKit

theorem i64_and1 (n : Int) : bits .and .i64 n 1 = n % 2 := by
  have h1 : (BitVec.ofInt 64 1).toNat = 2 ^ 1 - 1 := by decide
  have key : (BitVec.ofInt 64 n &&& BitVec.ofInt 64 1).toNat = (n % ((2 ^ 64 : Nat) : Int)).toNat % 2 ^ 1 := by
    rw [BitVec.toNat_and, BitVec.toNat_ofInt, h1, Nat.and_two_pow_sub_one_eq_mod]
  show IntKind.i64.wrap ((BitVec.ofInt 64 n &&& BitVec.ofInt 64 1).toNat : Nat) = n % 2
  rw [key, IntKind.wrap_i64]
  omega
theorem and_one (a j : Nat) : bits .and .i64 ((a : Int) / 2 ^ j) 1 = ((a / 2 ^ j % 2 : Nat) : Int) := by
  rw [i64_and1]
  simp

set_option maxRecDepth 100000 in
set_option maxHeartbeats 400000 in
theorem low21 (s : ByteArray) (w : World) (hs : s.size ≤ 1048576) :
    Calls Try.prog 19 #[.string s] w fun e w' => ∃ v, e = .returned v ∧ w'.ownsRow w.heap.size 3 1 v (8 * s.size) ((Mx.low s.data.toList).map (Value.int .i64)) ∧ Below w.heap.size w w' := by
  obtain ⟨i0, hi, hz0, hz1, hz2⟩ := info_parts Try.info3
  go_enter Try.func19, Try.ntmps19
  go_wp2
  go_loopw [3, 4] (fun v i wr => ∃ k : Nat, k ≤ s.size ∧ i = .int .i64 k ∧ wr.ownsRow w.heap.size 3 1 v (8 * k) ((Mx.low (s.data.toList.take k)).map (Value.int .i64)) ∧ Below w.heap.size w wr) (fun _ i _ => s.size - (intOf i).toNat)
  case atStart => exact ⟨0, Nat.zero_le _, rfl, World.ownsRow_nil _ _ _ _, Below.refl _ _⟩
  case round =>
    obtain ⟨k, hk, rfl, hown, hnx⟩ := hrel
    by_cases hlt : k < s.size
    · have hc : (s[k].toNat : Int) < 256 := by have := s[k].toNat_lt; omega
      go_wp2
      go_loopw [3, 5] (fun v i wr => ∃ j : Nat, j ≤ 8 ∧ i = .int .i64 j ∧ wr.ownsRow w.heap.size 3 1 v (8 * k + j) ((Mx.low (s.data.toList.take k) ++ Mx.some s[k] j).map (Value.int .i64)) ∧ Below w.heap.size w wr) (fun _ i _ => 8 - (intOf i).toNat)
      case atStart => exact ⟨0, Nat.zero_le _, rfl, by simpa [Mx.some] using hown, hnx⟩
      case round =>
        obtain ⟨j, hj, rfl, hown, hnx⟩ := hrel
        by_cases hlt' : j < 8
        · obtain ⟨x, hx⟩ : ∃ x : Int, x = ((s[k].toNat / 2 ^ j % 2 : Nat) : Int) := ⟨_, rfl⟩
          have hb : bits .and .i64 ((s[k].toNat : Int) / 2 ^ j) 1 = x := by rw [hx]; exact and_one _ _
          have HX : Hid (x = ((s[k].toNat / 2 ^ j % 2 : Nat) : Int)) := hx
          clear hx
          go_wp2_with (at_builtin; refine wpList_append_own _ rfl _ _ 27 rfl w.heap.size 3 i0 (.int .i64 0) 1 8 Try.underlying27 hi hz0 hz1 hz2 rfl (by decide) _ _ _ rfl (hown.alloc _) ⟨wr.heap.size, 0, none⟩ 1 1 [.int .i64 x] rfl rfl ?c1 ?c2 ?c3 ?c4 ?c5 ?_)
          case c1 => exact cell_one_new _ _ _
          case c2 => intro u hu; simp at hu; subst hu; rfl
          case c3 => unfold maxLen; omega
          case c4 => omega
          case c5 => have := hnx.size; simp; omega
          · intro v' w1 hown' hgrow _
            have R : w1.ownsRow w.heap.size 3 1 v' (8 * k + (j + 1)) ((Mx.low (s.data.toList.take k) ++ Mx.some s[k] (j + 1)).map (Value.int .i64)) ∧ Below w.heap.size w w1 := by
              refine ⟨?_, (hnx.alloc hnx.size _).grown hgrow (by have := hnx.size; simp; omega) (fun b hb => (hown.lt b hb).1)⟩
              rw [Mx.some_succ, ← HX.out]
              simpa [Nat.add_assoc] using hown'
            clear hown' hgrow hown hnx
            go_wp2
            go_roundw
            case rel => exact ⟨j + 1, by omega, by go_num, R.1, R.2⟩
            case measure => simp [intOf]; omega
        · have hj8 : j = 8 := by omega
          subst hj8
          go_wp2
          go_roundw
          case rel => exact ⟨k + 1, by omega, by go_num, by rw [Mx.take_snoc s k hlt, Mx.low_snoc]; exact hown, hnx⟩
          case measure => simp [intOf]; omega
    · have hk2 : k = s.size := by omega
      subst hk2
      go_wp2
      go_ret
      exact ⟨_, rfl, by rw [List.take_of_length_le (by simp)] at hown; exact hown, hnx⟩

end Go.Proofs.Ytmfijackgekioaa
