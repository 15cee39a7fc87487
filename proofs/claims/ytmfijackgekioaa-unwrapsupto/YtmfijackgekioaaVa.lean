/-
  Unwrapping: the parts beside the unpacking.
-/
import Derived.Test.YtmfijackgekioaaUz
import Derived.Test.YtmfijackgekioaaSm
namespace Go.Proofs.Ytmfijackgekioaa
open Go.RowKit

set_option maxHeartbeats 400000 in
theorem adlerR (s : ByteArray) (w : World) (hs : s.size ≤ maxLen) :
    Calls Try.prog 10 #[.string s] w fun e w' => e = .returned (.int .i64 (Mx.adler s.data.toList)) ∧ w' = w := by
  unfold maxLen at hs
  go_enter Try.func10, Try.ntmps10
  go_wp2
  go_loop [3, 4, 5] (fun x y i => ∃ k : Nat, k ≤ s.size ∧ i = .int .i64 k ∧ x = .int .i64 (Mx.adS (s.data.toList.take k)) ∧ y = .int .i64 (Mx.adT (s.data.toList.take k))) (fun _ _ i => s.size - (intOf i).toNat)
  case atStart => exact ⟨0, Nat.zero_le _, rfl, rfl, rfl⟩
  case round =>
    obtain ⟨k, hk, rfl, rfl, rfl⟩ := hrel
    have h1 := Mx.adS_range (s.data.toList.take k)
    have h2 := Mx.adT_range (s.data.toList.take k)
    by_cases hlt : k < s.size
    · have hc : (s[k].toNat : Int) < 256 := by have := s[k].toNat_lt; omega
      have HS : Hid (Mx.adS (s.data.toList.take (k + 1)) = (Mx.adS (s.data.toList.take k) + s[k].toNat) % 65521) := by rw [Mx.take_snoc s k hlt]; exact Mx.adS_snoc _ _
      have HT : Hid (Mx.adT (s.data.toList.take (k + 1)) = (Mx.adT (s.data.toList.take k) + (Mx.adS (s.data.toList.take k) + s[k].toNat) % 65521) % 65521) := by rw [Mx.take_snoc s k hlt]; exact Mx.adT_snoc _ _
      go_wp2
      go_round
      case rel => exact ⟨k + 1, by omega, by go_num, by rw [HS.out], by rw [HT.out]⟩
      case measure => simp [intOf]; omega
    · go_wp2
      go_ret
      exact ⟨ret_int (by rw [List.take_of_length_le (by simp; omega)]; rfl), rfl⟩

set_option maxHeartbeats 400000 in
theorem adlerP (s : ByteArray) (w : World) (hs : s.size ≤ maxLen) :
    Calls Try.prog 18 #[.string s] w fun e w' => e = .returned (.int .i64 (Mx.adler s.data.toList)) ∧ w' = w := by
  unfold maxLen at hs
  go_enter Try.func18, Try.ntmps18
  go_wp2
  go_loop [3, 4, 8] (fun x y i => ∃ k : Nat, k ≤ s.size ∧ i = .int .i64 k ∧ x = .int .i64 (Mx.adS (s.data.toList.take k)) ∧ y = .int .i64 (Mx.adT (s.data.toList.take k))) (fun _ _ i => s.size - (intOf i).toNat)
  case atStart => exact ⟨0, Nat.zero_le _, rfl, rfl, rfl⟩
  case round =>
    obtain ⟨k, hk, rfl, rfl, rfl⟩ := hrel
    have h1 := Mx.adS_range (s.data.toList.take k)
    have h2 := Mx.adT_range (s.data.toList.take k)
    by_cases hlt : k < s.size
    · have hc : (s[k].toNat : Int) < 256 := by have := s[k].toNat_lt; omega
      have HS : Hid (Mx.adS (s.data.toList.take (k + 1)) = (Mx.adS (s.data.toList.take k) + s[k].toNat) % 65521) := by rw [Mx.take_snoc s k hlt]; exact Mx.adS_snoc _ _
      have HT : Hid (Mx.adT (s.data.toList.take (k + 1)) = (Mx.adT (s.data.toList.take k) + (Mx.adS (s.data.toList.take k) + s[k].toNat) % 65521) % 65521) := by rw [Mx.take_snoc s k hlt]; exact Mx.adT_snoc _ _
      go_wp2
      go_round
      case rel => exact ⟨k + 1, by omega, by go_num, by rw [HS.out], by rw [HT.out]⟩
      case measure => simp [intOf]; omega
    · go_wp2
      go_ret
      exact ⟨ret_int (by rw [List.take_of_length_le (by simp; omega)]; rfl), rfl⟩

/-- The four bytes of a number, the high one first. -/
def four (a : Int) : List UInt8 := [UInt8.ofNat (a / 16777216 % 256).toNat, UInt8.ofNat (a / 65536 % 256).toNat, UInt8.ofNat (a / 256 % 256).toNat, UInt8.ofNat (a % 256).toNat]

/-- The number that four bytes are, the high one first. -/
def fromF (T : List UInt8) : Int := (T.getD 0 0).toNat * 16777216 + (T.getD 1 0).toNat * 65536 + (T.getD 2 0).toNat * 256 + (T.getD 3 0).toNat

theorem fromF_four (T : List UInt8) (h : T.length = 4) (a : Int) (h0 : 0 ≤ a) (h1 : a < 4294967296) : fromF T = a ↔ T = four a := by
  have e8 : ∀ n : Int, 0 ≤ n → n < 256 → (((UInt8.ofNat n.toNat).toNat : Nat) : Int) = n := fun n h0 h1 => by rw [UInt8.toNat_ofNat']; omega
  match T, h with
  | [x, y, z, u], _ =>
    have hx := x.toNat_lt
    have hy := y.toNat_lt
    have hz := z.toNat_lt
    have hu := u.toNat_lt
    have ext : ∀ (p : UInt8) (n : Int), 0 ≤ n → n < 256 → ((p.toNat : Int) = n ↔ p = UInt8.ofNat n.toNat) := fun p n g0 g1 => by
      constructor
      · intro q
        apply UInt8.toNat_inj.mp
        have := e8 n g0 g1
        omega
      · intro q
        rw [q, e8 n g0 g1]
    have f0 := ext x (a / 16777216 % 256) (by omega) (by omega)
    have f1 := ext y (a / 65536 % 256) (by omega) (by omega)
    have f2 := ext z (a / 256 % 256) (by omega) (by omega)
    have f3 := ext u (a % 256) (by omega) (by omega)
    unfold fromF four
    simp only [List.getD_cons_zero, List.getD_cons_succ, List.cons.injEq, and_true]
    rw [← f0, ← f1, ← f2, ← f3]
    omega

theorem i64_or_low (x y k : Nat) (hk : k ≤ 24) (hx : x < 8589934592) (hy : y < 2 ^ k) (h : x % 2 ^ k = 0) : bits .or .i64 (x : Int) (y : Int) = ((x + y : Nat) : Int) := by
  have hp : (2 : Nat) ^ k ≤ 2 ^ 24 := Nat.pow_le_pow_right (by omega) hk
  obtain ⟨c, rfl⟩ : ∃ c, x = 2 ^ k * c := ⟨x / 2 ^ k, by have := Nat.div_add_mod x (2 ^ k); omega⟩
  have h1 := Nat.two_pow_add_eq_or_of_lt hy c
  have key : (BitVec.ofInt 64 ((2 ^ k * c : Nat) : Int) ||| BitVec.ofInt 64 (y : Int)).toNat = 2 ^ k * c + y := by
    rw [BitVec.toNat_or, BitVec.toNat_ofInt, BitVec.toNat_ofInt]
    have t1 : ((y : Int) % ((2 ^ 64 : Nat) : Int)).toNat = y := by omega
    have t2 : (((2 ^ k * c : Nat) : Int) % ((2 ^ 64 : Nat) : Int)).toNat = 2 ^ k * c := by omega
    rw [t1, t2, ← h1]
  show IntKind.i64.wrap ((BitVec.ofInt 64 ((2 ^ k * c : Nat) : Int) ||| BitVec.ofInt 64 (y : Int)).toNat : Nat) = _
  rw [key, IntKind.wrap_i64]
  omega

theorem i64_or_sum (X Y : Int) (x y k : Nat) (hk : k ≤ 24) (hx : x < 8589934592) (hy : y < 2 ^ k) (h : x % 2 ^ k = 0) (hX : X = (x : Int)) (hY : Y = (y : Int)) : bits .or .i64 X Y = X + Y := by
  rw [hX, hY, i64_or_low x y k hk hx hy h]
  omega

set_option maxRecDepth 100000 in
set_option maxHeartbeats 1000000 in
theorem fromFourP (T : ByteArray) (w : World) (h4 : T.size = 4) :
    Calls Try.prog 54 #[.string T] w fun e w' => e = .returned (.int .i64 (fromF T.data.toList)) ∧ ∃ m, w' = w.drewN m := by
  have gt : ∀ j (h : j < T.size), T[j].toNat = (T.data.toList.getD j 0).toNat := fun j h => by
    rw [List.getD_eq_getElem?_getD, List.getElem?_eq_getElem (by simpa using h)]
    rfl
  have g0 := gt 0 (by omega)
  have g1 := gt 1 (by omega)
  have g2 := gt 2 (by omega)
  have g3 := gt 3 (by omega)
  have b0 := (T.data.toList.getD 0 0).toNat_lt
  have b1 := (T.data.toList.getD 1 0).toNat_lt
  have b2 := (T.data.toList.getD 2 0).toNat_lt
  have b3 := (T.data.toList.getD 3 0).toNat_lt
  unfold fromF
  generalize (T.data.toList.getD 0 0).toNat = x at *
  generalize (T.data.toList.getD 1 0).toNat = y at *
  generalize (T.data.toList.getD 2 0).toNat = z at *
  generalize (T.data.toList.getD 3 0).toNat = u at *
  clear gt
  have o1 := i64_or_sum ((x : Int) * 16777216) ((y : Int) * 65536) (x * 16777216) (y * 65536) 24 (by omega) (by omega) (by omega) (by omega) (by omega) (by omega)
  have o2 := i64_or_sum ((x : Int) * 16777216 + (y : Int) * 65536) ((z : Int) * 256) (x * 16777216 + y * 65536) (z * 256) 16 (by omega) (by omega) (by omega) (by omega) (by omega) (by omega)
  have o3 := i64_or_sum ((x : Int) * 16777216 + (y : Int) * 65536 + (z : Int) * 256) (u : Int) (x * 16777216 + y * 65536 + z * 256) u 8 (by omega) (by omega) (by omega) (by omega) (by omega) rfl
  have O : Hid (_ ∧ _ ∧ _) := ⟨o1, o2, o3⟩
  clear o1 o2 o3
  go_enter Try.func54, Try.ntmps54
  go_wp2
  go_quiet (fail)
  go_wp2
  go_ret
  exact ⟨ret_int (by simp only [O.out.1, O.out.2.1, O.out.2.2]), ⟨_, rfl⟩⟩

theorem and15 (x : Nat) (h : x < 256) : bits .and .i64 (x : Int) 15 = ((x % 16 : Nat) : Int) := by
  have : ∀ x : Fin 256, bits .and .i64 ((x.val : Nat) : Int) 15 = ((x.val % 16 : Nat) : Int) := by decide +kernel
  exact this ⟨x, h⟩
theorem and32 (x : Nat) (h : x < 256) : (bits .and .i64 (x : Int) 32 = 0) ↔ x / 32 % 2 = 0 := by
  have : ∀ x : Fin 256, (bits .and .i64 ((x.val : Nat) : Int) 32 = 0) ↔ x.val / 32 % 2 = 0 := by decide +kernel
  exact this ⟨x, h⟩

/-- May these be the first two bytes? -/
def HeadOk (x y : Nat) : Prop := x % 16 = 8 ∧ x / 16 ≤ 7 ∧ y / 32 % 2 = 0 ∧ (256 * x + y) % 31 = 0
instance (x y : Nat) : Decidable (HeadOk x y) := by unfold HeadOk; infer_instance

set_option maxHeartbeats 1000000 in
theorem headP (x y : Nat) (w : World) (hx : x < 256) (hy : y < 256) :
    Calls Try.prog 53 #[.int .i64 x, .int .i64 y] w fun e w' => e = .returned (.bool (decide (HeadOk x y))) ∧ w' = w := by
  have h15 : Hid (bits .and .i64 (x : Int) 15 = ((x % 16 : Nat) : Int)) := and15 x hx
  have h32 : Hid ((bits .and .i64 (y : Int) 32 = 0) ↔ y / 32 % 2 = 0) := and32 y hy
  obtain ⟨d, hd⟩ : ∃ d, decide (HeadOk x y) = d := ⟨_, rfl⟩
  have HD : Hid (decide (HeadOk x y) = d) := hd
  rw [hd]
  clear hd
  go_enter Try.func53, Try.ntmps53
  go_wp2
  all_goals
    go_ret
    refine ⟨ret_bool ?_, rfl⟩
    have h15 := h15.out
    have h32 := h32.out
    rw [← HD.out, Bool.eq_iff_iff]
    rw [decide_eq_true_iff]
    unfold HeadOk
    simp only [beq_iff_eq, Bool.false_eq_true, false_iff]
    omega

end Go.Proofs.Ytmfijackgekioaa
