/-
  Unwrapping: the parts beside the unpacking.
-/
import Derived.Test.YtnajndnhfpdolaaUz
import Derived.Test.YtnajndnhfpdolaaSm
namespace Go.Proofs.Ytnajndnhfpdolaa
open Go.RowKit

set_option maxHeartbeats 400000 in
theorem adlerR (s : ByteArray) (w : World) (hs : s.size ≤ maxLen) :
    Calls Try.prog 10 #[.string s] w fun e w' => e = .returned (.int .i64 (Mx.adler s.data.toList)) ∧ w' = w := by
  unfold maxLen at hs
  go_enter Try.func10, Try.ntmps10
  go_wp2
  go_loop [3, 4, 5] (fun x y i => ∃ k : Nat, k ≤ s.size ∧ i = .int .i64 k ∧ x = .int .i64 (Mx.adS (s.data.toList.take k)) ∧ y = .int .i64 (Mx.adT (s.data.toList.take k))) (fun _ _ i => s.size - (intOf i).toNat)
  case atStart => exact ⟨0, Nat.zero_le _, rfl, rfl, rfl⟩
  case round =>
    obtain ⟨k, hk, rfl, rfl, rfl⟩ := hrel
    have h1 := Mx.adS_range (s.data.toList.take k)
    have h2 := Mx.adT_range (s.data.toList.take k)
    by_cases hlt : k < s.size
    · have hc : (s[k].toNat : Int) < 256 := by have := s[k].toNat_lt; omega
      have HS : Hid (Mx.adS (s.data.toList.take (k + 1)) = (Mx.adS (s.data.toList.take k) + s[k].toNat) % 65521) := by rw [Mx.take_snoc s k hlt]; exact Mx.adS_snoc _ _
      have HT : Hid (Mx.adT (s.data.toList.take (k + 1)) = (Mx.adT (s.data.toList.take k) + (Mx.adS (s.data.toList.take k) + s[k].toNat) % 65521) % 65521) := by rw [Mx.take_snoc s k hlt]; exact Mx.adT_snoc _ _
      go_wp2
      go_round
      case rel => exact ⟨k + 1, by omega, by go_num, by rw [HS.out], by rw [HT.out]⟩
      case measure => simp [intOf]; omega
    · go_wp2
      go_ret
      exact ⟨ret_int (by rw [List.take_of_length_le (by simp; omega)]; rfl), rfl⟩

set_option maxHeartbeats 400000 in
theorem adlerP (s : ByteArray) (w : World) (hs : s.size ≤ maxLen) :
    Calls Try.prog 18 #[.string s] w fun e w' => e = .returned (.int .i64 (Mx.adler s.data.toList)) ∧ w' = w := by
  unfold maxLen at hs
  go_enter Try.func18, Try.ntmps18
  go_wp2
  go_loop [3, 4, 8] (fun x y i => ∃ k : Nat, k ≤ s.size ∧ i = .int .i64 k ∧ x = .int .i64 (Mx.adS (s.data.toList.take k)) ∧ y = .int .i64 (Mx.adT (s.data.toList.take k))) (fun _ _ i => s.size - (intOf i).toNat)
  case atStart => exact ⟨0, Nat.zero_le _, rfl, rfl, rfl⟩
  case round =>
    obtain ⟨k, hk, rfl, rfl, rfl⟩ := hrel
    have h1 := Mx.adS_range (s.data.toList.take k)
    have h2 := Mx.adT_range (s.data.toList.take k)
    by_cases hlt : k < s.size
    · have hc : (s[k].toNat : Int) < 256 := by have := s[k].toNat_lt; omega
      have HS : Hid (Mx.adS (s.data.toList.take (k + 1)) = (Mx.adS (s.data.toList.take k) + s[k].toNat) % 65521) := by rw [Mx.take_snoc s k hlt]; exact Mx.adS_snoc _ _
      have HT : Hid (Mx.adT (s.data.toList.take (k + 1)) = (Mx.adT (s.data.toList.take k) + (Mx.adS (s.data.toList.take k) + s[k].toNat) % 65521) % 65521) := by rw [Mx.take_snoc s k hlt]; exact Mx.adT_snoc _ _
      go_wp2
      go_round
      case rel => exact ⟨k + 1, by omega, by go_num, by rw [HS.out], by rw [HT.out]⟩
      case measure => simp [intOf]; omega
    · go_wp2
      go_ret
      exact ⟨ret_int (by rw [List.take_of_length_le (by simp; omega)]; rfl), rfl⟩

/-- The four bytes of a number, the high one first. -/
def four (a : Int) : List UInt8 := [UInt8.ofNat (a / 16777216 % 256).toNat, UInt8.ofNat (a / 65536 % 256).toNat, UInt8.ofNat (a / 256 % 256).toNat, UInt8.ofNat (a % 256).toNat]

set_option maxRecDepth 100000 in
set_option maxHeartbeats 1000000 in
theorem adlerBytesP (s : ByteArray) (w : World) (hs : s.size ≤ maxLen) :
    Calls Try.prog 54 #[.string s] w fun e w' => e = .returned (.string ⟨(four (Mx.adler s.data.toList)).toArray⟩) ∧ Below w.heap.size w w' := by
  have had := fun w => adlerP s w hs
  have h3 : Hid (0 ≤ Mx.adler s.data.toList ∧ Mx.adler s.data.toList < 4294967296) := by
    have h1 := Mx.adS_range s.data.toList
    have h2 := Mx.adT_range s.data.toList
    show _ ∧ _
    unfold Mx.adler; omega
  generalize Mx.adler s.data.toList = a at *
  go_enter Try.func54, Try.ntmps54
  go_wp2_with fail
  refine (had w).mono ?_
  rintro e w' ⟨rfl, rfl⟩
  have hcv : (convert 39 9 (.slice (some ⟨w'.heap.size, 0, none⟩) 4 4)).run Try.prog (w'.alloc (.cells #[.int .u8 (a / 16777216 % 256), .int .u8 (a / 65536 % 256), .int .u8 (a / 256 % 256), .int .u8 (a % 256)] 5)) =
      .ok (.string ⟨(four a).toArray⟩) (w'.alloc (.cells #[.int .u8 (a / 16777216 % 256), .int .u8 (a / 65536 % 256), .int .u8 (a / 256 % 256), .int .u8 (a % 256)] 5)) := by
    refine run_convert_bytes_back (P := Try.prog) _ 39 9 5 ⟨w'.heap.size, 0, none⟩ 4 (four a) Try.underlying39 Try.underlying5 Try.underlying9 (fun j hj => ?_)
    have hb := blk_new w' (.cells #[.int .u8 (a / 16777216 % 256), .int .u8 (a / 65536 % 256), .int .u8 (a / 256 % 256), .int .u8 (a % 256)] 5)
    rw [Addr.add_mid, Nat.zero_add]
    have h3 := h3.out
    have hj4 : j < 4 := hj
    have e8 : ∀ n : Int, 0 ≤ n → n < 256 → (((UInt8.ofNat n.toNat).toNat : Nat) : Int) = n := fun n h0 h1 => by rw [UInt8.toNat_ofNat']; omega
    match j, hj4, hj with
    | 0, _, hj => exact (cell_of_row _ _ _ _ _ _ hb).trans (congrArg some (congrArg (Value.int .u8) (e8 _ (by omega) (by omega)).symm))
    | 1, _, hj => exact (cell_of_row _ _ _ _ _ _ hb).trans (congrArg some (congrArg (Value.int .u8) (e8 _ (by omega) (by omega)).symm))
    | 2, _, hj => exact (cell_of_row _ _ _ _ _ _ hb).trans (congrArg some (congrArg (Value.int .u8) (e8 _ (by omega) (by omega)).symm))
    | 3, _, hj => exact (cell_of_row _ _ _ _ _ _ hb).trans (congrArg some (congrArg (Value.int .u8) (e8 _ (by omega) (by omega)).symm))
  go_wp2
  go_ret
  exact ⟨rfl, (Below.refl _ _).alloc (Nat.le_refl _) _⟩

theorem and15 (x : Nat) (h : x < 256) : bits .and .i64 (x : Int) 15 = ((x % 16 : Nat) : Int) := by
  have : ∀ x : Fin 256, bits .and .i64 ((x.val : Nat) : Int) 15 = ((x.val % 16 : Nat) : Int) := by decide +kernel
  exact this ⟨x, h⟩
theorem and32 (x : Nat) (h : x < 256) : (bits .and .i64 (x : Int) 32 = 0) ↔ x / 32 % 2 = 0 := by
  have : ∀ x : Fin 256, (bits .and .i64 ((x.val : Nat) : Int) 32 = 0) ↔ x.val / 32 % 2 = 0 := by decide +kernel
  exact this ⟨x, h⟩

/-- May these be the first two bytes? -/
def HeadOk (x y : Nat) : Prop := x % 16 = 8 ∧ x / 16 ≤ 7 ∧ y / 32 % 2 = 0 ∧ (256 * x + y) % 31 = 0
instance (x y : Nat) : Decidable (HeadOk x y) := by unfold HeadOk; infer_instance

set_option maxHeartbeats 1000000 in
theorem headP (x y : Nat) (w : World) (hx : x < 256) (hy : y < 256) :
    Calls Try.prog 53 #[.int .i64 x, .int .i64 y] w fun e w' => e = .returned (.bool (decide (HeadOk x y))) ∧ w' = w := by
  have h15 : Hid (bits .and .i64 (x : Int) 15 = ((x % 16 : Nat) : Int)) := and15 x hx
  have h32 : Hid ((bits .and .i64 (y : Int) 32 = 0) ↔ y / 32 % 2 = 0) := and32 y hy
  obtain ⟨d, hd⟩ : ∃ d, decide (HeadOk x y) = d := ⟨_, rfl⟩
  have HD : Hid (decide (HeadOk x y) = d) := hd
  rw [hd]
  clear hd
  go_enter Try.func53, Try.ntmps53
  go_wp2
  all_goals
    go_ret
    refine ⟨ret_bool ?_, rfl⟩
    have h15 := h15.out
    have h32 := h32.out
    rw [← HD.out, Bool.eq_iff_iff]
    rw [decide_eq_true_iff]
    unfold HeadOk
    simp only [beq_iff_eq, Bool.false_eq_true, false_iff]
    omega

end Go.Proofs.Ytnajndnhfpdolaa
