/-
  The program's reader of bits.
-/
import Derived.Test.YtmfijackgekioaaBs
import Derived.Test.YtmfijackgekioaaRf
import Derived.Test.YtmfijackgekioaaSm
namespace Go.Proofs.Ytmfijackgekioaa
open Go.RowKit

/-- What a reader panics with. -/
abbrev dies (code : Int) : Ending := .panicked [{ v := .iface 52 (.int .i64 code), recovered := false }]

/-- The reader in memory. -/
def Rd (w : World) (R : Nat) (s : ByteArray) (pos : Nat) : Prop := w.heap[R]? = some (.cells #[.string s, .int .i64 pos] 56 (0, 0))

theorem Rd.cells {w : World} {R : Nat} {s : ByteArray} {pos : Nat} (h : Rd w R s pos) :
    w.cell? ⟨R, 0, none⟩ = some (.string s) ∧ w.cell? ⟨R, 1, none⟩ = some (.int .i64 pos) ∧ (∀ j, w.frozen? ⟨R, j, none⟩ = false) ∧ R < w.heap.size :=
  ⟨cell_of_row _ _ _ _ _ _ h, cell_of_row _ _ _ _ _ _ h, fun j => frozen_of_row w R j _ _ h, lt_of_block h⟩
theorem Rd.drewN {w : World} {R : Nat} {s : ByteArray} {pos : Nat} (h : Rd w R s pos) (n : Nat) : Rd (w.drewN n) R s pos := h
theorem Rd.set {w : World} {R : Nat} {s : ByteArray} {pos : Nat} (h : Rd w R s pos) (q : Nat) : Rd (w.setCell ⟨R, 1, none⟩ (.int .i64 q)) R s q :=
  (heap_setCell_same w R 1 _ _ _ h).trans rfl
theorem Rd.kept {w w' : World} {R : Nat} {s : ByteArray} {pos : Nat} {S : Nat → Prop} (h : Rd w R s pos) (k : Kp S w w') (hS : ¬ S R) : Rd w' R s pos := (k.block R (lt_of_block h) hS).trans h
theorem Kp.setR {R : Nat} {a w : World} (h : Kp (· = R) a w) (j : Nat) (u : Value) : Kp (· = R) a (w.setCell ⟨R, j, none⟩ u) := h.setCell (p := ⟨R, j, none⟩) (.inl rfl) u

/-- A bit of some bytes. -/
def bt (s : ByteArray) (j : Nat) : Int := (Mx.low s.data.toList).getD j 0

theorem some_at (c : UInt8) (j : Nat) (h : j < 8) : (Mx.some c 8).getD j 0 = ((c.toNat / 2 ^ j % 2 : Nat) : Int) := by
  simp [Mx.some, List.getD, h]
theorem low_at (l : List UInt8) (j : Nat) : (Mx.low l).getD j 0 = (((l.getD (j / 8) 0).toNat / 2 ^ (j % 8) % 2 : Nat) : Int) := by
  induction l generalizing j with
  | nil => simp [Mx.low, List.getD]
  | cons c l ih =>
    by_cases h : j < 8
    · have e : (Mx.low (c :: l)).getD j 0 = (Mx.some c 8).getD j 0 := by
        simp only [Mx.low, List.getD]
        rw [List.getElem?_append_left (by rw [Mx.some_length]; exact h)]
      rw [e, some_at c j h, show j / 8 = 0 by omega, show j % 8 = j by omega]
      rfl
    · have e : (Mx.low (c :: l)).getD j 0 = (Mx.low l).getD (j - 8) 0 := by
        simp only [Mx.low, List.getD]
        rw [List.getElem?_append_right (by rw [Mx.some_length]; omega), Mx.some_length]
      rw [e, ih, show (j - 8) / 8 = j / 8 - 1 by omega, show (j - 8) % 8 = j % 8 by omega]
      obtain ⟨q, hq⟩ : ∃ q, j / 8 = q + 1 := ⟨j / 8 - 1, by omega⟩
      rw [hq]
      rfl

theorem u8_and1 (n : Int) : bits .and .u8 n 1 = n % 2 := by
  have h1 : (BitVec.ofInt 8 1).toNat = 2 ^ 1 - 1 := by decide
  have key : (BitVec.ofInt 8 n &&& BitVec.ofInt 8 1).toNat = (n % ((2 ^ 8 : Nat) : Int)).toNat % 2 ^ 1 := by
    rw [BitVec.toNat_and, BitVec.toNat_ofInt, h1, Nat.and_two_pow_sub_one_eq_mod]
  show IntKind.u8.wrap ((BitVec.ofInt 8 n &&& BitVec.ofInt 8 1).toNat : Nat) = n % 2
  rw [key, IntKind.wrap_u8]
  omega
theorem bt_eq (s : ByteArray) (j : Nat) : bits .and .u8 (((s.data.toList.getD (j / 8) 0).toNat : Int) / 2 ^ (j % 8)) 1 = bt s j := by
  rw [u8_and1, bt, low_at]
  simp
theorem bt_range (s : ByteArray) (j : Nat) : 0 ≤ bt s j ∧ bt s j ≤ 1 := by
  rw [bt, low_at]; omega

theorem index_at (s : ByteArray) (pos : Nat) (h : pos / 8 < s.size) (w : World) :
    (Instr.index 9 (.string s) (.int .i64 ((pos : Int) / 8))).run Try.prog w = .ok (.int .u8 ((s.data.toList.getD (pos / 8) 0).toNat : Int)) w := by
  rw [run_index_string _ 9 s .i64 _ Try.underlying9, dif_pos (by omega)]
  have e : ((pos : Int) / 8).toNat = pos / 8 := by omega
  have e2 : s.data.toList.getD (pos / 8) 0 = s[pos / 8] := by
    have hl : pos / 8 < s.data.toList.length := by simpa using h
    rw [List.getD, List.getElem?_eq_getElem hl]
    rfl
  rw [e2]
  simp only [e]

set_option maxRecDepth 100000 in
set_option maxHeartbeats 1000000 in
theorem bit_no (s : ByteArray) (R pos : Nat) (w : World) (hr : Rd w R s pos) (hs : s.size ≤ 1048576) (hp : pos = 8 * s.size) :
    Calls Try.prog 62 #[.pointer (some ⟨R, 0, none⟩)] w fun e w' => e = dies 6 ∧ Kp (· = R) w w' := by
  obtain ⟨c0, c1, fz, hlt⟩ := hr.cells
  have h1 : (s.size : Int) ≤ (pos : Int) / 8 := by omega
  have h2 : (pos : Int) ≤ 8388608 := by omega
  clear hp
  go_enter Try.func62, Try.ntmps62
  go_wp2
  go_quiet (fail)
  go_wp2
  exact ⟨rfl, rfl, (Kp.refl (· = R) w).drewN _⟩

set_option maxRecDepth 100000 in
set_option maxHeartbeats 1000000 in
theorem bit_yes (s : ByteArray) (R pos : Nat) (w : World) (hr : Rd w R s pos) (hs : s.size ≤ 1048576) (hp : pos < 8 * s.size) :
    Calls Try.prog 62 #[.pointer (some ⟨R, 0, none⟩)] w fun e w' => e = .returned (.int .i64 (bt s pos)) ∧ Rd w' R s (pos + 1) ∧ Kp (· = R) w w' := by
  obtain ⟨c0, c1, fz, hlt⟩ := hr.cells
  have h1 : (pos : Int) / 8 < (s.size : Int) := by omega
  have h2 : (pos : Int) ≤ 8388608 := by omega
  have hix := index_at s pos (by omega)
  have hb := bt_eq s pos
  have hbr := bt_range s pos
  generalize bt s pos = x at *
  have hc : (s.data.toList.getD (pos / 8) 0).toNat < 256 := (s.data.toList.getD (pos / 8) 0).toNat_lt
  generalize (s.data.toList.getD (pos / 8) 0).toNat = c at *
  have wq : IntKind.i64.wrap ((pos : Int) / 8) = (pos : Int) / 8 := IntWalk.i64_in _ (by omega)
  go_enter Try.func62, Try.ntmps62
  go_wp2
  go_quiet (fail)
  go_wp2
  go_quiet (fail)
  go_wp2
  go_ret
  exact ⟨rfl, (hr.drewN _).set (pos + 1), ((Kp.refl (· = R) w).drewN _).setR _ _⟩

end Go.Proofs.Ytmfijackgekioaa
