import Derived.Test.YtmfijackgekioaaQ16
import Derived.Test.YtmfijackgekioaaQ02

/-
  A block of kind 0, by the program.
-/
namespace Go.Proofs.Ytmfijackgekioaa
open Go.RowKit

/-- What a call answers that met an error. -/
def code (st : Rf.St) : Int := if st.full = true then 7 else 6
/-- How the program ends where the document's state is F. -/
def Ends (s : ByteArray) (R : Nat) (limit : Int) (w : World) (F : Rf.St) (e : Ending) (w' : World) : Prop :=
  (F.bad = false ∧ F.full = false ∧ e = .returned (.tuple #[]) ∧ (∃ ov', Pg w' s R limit F ov') ∧ FrP R w w') ∨ ((F.bad || F.full) = true ∧ e = dies (code F) ∧ Below R w w')
theorem code_bad {F : Rf.St} (h : F.full = false) : code F = 6 := by unfold code; rw [h]; rfl
theorem ends_bad {s : ByteArray} {R : Nat} {limit : Int} {w w' : World} {F : Rf.St} (h1 : F.bad = true) (h2 : F.full = false) (h : Below R w w') : Ends s R limit w F (dies 6) w' := .inr ⟨by rw [h1]; rfl, by rw [code_bad h2], h⟩

abbrev sinkC (R : Nat) : Array Value := #[needV R, putV R, againV R]
abbrev sinkV (R : Nat) : Value := .agg (sinkC R)

theorem bv_mod (s : ByteArray) (q k : Nat) (hk : k ≤ 8) : Rf.bv (lw s) (8 * q) k = (((s.data.toList.getD q 0).toNat % 2 ^ k : Nat) : Int) := by
  induction k with
  | zero => simp [Rf.bv, Nat.mod_one]
  | succ k ih =>
    have e : (lw s).getD (8 * q + k) 0 = (((s.data.toList.getD q 0).toNat / 2 ^ k % 2 : Nat) : Int) := by
      have h := low_at s.data.toList (8 * q + k)
      rw [show (8 * q + k) / 8 = q by omega, show (8 * q + k) % 8 = k by omega] at h
      exact h
    rw [Rf.bv, ih (by omega), e, Nat.mod_pow_succ]
    simp only [Int.natCast_add, Int.natCast_mul, Int.natCast_pow]
    rw [Int.mul_comm]
    rfl
theorem bv_byte (s : ByteArray) (q : Nat) : Rf.bv (lw s) (8 * q) 8 = ((s.data.toList.getD q 0).toNat : Int) := by
  rw [bv_mod s q 8 (by omega), Nat.mod_eq_of_lt]
  have := (s.data.toList.getD q 0).toNat_lt
  omega
theorem ofNat_byte (c : UInt8) : UInt8.ofNat ((c.toNat : Int)).toNat = c := by simp

theorem plF_all (s : ByteArray) : ∀ (n q : Nat) (st : Rf.St), st.pos = 8 * q → st.bad = false → q + n ≤ s.size →
    Rf.plF (lw s) n st = { st with pos := 8 * (q + n), out := st.out ++ (s.data.toList.drop q).take n }
  | 0, q, st, hp, _, _ => by
    rw [Rf.plF]
    cases st
    simp_all
  | n + 1, q, st, hp, hb, h => by
    have e : Rf.take (lw s) st 8 = (((s.data.toList.getD q 0).toNat : Int), { st with pos := 8 * (q + 1) }) := by
      rw [Rf.take, if_neg (by rw [lw_length]; omega), hp, bv_byte]
      simp only [show 8 * q + 8 = 8 * (q + 1) by omega]
    rw [Rf.plF, if_neg (by rw [hb]; decide), e]
    simp only [ofNat_byte]
    have ih := plF_all s n (q + 1) { st with pos := 8 * (q + 1), out := st.out ++ [s.data.toList.getD q 0] } rfl hb (by omega)
    rw [ih]
    have hl : q < s.data.toList.length := by simp; omega
    have e2 : (s.data.toList.drop q).take (n + 1) = s.data.toList.getD q 0 :: (s.data.toList.drop (q + 1)).take n := by
      rw [List.drop_eq_getElem_cons hl, List.take_succ_cons]
      simp [List.getD, List.getElem?_eq_getElem hl]
    simp only [e2, List.append_assoc, List.singleton_append, show q + 1 + n = q + (n + 1) by omega]
theorem plF_bad (L : List Int) : ∀ (n : Nat) (st : Rf.St), st.bad = true → Rf.plF L n st = st
  | 0, _, _ => rfl
  | n + 1, st, h => by rw [Rf.plF, if_pos h]
theorem plF_short (s : ByteArray) : ∀ (n q : Nat) (st : Rf.St), st.pos = 8 * q → q ≤ s.size → s.size < q + n → (Rf.plF (lw s) n st).bad = true ∧ (Rf.plF (lw s) n st).full = st.full
  | 0, q, st, _, h1, h2 => by omega
  | n + 1, q, st, hp, h1, h2 => by
    rw [Rf.plF]
    split
    · rename_i h; exact ⟨h, rfl⟩
    · by_cases hq : q < s.size
      · have e : Rf.take (lw s) st 8 = (((s.data.toList.getD q 0).toNat : Int), { st with pos := 8 * (q + 1) }) := by
          rw [Rf.take, if_neg (by rw [lw_length]; omega), hp, bv_byte]
          simp only [show 8 * q + 8 = 8 * (q + 1) by omega]
        rw [e]
        exact plF_short s n (q + 1) _ rfl (by omega) (by omega)
      · have e : Rf.take (lw s) st 8 = (0, { st with bad := true }) := by rw [Rf.take, if_pos (by rw [lw_length]; omega)]
        rw [e]
        simp only
        rw [plF_bad _ _ _ rfl]
        exact ⟨rfl, rfl⟩

theorem i64_xor_16 (n : Nat) (h : n < 65536) : bits .xor .i64 (n : Int) 65535 = ((65535 - n : Nat) : Int) := by
  have hx : n ^^^ 65535 = 65535 - n := by
    apply Nat.eq_of_testBit_eq
    intro i
    rw [Nat.testBit_xor, show (65535 : Nat) = 2 ^ 16 - 1 from rfl, Nat.testBit_two_pow_sub_one, show 2 ^ 16 - 1 - n = 2 ^ 16 - (n + 1) by omega, Nat.testBit_two_pow_sub_succ (by omega)]
    by_cases hi : i < 16
    · simp [hi]
    · rw [Nat.testBit_lt_two_pow (x := n) (i := i) (Nat.lt_of_lt_of_le h (by show 2 ^ 16 ≤ _; exact Nat.pow_le_pow_right (by omega) (by omega)))]
      simp [hi]
  have key : (BitVec.ofInt 64 (n : Int) ^^^ BitVec.ofInt 64 65535).toNat = 65535 - n := by
    rw [BitVec.toNat_xor, BitVec.toNat_ofInt, BitVec.toNat_ofInt]
    have t1 : ((n : Int) % ((2 ^ 64 : Nat) : Int)).toNat = n := by omega
    have t2 : ((65535 : Int) % ((2 ^ 64 : Nat) : Int)).toNat = 65535 := by omega
    rw [t1, t2, hx]
  show IntKind.i64.wrap ((BitVec.ofInt 64 (n : Int) ^^^ BitVec.ofInt 64 65535).toNat : Nat) = _
  rw [key, IntKind.wrap_i64]
  omega

theorem plain_eq (L : List Int) (limit : Int) (st : Rf.St) : Rf.plain L limit st =
    if (if (Rf.take L { st with pos := (st.pos + 7) / 8 * 8 } 16).1 + (Rf.take L (Rf.take L { st with pos := (st.pos + 7) / 8 * 8 } 16).2 16).1 = 65535 then (Rf.take L (Rf.take L { st with pos := (st.pos + 7) / 8 * 8 } 16).2 16).2 else { (Rf.take L (Rf.take L { st with pos := (st.pos + 7) / 8 * 8 } 16).2 16).2 with bad := true }).bad = true
    then (if (Rf.take L { st with pos := (st.pos + 7) / 8 * 8 } 16).1 + (Rf.take L (Rf.take L { st with pos := (st.pos + 7) / 8 * 8 } 16).2 16).1 = 65535 then (Rf.take L (Rf.take L { st with pos := (st.pos + 7) / 8 * 8 } 16).2 16).2 else { (Rf.take L (Rf.take L { st with pos := (st.pos + 7) / 8 * 8 } 16).2 16).2 with bad := true })
    else (if (Rf.room limit (if (Rf.take L { st with pos := (st.pos + 7) / 8 * 8 } 16).1 + (Rf.take L (Rf.take L { st with pos := (st.pos + 7) / 8 * 8 } 16).2 16).1 = 65535 then (Rf.take L (Rf.take L { st with pos := (st.pos + 7) / 8 * 8 } 16).2 16).2 else { (Rf.take L (Rf.take L { st with pos := (st.pos + 7) / 8 * 8 } 16).2 16).2 with bad := true }) (Rf.take L { st with pos := (st.pos + 7) / 8 * 8 } 16).1.toNat).1 = true
      then Rf.plF L (Rf.take L { st with pos := (st.pos + 7) / 8 * 8 } 16).1.toNat (Rf.room limit (if (Rf.take L { st with pos := (st.pos + 7) / 8 * 8 } 16).1 + (Rf.take L (Rf.take L { st with pos := (st.pos + 7) / 8 * 8 } 16).2 16).1 = 65535 then (Rf.take L (Rf.take L { st with pos := (st.pos + 7) / 8 * 8 } 16).2 16).2 else { (Rf.take L (Rf.take L { st with pos := (st.pos + 7) / 8 * 8 } 16).2 16).2 with bad := true }) (Rf.take L { st with pos := (st.pos + 7) / 8 * 8 } 16).1.toNat).2
      else (Rf.room limit (if (Rf.take L { st with pos := (st.pos + 7) / 8 * 8 } 16).1 + (Rf.take L (Rf.take L { st with pos := (st.pos + 7) / 8 * 8 } 16).2 16).1 = 65535 then (Rf.take L (Rf.take L { st with pos := (st.pos + 7) / 8 * 8 } 16).2 16).2 else { (Rf.take L (Rf.take L { st with pos := (st.pos + 7) / 8 * 8 } 16).2 16).2 with bad := true }) (Rf.take L { st with pos := (st.pos + 7) / 8 * 8 } 16).1.toNat).2) := rfl
/-- With both numbers read. -/
theorem plain_two (L : List Int) (limit : Int) (st st2 st3 : Rf.St) (a b : Int) (h1 : Rf.take L { st with pos := (st.pos + 7) / 8 * 8 } 16 = (a, st2)) (h2 : Rf.take L st2 16 = (b, st3)) (hb : st3.bad = false) :
    Rf.plain L limit st = if a + b = 65535 then (if (Rf.room limit st3 a.toNat).1 = true then Rf.plF L a.toNat (Rf.room limit st3 a.toNat).2 else (Rf.room limit st3 a.toNat).2) else { st3 with bad := true } := by
  rw [plain_eq, h1, h2]
  by_cases h : a + b = 65535
  · simp only [if_pos h]
    rw [if_neg (by rw [hb]; decide)]
  · simp only [if_neg h, if_true]
/-- With one of the numbers missing. -/
theorem plain_miss (L : List Int) (limit : Int) (st : Rf.St) (hf : st.full = false) (h : (Rf.take L (Rf.take L { st with pos := (st.pos + 7) / 8 * 8 } 16).2 16).2.bad = true) : (Rf.plain L limit st).bad = true ∧ (Rf.plain L limit st).full = false := by
  have f1 := (Rf.take_out L { st with pos := (st.pos + 7) / 8 * 8 } 16).2.2
  have f2 := (Rf.take_out L (Rf.take L { st with pos := (st.pos + 7) / 8 * 8 } 16).2 16).2.2
  have e : ((if (Rf.take L { st with pos := (st.pos + 7) / 8 * 8 } 16).1 + (Rf.take L (Rf.take L { st with pos := (st.pos + 7) / 8 * 8 } 16).2 16).1 = 65535 then (Rf.take L (Rf.take L { st with pos := (st.pos + 7) / 8 * 8 } 16).2 16).2 else { (Rf.take L (Rf.take L { st with pos := (st.pos + 7) / 8 * 8 } 16).2 16).2 with bad := true })).bad = true := by
    split
    · exact h
    · rfl
  rw [plain_eq, if_pos e]
  refine ⟨e, ?_⟩
  split
  · rw [f2, f1]; exact hf
  · show (Rf.take L (Rf.take L { st with pos := (st.pos + 7) / 8 * 8 } 16).2 16).2.full = false
    rw [f2, f1]; exact hf

end Go.Proofs.Ytmfijackgekioaa
