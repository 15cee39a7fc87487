/-
  The fixed distances: the program's 30 stand for the document's 32.
-/
import Derived.Test.YtmfijackgekioaaUw
namespace Go.Proofs.Ytmfijackgekioaa
open Go.RowKit

theorem fixD_at (j : Nat) : Rf.fixD.getD j 0 = if j < 32 then 5 else 0 := by rw [Rf.fixD, getD_map_range]
theorem fixP_at (j : Nat) : fixP.getD j 0 = if j < 30 then 5 else 0 := by rw [fixP, getD_map_range]
theorem fixD_code : ∀ j, j < 32 → (Rf.codes Rf.fixD).getD j 0 = ((j : Nat) : Int) := by decide +kernel
theorem fixP_code : ∀ j, j < 30 → (Rf.codes fixP).getD j 0 = ((j : Nat) : Int) := by decide +kernel
theorem fixD_len : Rf.fixD.length = 32 := by simp [Rf.fixD]
theorem fixP_len : fixP.length = 30 := by simp [fixP]
theorem fixD_none (n v : Int) (h : n ≠ 5) : Rf.find Rf.fixD (Rf.codes Rf.fixD) n v = none := by
  cases hf : Rf.find Rf.fixD (Rf.codes Rf.fixD) n v with
  | none => rfl
  | some i =>
    obtain ⟨h1, h2, _⟩ := Rf.find_some hf
    rw [fixD_len] at h1
    rw [fixD_at, if_pos h1] at h2
    exact absurd h2.symm h
theorem fixP_none (n v : Int) (h : n ≠ 5) : Rf.find fixP (Rf.codes fixP) n v = none := by
  cases hf : Rf.find fixP (Rf.codes fixP) n v with
  | none => rfl
  | some i =>
    obtain ⟨h1, h2, _⟩ := Rf.find_some hf
    rw [fixP_len] at h1
    rw [fixP_at, if_pos h1] at h2
    exact absurd h2.symm h
theorem fixD_find (v : Nat) (h : v < 32) : Rf.find Rf.fixD (Rf.codes Rf.fixD) 5 (v : Int) = some v := by
  have := Rf.find_of (ls := Rf.fixD) (n := 4) (j := v) (by omega) (by rw [fixD_len]; exact h) (by rw [fixD_at, if_pos h]; rfl)
  rw [fixD_code v h] at this
  exact this
theorem fixP_find (v : Nat) (h : v < 30) : Rf.find fixP (Rf.codes fixP) 5 (v : Int) = some v := by
  have := Rf.find_of (ls := fixP) (n := 4) (j := v) (by omega) (by rw [fixP_len]; exact h) (by rw [fixP_at, if_pos h]; rfl)
  rw [fixP_code v h] at this
  exact this
theorem fixP_over (v : Nat) (h : 30 ≤ v) : Rf.find fixP (Rf.codes fixP) 5 (v : Int) = none := by
  cases hf : Rf.find fixP (Rf.codes fixP) 5 (v : Int) with
  | none => rfl
  | some i =>
    obtain ⟨h1, _, h3⟩ := Rf.find_some hf
    rw [fixP_len] at h1
    rw [fixP_code i h1] at h3
    omega

def Rel (A B : Int × Rf.St) : Prop := (A.2.bad = false → A = B ∧ B.1 ≤ 29) ∧ (A.2.bad = true → B.2.bad = true ∨ 29 < B.1)
theorem fixed_rel {L : List Int} (hb : Rf.Bits L) : ∀ (m k : Nat) (v : Nat) (st : Rf.St), k + m = 4 → v < 2 ^ k →
    Rel (Rf.symF L fixP (Rf.codes fixP) (15 - k) k v st) (Rf.symF L Rf.fixD (Rf.codes Rf.fixD) (15 - k) k v st)
  | m, k, v, st, hk, hv => by
    have h01 := Rf.take_one hb st
    rw [show 15 - k = (14 - k) + 1 by omega, Rf.symF, Rf.symF]
    obtain ⟨t, ht⟩ : ∃ t : Nat, (Rf.take L st 1).1 = (t : Int) := ⟨(Rf.take L st 1).1.toNat, by omega⟩
    have ht1 : t ≤ 1 := by omega
    by_cases hbad : (Rf.take L st 1).2.bad = true
    · rw [if_pos hbad, if_pos hbad]
      exact ⟨fun h => by (simp only at h; rw [hbad] at h; cases h), fun _ => .inl hbad⟩
    · rw [if_neg hbad, if_neg hbad, ht]
      have hbf : (Rf.take L st 1).2.bad = false := by cases h : (Rf.take L st 1).2.bad <;> simp_all
      have ev : 2 * ((v : Nat) : Int) + (t : Int) = ((2 * v + t : Nat) : Int) := by omega
      rw [ev]
      match m, hk with
      | 0, hk =>
        have hk4 : k = 4 := by omega
        subst hk4
        have hv32 : 2 * v + t < 32 := by have : v < 16 := hv; omega
        rw [show ((4 : Nat) : Int) + 1 = 5 from rfl, fixD_find _ hv32]
        by_cases h30 : 2 * v + t < 30
        · rw [fixP_find _ h30]
          exact ⟨fun _ => ⟨rfl, by simp only; omega⟩, fun h => by simp only at h; rw [hbf] at h; cases h⟩
        · rw [fixP_over _ (by omega)]
          have hn := Rf.symF_none L fixP (Rf.codes fixP) 5 (fun j hj => by rw [fixP_at]; split <;> omega) (14 - 4) (4 + 1) ((2 * v + t : Nat) : Int) (Rf.take L st 1).2 (by omega)
          exact ⟨fun h => by (rw [hn] at h; cases h), fun _ => .inr (by simp only; omega)⟩
      | m + 1, hk =>
        rw [fixD_none _ _ (by omega), fixP_none _ _ (by omega)]
        simp only
        have := fixed_rel hb m (k + 1) (2 * v + t) (Rf.take L st 1).2 (by omega) (by rw [Nat.pow_succ]; omega)
        rw [show 15 - (k + 1) = 14 - k by omega] at this
        exact this
theorem alike_fixed (s : ByteArray) : Alike s fixP Rf.fixD := fun st _ _ => by
  have h := fixed_rel (lw_bits s) 4 0 0 st rfl (by decide)
  exact h

end Go.Proofs.Ytmfijackgekioaa
