/-
  Symbols up to a block's end; what grows, and how far.
-/
import Derived.Test.YtmfijackgekioaaRf
namespace Go.Proofs.Ytmfijackgekioaa.Rf

def symsF (L : List Int) (limit : Int) (ls cd far fcd : List Int) : Nat → St → St
  | 0, st => st
  | f + 1, st =>
    if (st.bad || st.full) = true then st else
    if (symbol L ls cd st).2.bad = true ∨ (symbol L ls cd st).1 = 256 then (symbol L ls cd st).2
    else if (symbol L ls cd st).1 < 256 then
      symsF L limit ls cd far fcd f (if (room limit (symbol L ls cd st).2 1).1 = true then { (room limit (symbol L ls cd st).2 1).2 with out := (room limit (symbol L ls cd st).2 1).2.out ++ [UInt8.ofNat (symbol L ls cd st).1.toNat] } else (room limit (symbol L ls cd st).2 1).2)
    else if 285 < (symbol L ls cd st).1 then symsF L limit ls cd far fcd f { (symbol L ls cd st).2 with bad := true }
    else symsF L limit ls cd far fcd f (copied L limit ((symbol L ls cd st).1 - 257).toNat far fcd (symbol L ls cd st).2)
def symbols (L : List Int) (limit : Int) (ls far : List Int) (st : St) : St := symsF L limit ls (codes ls) far (codes far) (L.length + 2) st

theorem take_mono (L : List Int) (st : St) (n : Nat) : st.pos ≤ (take L st n).2.pos := by
  unfold take; split
  · exact Nat.le_refl _
  · show st.pos ≤ st.pos + n; omega
theorem take_bad (L : List Int) (st : St) (n : Nat) (h : (take L st n).2.bad = false) : (take L st n).2.pos = st.pos + n ∧ st.bad = false := by
  unfold take at *; split at h
  · cases h
  · rename_i hn; rw [if_neg hn]; exact ⟨rfl, h⟩
theorem symF_mono (L ls cd : List Int) : ∀ (f n : Nat) (v : Int) (st : St), st.pos ≤ (symF L ls cd f n v st).2.pos
  | 0, _, _, st => by simp [symF]
  | f + 1, n, v, st => by
    have h := take_mono L st 1
    rw [symF]
    split
    · exact h
    · split
      · exact h
      · exact Nat.le_trans h (symF_mono L ls cd f _ _ _)
theorem symF_pos (L ls cd : List Int) : ∀ (f n : Nat) (v : Int) (st : St), (symF L ls cd f n v st).2.bad = false → st.pos < (symF L ls cd f n v st).2.pos
  | 0, _, _, st => by simp [symF]
  | f + 1, n, v, st => by
    rw [symF]
    split
    · rename_i h; intro h2; simp only at h2; rw [h] at h2; cases h2
    · rename_i h
      have hb := take_bad L st 1 (by simpa using h)
      split
      · intro _; simp only; omega
      · intro _
        have := symF_mono L ls cd f (n + 1) (2 * v + (take L st 1).1) (take L st 1).2
        omega
theorem symbol_pos (L ls cd : List Int) (st : St) (h : (symbol L ls cd st).2.bad = false) : st.pos < (symbol L ls cd st).2.pos := symF_pos L ls cd 15 0 0 st h
theorem symbol_mono (L ls cd : List Int) (st : St) : st.pos ≤ (symbol L ls cd st).2.pos := symF_mono L ls cd 15 0 0 st
theorem symF_le (L ls cd : List Int) : ∀ (f n : Nat) (v : Int) (st : St), st.pos ≤ L.length → (symF L ls cd f n v st).2.pos ≤ L.length
  | 0, _, _, st, h => by simpa [symF] using h
  | f + 1, n, v, st, h => by
    have h1 := take_pos L st 1 h
    rw [symF]
    split
    · exact h1
    · split
      · exact h1
      · exact symF_le L ls cd f _ _ _ h1
theorem cpF_length (d : Nat) : ∀ (k : Nat) (o : List UInt8), (cpF d k o).length = o.length + k
  | 0, o => rfl
  | k + 1, o => by rw [cpF, cpF_length d k]; simp; omega
theorem lenOf_le {L : List Int} (hb : Bits L) (i : Nat) (hi : i ≤ 28) (st : St) : (lenOf L i st).1 ≤ 258 ∧ st.pos ≤ (lenOf L i st).2.pos ∧ (lenOf L i st).2.out = st.out := by
  unfold lenOf
  split
  · simp
  · split
    · rename_i h1 h2
      have ht := take_range hb st (i / 4 - 1)
      have hs : ∀ i : Nat, i < 28 → 8 ≤ i → (4 + i % 4) * 2 ^ (i / 4 - 1) + 2 ^ (i / 4 - 1) ≤ 256 := by decide +kernel
      have hs := hs i (by omega) h2
      have e : ((2 : Int) ^ (i / 4 - 1)) = ((2 ^ (i / 4 - 1) : Nat) : Int) := by simp
      rw [e] at ht
      refine ⟨?_, take_mono L st _, (take_out L st _).1⟩
      simp only
      omega
    · simp; omega
theorem distOf_le (L : List Int) (j : Nat) (st : St) : st.pos ≤ (distOf L j st).2.pos ∧ (distOf L j st).2.out = st.out := by
  unfold distOf
  split
  · exact ⟨take_mono L st _, (take_out L st _).1⟩
  · simp
theorem copied_le {L : List Int} (hb : Bits L) (limit : Int) (i : Nat) (hi : i ≤ 28) (far code : List Int) (st : St) :
    st.pos ≤ (copied L limit i far code st).pos ∧ (copied L limit i far code st).out.length ≤ st.out.length + 258 := by
  have h1 := lenOf_le hb i hi st
  unfold copied
  generalize lenOf L i st = A at *
  have h2 := symbol_mono L far code A.2
  have h3 := (symbol_out L far code A.2).1
  generalize symbol L far code A.2 = S at *
  have h4 := distOf_le L S.1.toNat S.2
  generalize distOf L S.1.toNat S.2 = D at *
  have h5 := room_out limit D.2 A.1
  generalize room limit D.2 A.1 = R at *
  repeat' split
  · exact ⟨h1.2.1, by rw [h1.2.2]; omega⟩
  · exact ⟨by simp only; omega, by simp only; rw [h3, h1.2.2]; omega⟩
  · exact ⟨by simp only; omega, by simp only; rw [h4.2, h3, h1.2.2]; omega⟩
  · exact ⟨by simp only; rw [h5.2.2.1]; omega, by simp only; rw [cpF_length, h5.1, h4.2, h3, h1.2.2]; omega⟩
  · exact ⟨by rw [h5.2.2.1]; omega, by rw [h5.1, h4.2, h3, h1.2.2]; omega⟩

end Go.Proofs.Ytmfijackgekioaa.Rf
