import Derived.Test.YtmfijackgekioaaGreatQSmRo4
import Derived.Test.YtmfijackgekioaaGreatQGn
import Derived.Test.YtmfijackgekioaaGreatQFjGa3

/-
  Borders and periods of a text: plain. For Small.
-/
namespace Go.Proofs.YtmfijackgekioaaGreat.Rf

/-- The first i bytes begin and end with the same k. -/
def Bd (T : List UInt8) (i k : Nat) : Prop := k < i ∧ ∀ j, j < k → T.getD j 0 = T.getD (i - k + j) 0
/-- The longest one. -/
def Mxb (T : List UInt8) (i k : Nat) : Prop := Bd T i k ∧ ∀ k', Bd T i k' → k' ≤ k
/-- None that the next byte goes on is longer. -/
def Cand (T : List UInt8) (i b : Nat) : Prop := Bd T i b ∧ ∀ k, Bd T i k → T.getD k 0 = T.getD i 0 → k ≤ b
theorem mxb_one (T : List UInt8) : Mxb T 1 0 := ⟨⟨by omega, fun j hj => by omega⟩, fun k hk => by have := hk.1; omega⟩
theorem bd_down {T : List UInt8} {i k k' : Nat} (h : Bd T i k) (h' : Bd T i k') (hlt : k' < k) : Bd T k k' := by
  refine ⟨hlt, fun j hj => ?_⟩
  have a := h'.2 j hj
  have b := h.2 (k - k' + j) (by omega)
  have := h.1
  rw [a, b, show i - k + (k - k' + j) = i - k' + j by omega]
theorem bd_up {T : List UInt8} {i k k' : Nat} (h : Bd T i k) (h' : Bd T k k') : Bd T i k' := by
  have h1 := h.1
  have h2 := h'.1
  refine ⟨by omega, fun j hj => ?_⟩
  rw [h'.2 j hj, h.2 (k - k' + j) (by omega), show i - k + (k - k' + j) = i - k' + j by omega]
theorem bd_succ {T : List UInt8} {i k : Nat} (h : Bd T i k) (he : T.getD k 0 = T.getD i 0) : Bd T (i + 1) (k + 1) := by
  have h1 := h.1
  refine ⟨by omega, fun j hj => ?_⟩
  rw [show i + 1 - (k + 1) + j = i - k + j by omega]
  by_cases e : j = k
  · rw [e, he, show i - k + k = i by omega]
  · exact h.2 j (by omega)
theorem bd_pred {T : List UInt8} {i k : Nat} (h : Bd T (i + 1) (k + 1)) : Bd T i k ∧ T.getD k 0 = T.getD i 0 := by
  have h1 := h.1
  refine ⟨⟨by omega, fun j hj => ?_⟩, ?_⟩
  · have := h.2 j (by omega)
    rwa [show i + 1 - (k + 1) + j = i - k + j by omega] at this
  · have := h.2 k (by omega)
    rwa [show i + 1 - (k + 1) + k = i by omega] at this
theorem Mxb.cand {T : List UInt8} {i b : Nat} (h : Mxb T i b) : Cand T i b := ⟨h.1, fun k hk _ => h.2 k hk⟩
theorem Cand.next {T : List UInt8} {i b c : Nat} (h : Cand T i b) (hne : T.getD b 0 ≠ T.getD i 0) (hc : Mxb T b c) : Cand T i c := by
  refine ⟨bd_up h.1 hc.1, fun k hk he => ?_⟩
  have := h.2 k hk he
  have hn : k ≠ b := fun e => hne (e ▸ he)
  exact hc.2 k (bd_down h.1 hk (by omega))
theorem Cand.hit {T : List UInt8} {i b : Nat} (h : Cand T i b) (he : T.getD b 0 = T.getD i 0) : Mxb T (i + 1) (b + 1) := by
  refine ⟨bd_succ h.1 he, fun k hk => ?_⟩
  cases k with
  | zero => omega
  | succ k =>
    obtain ⟨h1, h2⟩ := bd_pred hk
    have := h.2 k h1 h2
    omega
theorem Cand.miss {T : List UInt8} {i : Nat} (h : Cand T i 0) (hne : T.getD 0 0 ≠ T.getD i 0) : Mxb T (i + 1) 0 := by
  refine ⟨⟨by omega, fun j hj => by omega⟩, fun k hk => ?_⟩
  cases k with
  | zero => omega
  | succ k =>
    obtain ⟨h1, h2⟩ := bd_pred hk
    have := h.2 k h1 h2
    have : k = 0 := by omega
    subst this
    exact absurd h2 hne

/-- All bytes are as those q behind them. -/
def Per (T : List UInt8) (q : Nat) : Prop := ∀ i, i + q < T.length → T.getD i 0 = T.getD (i + q) 0
/-- The least. -/
def Least (T : List UInt8) (per : Nat) : Prop := Per T per ∧ ∀ q, 1 ≤ q → Per T q → per ≤ q
theorem per_bd {T : List UInt8} {q : Nat} (h : Per T q) (h1 : 1 ≤ q) (h2 : q ≤ T.length) : Bd T T.length (T.length - q) :=
  ⟨by omega, fun j hj => by rw [h j (by omega), show T.length - (T.length - q) + j = j + q by omega]⟩
theorem bd_per {T : List UInt8} {b : Nat} (h : Bd T T.length b) : Per T (T.length - b) := by
  intro i hi
  have h1 := h.1
  rw [h.2 i (by omega), show T.length - b + i = i + (T.length - b) by omega]
theorem least_of {T : List UInt8} {b : Nat} (h : Mxb T T.length b) : Least T (T.length - b) := by
  refine ⟨bd_per h.1, fun q h1 hq => ?_⟩
  by_cases h2 : q ≤ T.length
  · have := h.2 _ (per_bd hq h1 h2)
    omega
  · omega
theorem least_nil {T : List UInt8} (h : T.length = 0) : Least T 0 := ⟨fun i hi => by omega, fun q _ _ => Nat.zero_le _⟩

theorem per_mod {T : List UInt8} {q : Nat} (h : Per T q) (hq : 1 ≤ q) : ∀ i, i < T.length → T.getD i 0 = T.getD (i % q) 0 := by
  intro i
  induction i using Nat.strongRecOn with
  | ind i ih =>
    intro hi
    by_cases hlt : i < q
    · rw [Nat.mod_eq_of_lt hlt]
    · have a := h (i - q) (by omega)
      rw [show i - q + q = i by omega] at a
      rw [← a, ih (i - q) (by omega) (by omega)]
      congr 1
      exact (Nat.mod_eq_sub_mod (by omega)).symm
theorem getD_takeJ (T : List UInt8) (n i : Nat) (h : i < n) : (T.take n).getD i 0 = T.getD i 0 := by
  simp only [List.getD_eq_getElem?_getD]
  rw [List.getElem?_take, if_pos h]
theorem per_take {T : List UInt8} {q n : Nat} (h : Per T q) : Per (T.take n) q := by
  intro i hi
  rw [List.length_take] at hi
  rw [getD_takeJ _ _ _ (by omega), getD_takeJ _ _ _ (by omega)]
  exact h i (by omega)
/-- A long beginning's least period is one of the whole. -/
theorem per_whole {T : List UInt8} {q per n : Nat} (h : Per T q) (hq : 1 ≤ q) (hn : 2 * q ≤ n) (hl : Least (T.take n) per) : Per T per ∧ per ≤ q := by
  have hle : per ≤ q := hl.2 q hq (per_take h)
  refine ⟨fun i hi => ?_, hle⟩
  have hr : i % q < q := Nat.mod_lt _ hq
  have e1 := per_mod h hq i (by omega)
  have e2 := per_mod h hq (i + per) hi
  have hrl : i % q ≤ i := Nat.mod_le _ _
  have e3 := per_mod h hq (i % q + per) (by omega)
  have e4 := hl.1 (i % q) (by rw [List.length_take]; omega)
  rw [getD_takeJ _ _ _ (by omega), getD_takeJ _ _ _ (by omega)] at e4
  rw [e1, e2, e4, e3]
  congr 1
  rw [Nat.mod_add_mod]
end Go.Proofs.YtmfijackgekioaaGreat.Rf

/-
  What the steps of a text that repeats cost with the fixed codes: plain. For Small.
-/
namespace Go.Proofs.YtmfijackgekioaaGreat

theorem fixS_lit (j : Nat) (h : j < 256) : (Rf.fixS.getD j 0).toNat ≤ 9 :=
  (show ∀ j, j < 256 → (Rf.fixS.getD j 0).toNat ≤ 9 by decide +kernel) j h
theorem fixS_copy (j : Nat) (h : j < 29) : (Rf.fixS.getD (257 + j) 0).toNat ≤ 8 :=
  (show ∀ j, j < 29 → (Rf.fixS.getD (257 + j) 0).toNat ≤ 8 by decide +kernel) j h
theorem fixP_all (j : Nat) : (fixP.getD j 0).toNat ≤ 5 := by
  by_cases h : j < 30
  · exact (show ∀ j, j < 30 → (fixP.getD j 0).toNat ≤ 5 by decide +kernel) j h
  · have : fixP.getD j 0 = 0 := by rw [List.getD_eq_getElem?_getD, List.getElem?_eq_none (by simp [fixP]; omega)]; rfl
    rw [this]; decide
/-- What a step costs. -/
def stepCost (T : List UInt8) (p : Nat) (s : Nat × Nat) : Nat := (tokBits Rf.fixS fixP (stepToks T p s)).length
theorem cost_cons (T : List UInt8) (p : Nat) (s : Nat × Nat) (r : List (Nat × Nat)) : (tokBits Rf.fixS fixP (toksOf T p (s :: r))).length = stepCost T p s + (tokBits Rf.fixS fixP (toksOf T (p + s.1) r)).length := by
  rw [toksOf, stepCost, tokBits, List.flatMap_append, List.length_append]; rfl
theorem cost_nil (T : List UInt8) (p : Nat) : (tokBits Rf.fixS fixP (toksOf T p [])).length = 7 := by
  simp only [toksOf, tokBits, List.flatMap_cons, List.flatMap_nil, List.append_nil, List.length_append, Rf.cbits_length, Rf.nb_length]
  decide +kernel
theorem step_lit (T : List UInt8) (p l : Nat) : stepCost T p (l, 0) ≤ 9 := by
  simp only [stepCost, stepToks, if_true, tokBits, List.flatMap_cons, List.flatMap_nil, List.append_nil, List.length_append, Rf.cbits_length, Rf.nb_length]
  have := fixS_lit (T.getD p 0).toNat (T.getD p 0).toNat_lt
  simp only [Bool.false_eq_true, if_false]
  omega
theorem step_copy (T : List UInt8) (p l d : Nat) (h1 : 3 ≤ l) (h2 : l ≤ 258) (h3 : 1 ≤ d) (h4 : d ≤ 32768) : stepCost T p (l, d) ≤ 31 ∧ (l = 258 → stepCost T p (l, d) ≤ 26) := by
  have l1 := Rf.lix_ok l h1 h2
  have d1 := Rf.dix_ok d h3 h4
  have a := fixS_copy (Rf.lix l) (by omega)
  have b := fixP_all (Rf.dix d)
  have c := rlb_le _ l1.1
  have e := rdb_le _ d1.1
  have hd : ¬ d = 0 := by omega
  have hc : stepCost T p (l, d) = (Rf.fixS.getD (257 + Rf.lix l) 0).toNat + Rf.lb (Rf.lix l) + ((fixP.getD (Rf.dix d) 0).toNat + Rf.db (Rf.dix d)) := by
    simp only [stepCost, stepToks, if_neg hd, tokBits, List.flatMap_cons, List.flatMap_nil, List.append_nil, List.length_append, Rf.cbits_length, Rf.nb_length, Bool.false_eq_true, if_false, if_true]
  rw [hc]
  refine ⟨by omega, fun q => ?_⟩
  subst q
  have : Rf.lb (Rf.lix 258) = 0 := by decide
  omega
/-- What is still to be paid at a place. -/
def pot (per q p : Nat) : Nat := if p < per then 11 * (per - p) + 31 + (26 * ((q - p) / 258) + 31) else 26 * ((q - p) / 258) + min 31 (16 * ((q - p) % 258))
theorem cost_le (U T : List UInt8) (per q : Nat) (hP : Rf.Per T per) (hp : per ≤ 32768) (hq : q ≤ T.length) : ∀ (S : List (Nat × Nat)) (u p : Nat), Rf.Fits T p S q → Rf.Bigs T per q p S → (tokBits Rf.fixS fixP (toksOf U u S)).length ≤ pot per q p + 7
  | [], u, p, _, _ => by rw [cost_nil]; omega
  | (l, d) :: r, u, p, hf, hb => by
    have hl := fits_len T hf.2
    simp only at hl
    have ih := cost_le U T per q hP hp hq r (u + l) (p + l) hf.2 hb.2
    rw [cost_cons]
    simp only
    have hs : (d = 0 ∧ l = 1 ∧ stepCost U u (l, d) ≤ 9) ∨ (3 ≤ l ∧ l ≤ 258 ∧ stepCost U u (l, d) ≤ 31 ∧ (l = 258 → stepCost U u (l, d) ≤ 26)) := by
      rcases hf.1 with h | h
      · obtain ⟨rfl, rfl⟩ : d = 0 ∧ l = 1 := ⟨h.1, h.2.1⟩
        exact .inl ⟨rfl, rfl, step_lit U u 1⟩
      · obtain ⟨a, b, c, e⟩ : 3 ≤ l ∧ l ≤ 258 ∧ 1 ≤ d ∧ d ≤ 32768 := ⟨h.1, h.2.1, h.2.2.1, h.2.2.2.1⟩
        have := step_copy U u l d a b c e
        exact .inr ⟨a, b, this.1, this.2⟩
    generalize stepCost U u (l, d) = c at *
    generalize (tokBits Rf.fixS fixP (toksOf U (u + l) r)).length = R at *
    by_cases h1 : p < per
    · unfold pot at ih ⊢
      rw [if_pos h1]
      by_cases h2 : p + l < per
      · rw [if_pos h2] at ih
        have e1 : (q - (p + l)) / 258 ≤ (q - p) / 258 := Nat.div_le_div_right (by omega)
        rcases hs with h | h <;> omega
      · rw [if_neg h2] at ih
        have e1 : (q - (p + l)) / 258 ≤ (q - p) / 258 := Nat.div_le_div_right (by omega)
        rcases hs with h | h <;> omega
    · unfold pot at ih ⊢
      rw [if_neg h1]
      rw [if_neg (by omega)] at ih
      have hbg : l = if 3 ≤ min (q - p) 258 then min (q - p) 258 else 1 := hb.1 (by omega) hp (fun k hk => by
        have := hP (p + k - per) (by omega)
        rw [show p + k - per + per = p + k by omega] at this
        exact this.symm)
      obtain ⟨n, hn⟩ : ∃ n, q = p + n := ⟨q - p, by omega⟩
      subst hn
      rw [show p + n - p = n by omega] at hbg ⊢
      rw [show p + n - (p + l) = n - l by omega] at ih
      split at hbg
      · rcases hs with h | h <;> omega
      · rcases hs with h | h <;> omega
end Go.Proofs.YtmfijackgekioaaGreat
