/-
  The codes of some lengths, as the program makes them: plain functions, and that they are the document's.
-/
import Derived.Test.YtmfijackgekioaaRq
namespace Go.Proofs.Ytmfijackgekioaa.Rf

/-- The next code within a length; behind a length. -/
def nxI (ls : List Int) (n b : Nat) : Nat → Nat
  | 0 => b
  | i + 1 => nxI ls n b i + if ls.getD i 0 = (n : Int) then 1 else 0
def nxO (ls : List Int) : Nat → Nat
  | 0 => 0
  | n + 1 => nxI ls (n + 1) (2 * nxO ls n) ls.length
abbrev nx (ls : List Int) (n i : Nat) : Nat := nxI ls (n + 1) (2 * nxO ls n) i

theorem nxI_mono (ls : List Int) (n b i j : Nat) (h : i ≤ j) : nxI ls n b i ≤ nxI ls n b j := by
  induction j with
  | zero => simp [show i = 0 by omega]
  | succ j ih =>
    by_cases e : i = j + 1
    · rw [e]; exact Nat.le_refl _
    · have := ih (by omega)
      simp only [nxI]
      omega
theorem nxI_lt (ls : List Int) (n b i j : Nat) (h : i < j) (hi : ls.getD i 0 = (n : Int)) : nxI ls n b i < nxI ls n b j := by
  have h1 := nxI_mono ls n b (i + 1) j (by omega)
  simp only [nxI, if_pos hi] at h1
  omega

theorem cIn_rel (ls : List Int) (n b : Nat) (c : Cs) (hl : c.last ≤ n) (hb : c.next * 2 ^ (n - c.last) = b) (i : Nat) :
    (cIn ls n c i).last ≤ n ∧ (cIn ls n c i).next * 2 ^ (n - (cIn ls n c i).last) = nxI ls n b i := by
  induction i with
  | zero => exact ⟨hl, hb⟩
  | succ i ih =>
    simp only [cIn, nxI]
    split
    · exact ⟨Nat.le_refl _, by simp only [Nat.sub_self, Nat.pow_zero, Nat.mul_one]; rw [ih.2]⟩
    · exact ⟨ih.1, by rw [ih.2]; rfl⟩
theorem cOut_rel (ls : List Int) (n : Nat) : (cOut ls n).last ≤ n ∧ (cOut ls n).next * 2 ^ (n - (cOut ls n).last) = nxO ls n := by
  induction n with
  | zero => simp [cOut, nxO]
  | succ n ih =>
    simp only [cOut, nxO]
    refine cIn_rel ls (n + 1) (2 * nxO ls n) _ (by omega) ?_ _
    rw [← ih.2, show n + 1 - (cOut ls n).last = (n - (cOut ls n).last) + 1 by omega, Nat.pow_succ]
    rw [← Nat.mul_assoc, Nat.mul_comm]
theorem cIn_next (ls : List Int) (n i : Nat) : (cIn ls (n + 1) (cOut ls n) i).next * 2 ^ (n + 1 - (cIn ls (n + 1) (cOut ls n) i).last) = nx ls n i := by
  have h := cOut_rel ls n
  refine (cIn_rel ls (n + 1) (2 * nxO ls n) _ (by omega) ?_ i).2
  rw [← h.2, show n + 1 - (cOut ls n).last = (n - (cOut ls n).last) + 1 by omega, Nat.pow_succ]
  rw [← Nat.mul_assoc, Nat.mul_comm]

theorem getD_set_other (l : List Int) (i j : Nat) (x : Int) (h : j ≠ i) : (l.set i x).getD j 0 = l.getD j 0 := by
  simp only [List.getD]
  rw [List.getElem?_set_ne (Ne.symm h)]
theorem getD_set_same (l : List Int) (i : Nat) (x : Int) (h : i < l.length) : (l.set i x).getD i 0 = x := by
  simp [List.getD, h]

theorem cIn_keeps (ls : List Int) (n : Nat) (c : Cs) (i j : Nat) (h : ls.getD j 0 ≠ (n : Int) ∨ i ≤ j) : (cIn ls n c i).out.getD j 0 = c.out.getD j 0 := by
  induction i with
  | zero => rfl
  | succ i ih =>
    simp only [cIn]
    have ih' := ih (by omega)
    split
    · rename_i hi
      simp only
      rw [getD_set_other _ _ _ _ (by rintro rfl; rcases h with h | h; exact h hi; omega)]
      exact ih'
    · exact ih'
theorem cIn_after (ls : List Int) (n : Nat) (c : Cs) (j k : Nat) (h : j < k) : ∀ i, i = k → ls.getD j 0 = (n : Int) → (cIn ls n c i).out.getD j 0 = (cIn ls n c (j + 1)).out.getD j 0 := by
  intro i hi hj
  subst hi
  induction i with
  | zero => omega
  | succ i ih =>
    by_cases e : i = j
    · subst e; rfl
    · have ih' := ih (by omega)
      rw [cIn]
      split
      · simp only
        rw [getD_set_other _ _ _ _ (fun e2 => e e2.symm)]
        exact ih'
      · exact ih'
theorem cOut_keeps (ls : List Int) (j m : Nat) (h : ls.getD j 0 ≤ (m : Int)) : ∀ k, (cOut ls (m + k)).out.getD j 0 = (cOut ls m).out.getD j 0 := by
  intro k
  induction k with
  | zero => rfl
  | succ k ih =>
    rw [show m + (k + 1) = (m + k) + 1 by omega, cOut, cIn_keeps ls _ _ _ _ (.inl (by omega))]
    exact ih
/-- The document's code of a symbol is the program's. -/
theorem codes_at (ls : List Int) (n j : Nat) (hn : n < 15) (hj : j < ls.length) (h : ls.getD j 0 = ((n + 1 : Nat) : Int)) : (codes ls).getD j 0 = ((nx ls n j : Nat) : Int) := by
  have e1 : (codes ls).getD j 0 = (cOut ls (n + 1)).out.getD j 0 := by
    have := cOut_keeps ls j (n + 1) (by omega) (15 - (n + 1))
    rw [show n + 1 + (15 - (n + 1)) = 15 by omega] at this
    exact this
  rw [e1, cOut, cIn_after ls (n + 1) _ j ls.length hj _ rfl h, cIn]
  rw [if_pos h]
  simp only
  rw [getD_set_same _ _ _ (by rw [cIn_length, cOut_length]; exact hj), cIn_next]

/-- The sum of what the codes up to a length take. -/
def fsN (ls : List Int) (n : Nat) : Nat → Nat
  | 0 => 0
  | k + 1 => fsN ls n k + if 0 < ls.getD k 0 ∧ ls.getD k 0 ≤ (n : Int) then 2 ^ (15 - (ls.getD k 0).toNat) else 0
theorem fsN_le (ls : List Int) (hw : ∀ j, ls.getD j 0 ≤ 15) (n : Nat) (k : Nat) : fsN ls n k ≤ fs ls k := by
  induction k with
  | zero => exact Nat.le_refl _
  | succ k ih =>
    simp only [fsN, fs]
    have e : (0 < ls.getD k 0) → 32768 / 2 ^ (ls.getD k 0).toNat = 2 ^ (15 - (ls.getD k 0).toNat) := fun h0 => by
      have h15 := hw k
      have : (ls.getD k 0).toNat ≤ 15 := by omega
      rw [show (32768 : Nat) = 2 ^ 15 from rfl, Nat.pow_div this (by omega)]
    by_cases h : 0 < ls.getD k 0
    · rw [if_pos h, e h]
      split
      · omega
      · exact Nat.le_trans ih (Nat.le_add_right _ _)
    · rw [if_neg h, if_neg (fun h2 => h h2.1)]
      omega
theorem fsN_step (ls : List Int) (n : Nat) (k : Nat) : ∀ i, i ≤ k → fsN ls n k + fsN ls (n + 1) i ≤ fsN ls (n + 1) k + fsN ls n i := by
  induction k with
  | zero => intro i hi; simp [show i = 0 by omega, fsN]
  | succ k ih =>
    intro i hi
    by_cases e : i = k + 1
    · subst e; omega
    · have := ih i (by omega)
      simp only [fsN]
      have : (if 0 < ls.getD k 0 ∧ ls.getD k 0 ≤ (n : Int) then 2 ^ (15 - (ls.getD k 0).toNat) else 0) ≤ (if 0 < ls.getD k 0 ∧ ls.getD k 0 ≤ ((n + 1 : Nat) : Int) then 2 ^ (15 - (ls.getD k 0).toNat) else 0) := by
        split
        · rw [if_pos (by omega)]; exact Nat.le_refl _
        · omega
      omega
theorem nxI_sum (ls : List Int) (n b : Nat) (hn : n < 15) (i : Nat) : nxI ls (n + 1) b i * 2 ^ (14 - n) + fsN ls n i = b * 2 ^ (14 - n) + fsN ls (n + 1) i := by
  induction i with
  | zero => simp [nxI, fsN]
  | succ i ih =>
    simp only [nxI, fsN]
    by_cases h : ls.getD i 0 = ((n + 1 : Nat) : Int)
    · have e : (ls.getD i 0).toNat = n + 1 := by omega
      rw [if_pos h, if_neg (by omega), if_pos (by omega), e, Nat.add_mul, show 15 - (n + 1) = 14 - n by omega]
      omega
    · have e : (if 0 < ls.getD i 0 ∧ ls.getD i 0 ≤ (n : Int) then 2 ^ (15 - (ls.getD i 0).toNat) else 0) = (if 0 < ls.getD i 0 ∧ ls.getD i 0 ≤ ((n + 1 : Nat) : Int) then 2 ^ (15 - (ls.getD i 0).toNat) else 0) := by
        by_cases h2 : 0 < ls.getD i 0 ∧ ls.getD i 0 ≤ (n : Int)
        · rw [if_pos h2, if_pos (by omega)]
        · rw [if_neg h2, if_neg (by omega)]
      rw [if_neg h, e, Nat.add_zero]
      omega
theorem fsN_zero (ls : List Int) (k : Nat) : fsN ls 0 k = 0 := by
  induction k with
  | zero => rfl
  | succ k ih => simp only [fsN, ih]; rw [if_neg (by omega)]
theorem nxO_sum (ls : List Int) (n : Nat) (hn : n ≤ 15) : nxO ls n * 2 ^ (15 - n) = fsN ls n ls.length := by
  induction n with
  | zero => simp [nxO, fsN_zero]
  | succ n ih =>
    have h := nxI_sum ls n (2 * nxO ls n) (by omega) ls.length
    have ih' := ih (by omega)
    rw [show 15 - n = (14 - n) + 1 by omega, Nat.pow_succ] at ih'
    have e : 2 * nxO ls n * 2 ^ (14 - n) = nxO ls n * (2 ^ (14 - n) * 2) := by
      rw [Nat.mul_comm 2 (nxO ls n), Nat.mul_assoc, Nat.mul_comm 2]
    rw [e, ih'] at h
    simp only [nxO]
    rw [show 15 - (n + 1) = 14 - n by omega]
    omega
/-- A code fits its length. -/
theorem nx_le (ls : List Int) (hw : ∀ j, ls.getD j 0 ≤ 15) (hf : fs ls ls.length ≤ 32768) (n i : Nat) (hn : n < 15) (hi : i ≤ ls.length) : nx ls n i * 2 ^ (14 - n) ≤ 32768 := by
  have h := nxI_sum ls n (2 * nxO ls n) hn i
  have ho := nxO_sum ls n (by omega)
  rw [show 15 - n = (14 - n) + 1 by omega, Nat.pow_succ] at ho
  have e : 2 * nxO ls n * 2 ^ (14 - n) = nxO ls n * (2 ^ (14 - n) * 2) := by
    rw [Nat.mul_comm 2 (nxO ls n), Nat.mul_assoc, Nat.mul_comm 2]
  rw [e, ho] at h
  have h1 := fsN_step ls n ls.length i hi
  have h2 := fsN_le ls hw (n + 1) ls.length
  show nxI ls (n + 1) (2 * nxO ls n) i * 2 ^ (14 - n) ≤ 32768
  omega
theorem nx_small (ls : List Int) (hw : ∀ j, ls.getD j 0 ≤ 15) (hf : fs ls ls.length ≤ 32768) (n i : Nat) (hn : n < 15) (hi : i ≤ ls.length) : nx ls n i ≤ 32768 := by
  have h := nx_le ls hw hf n i hn hi
  have h2 : 1 ≤ 2 ^ (14 - n) := Nat.one_le_two_pow
  have h3 := Nat.mul_le_mul_left (nx ls n i) h2
  omega
/-- Ahead of a length there is room for one bit more. -/
theorem nxO_small (ls : List Int) (hw : ∀ j, ls.getD j 0 ≤ 15) (hf : fs ls ls.length ≤ 32768) (n : Nat) (hn : n < 15) : 2 * nxO ls n ≤ 32768 := nx_small ls hw hf n 0 hn (Nat.zero_le _)

/-- The search for a code finds the one symbol that has it. -/
theorem findFrom_some (ls cd : List Int) (n v : Int) : ∀ (f i j : Nat), findFrom ls cd n v f i = some j → i ≤ j ∧ j < i + f ∧ ls.getD j 0 = n ∧ cd.getD j 0 = v
  | 0, _, _, h => by simp [findFrom] at h
  | f + 1, i, j, h => by
    rw [findFrom] at h
    split at h
    · rename_i hh; cases h; exact ⟨Nat.le_refl _, by omega, hh.1, hh.2⟩
    · have := findFrom_some ls cd n v f (i + 1) j h
      exact ⟨by omega, by omega, this.2.2⟩
theorem findFrom_none (ls cd : List Int) (n v : Int) : ∀ (f i : Nat), findFrom ls cd n v f i = none → ∀ j, i ≤ j → j < i + f → ¬ (ls.getD j 0 = n ∧ cd.getD j 0 = v)
  | 0, _, _, j, h1, h2 => by omega
  | f + 1, i, h, j, h1, h2 => by
    rw [findFrom] at h
    split at h
    · cases h
    · rename_i hh
      by_cases e : j = i
      · subst e; exact hh
      · exact findFrom_none ls cd n v f (i + 1) h j (by omega) (by omega)
theorem find_some {ls cd : List Int} {n v : Int} {j : Nat} (h : find ls cd n v = some j) : j < ls.length ∧ ls.getD j 0 = n ∧ cd.getD j 0 = v := by
  have := findFrom_some ls cd n v _ _ _ h
  exact ⟨by omega, this.2.2⟩
theorem find_none {ls cd : List Int} {n v : Int} (h : find ls cd n v = none) (j : Nat) (hj : j < ls.length) : ¬ (ls.getD j 0 = n ∧ cd.getD j 0 = v) := findFrom_none ls cd n v _ _ h j (Nat.zero_le _) (by omega)
theorem codes_inj (ls : List Int) (n i j : Nat) (hn : n < 15) (hi : i < ls.length) (hj : j < ls.length) (h1 : ls.getD i 0 = ((n + 1 : Nat) : Int)) (h2 : ls.getD j 0 = ((n + 1 : Nat) : Int)) (h : (codes ls).getD i 0 = (codes ls).getD j 0) : i = j := by
  rw [codes_at ls n i hn hi h1, codes_at ls n j hn hj h2] at h
  have h' : nxI ls (n + 1) (2 * nxO ls n) i = nxI ls (n + 1) (2 * nxO ls n) j := Int.ofNat.inj h
  by_cases e : i < j
  · have := nxI_lt ls (n + 1) (2 * nxO ls n) i j e h1; omega
  · by_cases e2 : j < i
    · have := nxI_lt ls (n + 1) (2 * nxO ls n) j i e2 h2; omega
    · omega
theorem find_of {ls : List Int} {n j : Nat} (hn : n < 15) (hj : j < ls.length) (h1 : ls.getD j 0 = ((n + 1 : Nat) : Int)) : find ls (codes ls) ((n + 1 : Nat) : Int) ((codes ls).getD j 0) = some j := by
  cases h : find ls (codes ls) ((n + 1 : Nat) : Int) ((codes ls).getD j 0) with
  | none => exact absurd ⟨h1, rfl⟩ (find_none h j hj)
  | some i =>
    obtain ⟨a, b, c⟩ := find_some h
    rw [codes_inj ls n i j hn a hj b h1 c]

/-- Where no length is longer than n, nothing more is found. -/
theorem symF_none (L ls cd : List Int) (m : Nat) (hm : ∀ j, j < ls.length → ls.getD j 0 ≤ (m : Int)) : ∀ (f n : Nat) (v : Int) (st : St), m ≤ n → (symF L ls cd f n v st).2.bad = true
  | 0, _, _, _, _ => rfl
  | f + 1, n, v, st, h => by
    rw [symF]
    split
    · assumption
    · have e : find ls cd ((n : Int) + 1) (2 * v + (take L st 1).1) = none := by
        cases h2 : find ls cd ((n : Int) + 1) (2 * v + (take L st 1).1) with
        | none => rfl
        | some i =>
          obtain ⟨a, b, _⟩ := find_some h2
          have := hm i a
          omega
      rw [e]
      exact symF_none L ls cd m hm f (n + 1) _ _ (by omega)

end Go.Proofs.Ytmfijackgekioaa.Rf
