import Derived.Test.YtmfijackgekioaaQ29

/-
  How long the tokens' bits are. For Deflates.
-/
namespace Go.Proofs.Ytmfijackgekioaa
open Go.RowKit

theorem dot_nil (N : Nat) (b : Bool) (ls : List Int) : ∀ k, k ≤ N → dot (tal N b []) ls k = 0
  | 0, _ => rfl
  | k + 1, h => by
    rw [dot, dot_nil N b ls k (by omega), tal_getD N b [] k (by omega)]
    simp

theorem dot_cons (N : Nat) (b : Bool) (t : Tok) (ts : List Tok) (ls : List Int) : ∀ k, k ≤ N → dot (tal N b (t :: ts)) ls k = dot (tal N b ts) ls k + if t.1 = b ∧ t.2.1 < k then ls.getD t.2.1 0 else 0
  | 0, _ => by simp [dot]
  | k + 1, h => by
    rw [dot, dot, dot_cons N b t ts ls k (by omega), tal_getD N b (t :: ts) k (by omega), tal_getD N b ts k (by omega), List.countP_cons]
    generalize (ts.countP fun u => decide (u.1 = b ∧ u.2.1 = k)) = c
    by_cases hk : t.1 = b ∧ t.2.1 = k
    · rw [if_neg (show ¬ (t.1 = b ∧ t.2.1 < k) by omega), if_pos (show decide (t.1 = b ∧ t.2.1 = k) = true from decide_eq_true hk), if_pos (show t.1 = b ∧ t.2.1 < k + 1 from ⟨hk.1, by omega⟩), hk.2]
      generalize ls.getD k 0 = x
      have : ((c + 1 : Nat) : Int) * x = (c : Int) * x + x := by rw [Int.natCast_add, Int.add_mul]; simp
      rw [this]
      omega
    · rw [if_neg (show ¬ (decide (t.1 = b ∧ t.2.1 = k) = true) by rw [decide_eq_true_iff]; exact hk), Nat.add_zero]
      by_cases hq : t.1 = b ∧ t.2.1 < k
      · rw [if_pos hq, if_pos (show t.1 = b ∧ t.2.1 < k + 1 from ⟨hq.1, by omega⟩)]
        omega
      · rw [if_neg hq, if_neg (show ¬ (t.1 = b ∧ t.2.1 < k + 1) from fun q => by
          have : t.2.1 ≠ k := fun e => hk ⟨q.1, e⟩
          exact hq ⟨q.1, by omega⟩)]
        omega

/-- The bits of tokens: the extra ones, and those of the codes. -/
theorem tokBits_length (ls ds : List Int) (hl : ∀ j, 0 ≤ ls.getD j 0) (hd : ∀ j, 0 ≤ ds.getD j 0) : ∀ ts : List Tok, (∀ t ∈ ts, TokOk t) →
    ((tokBits ls ds ts).length : Int) = (extraOf ts : Nat) + dot (tal 286 false ts) ls 286 + dot (tal 30 true ts) ds 30
  | [], _ => by rw [dot_nil _ _ _ _ (Nat.le_refl _), dot_nil _ _ _ _ (Nat.le_refl _)]; simp [tokBits, extraOf]
  | t :: r, h => by
    have ih := tokBits_length ls ds hl hd r (fun u hu => h u (List.mem_cons_of_mem _ hu))
    have ht := (h t (List.mem_cons_self ..)).1
    have e1 : tokBits ls ds (t :: r) = (Rf.cbits (if t.1 then ds else ls) t.2.1 ++ Rf.nb t.2.2.1 t.2.2.2) ++ tokBits ls ds r := by simp [tokBits]
    have e2 : extraOf (t :: r) = t.2.2.2 + extraOf r := by simp [extraOf]
    rw [e1, e2, dot_cons _ _ _ _ _ _ (Nat.le_refl _), dot_cons _ _ _ _ _ _ (Nat.le_refl _), List.length_append, List.length_append, Rf.cbits_length, Rf.nb_length]
    have h1 := hl t.2.1
    have h2 := hd t.2.1
    cases hb : t.1 with
    | false =>
      rw [hb] at ht
      have ht : t.2.1 ≤ 285 := ht
      rw [if_neg (show ¬ (false = true) by decide), if_pos (show false = false ∧ t.2.1 < 286 from ⟨rfl, by omega⟩), if_neg (show ¬ (false = true ∧ t.2.1 < 30) from fun q => Bool.noConfusion q.1)]
      omega
    | true =>
      rw [hb] at ht
      have ht : t.2.1 ≤ 29 := ht
      rw [if_pos (show true = true from rfl), if_neg (show ¬ (true = false ∧ t.2.1 < 286) from fun q => Bool.noConfusion q.1), if_pos (show true = true ∧ t.2.1 < 30 from ⟨rfl, by omega⟩)]
      omega
end Go.Proofs.Ytmfijackgekioaa
