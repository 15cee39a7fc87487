/-
  A block of kind 2, as plain functions.
-/
import Derived.Test.YtmfijackgekioaaRq
namespace Go.Proofs.Ytmfijackgekioaa.Rf

def order : List Nat := [16, 17, 18, 0, 8, 7, 9, 6, 10, 5, 11, 4, 12, 3, 13, 2, 14, 1, 15]
def lenF (L : List Int) : Nat → Nat → List Int → St → List Int × St
  | 0, _, ls, st => (ls, st)
  | f + 1, i, ls, st => if st.bad = true then (ls, st) else lenF L f (i + 1) (ls.set (order.getD i 0) (take L st 3).1) (take L st 3).2
def sumF (far : List Int) : Nat → Int
  | 0 => 0
  | k + 1 => sumF far k + far.getD k 0
def onesF (far : List Int) : Nat → Nat
  | 0 => 0
  | k + 1 => onesF far k + if far.getD k 0 = 1 then 1 else 0
/-- The lists of a block of kind 2 may not be. -/
def badLists (l far : List Int) : Bool :=
  decide (l.getD 256 0 = 0) || !full l || (!full far && (decide (sumF far far.length ≠ 0) && (decide (sumF far far.length ≠ 1) || decide (onesF far far.length ≠ 1))))
def own (L : List Int) (limit : Int) (st : St) : St :=
  let h := take L st 5
  let d := take L h.2 5
  let k := take L d.2 4
  let q := lenF L (k.1.toNat + 4) 0 (List.replicate 19 0) k.2
  if q.2.bad = true ∨ 29 < h.1 ∨ 29 < d.1 ∨ full q.1 = false then { q.2 with bad := true } else
  let a := listed L q.1 (h.1 + d.1 + 258).toNat q.2
  if a.2.bad = true then a.2 else
  if badLists (a.1.take (h.1.toNat + 257)) (a.1.drop (h.1.toNat + 257)) = true then { a.2 with bad := true } else
  symbols L limit (a.1.take (h.1.toNat + 257)) (a.1.drop (h.1.toNat + 257)) a.2

theorem order_lt : ∀ i, order.getD i 0 < 19 := by
  intro i
  by_cases h : i < 19
  · exact (show ∀ i, i < 19 → order.getD i 0 < 19 by decide) i h
  · have e : order.getD i 0 = 0 := by
      have hl : order.length ≤ i := by simp [order]; omega
      simp [List.getD, List.getElem?_eq_none hl]
    omega

/-- All entries lie between two numbers. -/
def Within (ls : List Int) (b : Int) : Prop := ∀ j, 0 ≤ ls.getD j 0 ∧ ls.getD j 0 ≤ b
theorem within_replicate (n : Nat) (b : Int) (hb : 0 ≤ b) : Within (List.replicate n 0) b := by
  intro j
  have : (List.replicate n (0 : Int)).getD j 0 = 0 := by simp [List.getD, List.getElem?_replicate]; split <;> rfl
  omega
theorem within_set {ls : List Int} {b : Int} (h : Within ls b) (i : Nat) (x : Int) (hx : 0 ≤ x ∧ x ≤ b) : Within (ls.set i x) b := by
  intro j
  have := h j
  simp only [List.getD, List.getElem?_set] at *
  split
  · split
    · simpa using hx
    · simp; omega
  · exact this
theorem within_append {a c : List Int} {b : Int} (h1 : Within a b) (h2 : Within c b) : Within (a ++ c) b := by
  intro j
  by_cases hj : j < a.length
  · have := h1 j
    simpa [List.getD, List.getElem?_append_left hj] using this
  · have := h2 (j - a.length)
    simpa [List.getD, List.getElem?_append_right (show a.length ≤ j by omega)] using this
theorem within_rep (n : Nat) (x b : Int) (hx : 0 ≤ x ∧ x ≤ b) : Within (List.replicate n x) b := by
  intro j
  simp only [List.getD, List.getElem?_replicate]
  split
  · simpa using hx
  · simp; omega
theorem within_take {ls : List Int} {b : Int} (h : Within ls b) (n : Nat) (hb : 0 ≤ b) : Within (ls.take n) b := by
  intro j
  simp only [List.getD, List.getElem?_take]
  split
  · exact h j
  · simp; omega
theorem within_drop {ls : List Int} {b : Int} (h : Within ls b) (n : Nat) : Within (ls.drop n) b := by
  intro j
  have := h (n + j)
  simpa [List.getD, List.getElem?_drop] using this

theorem lenF_length (L : List Int) : ∀ (f i : Nat) (ls : List Int) (st : St), (lenF L f i ls st).1.length = ls.length
  | 0, _, _, _ => rfl
  | f + 1, i, ls, st => by
    rw [lenF]; split
    · rfl
    · rw [lenF_length L f]; simp
theorem lenF_within {L : List Int} (hb : Bits L) : ∀ (f i : Nat) (ls : List Int) (st : St), Within ls 7 → Within (lenF L f i ls st).1 7
  | 0, _, _, _, h => h
  | f + 1, i, ls, st, h => by
    rw [lenF]; split
    · exact h
    · have ht := take_range hb st 3
      exact lenF_within hb f _ _ _ (within_set h _ _ ⟨ht.1, by omega⟩)
theorem lsF_within {L : List Int} (hb : Bits L) (ls cd : List Int) (hl : ls.length = 19) (n : Nat) : ∀ (f : Nat) (out : List Int) (st : St), Within out 15 → Within (lsF L ls cd n f out st).1 15
  | 0, _, _, h => h
  | f + 1, out, st, h => by
    have hs := symbol_range L ls cd st
    have h0 : Within [] 15 := fun j => by simp
    simp only [lsF]
    split
    · exact h
    · split
      · exact h0
      · rename_i hbad
        split
        · rename_i h16
          refine lsF_within hb ls cd hl n f _ _ (within_append h ?_)
          exact within_rep 1 _ 15 ⟨hs.1, by omega⟩
        · split
          · split
            · exact h0
            · exact lsF_within hb ls cd hl n f _ _ (within_append h (within_rep _ _ 15 (h _)))
          · split
            · exact lsF_within hb ls cd hl n f _ _ (within_append h (within_rep _ _ 15 (by omega)))
            · exact lsF_within hb ls cd hl n f _ _ (within_append h (within_rep _ _ 15 (by omega)))
theorem listed_within {L : List Int} (hb : Bits L) (ls : List Int) (hl : ls.length = 19) (n : Nat) (st : St) : Within (listed L ls n st).1 15 := by
  have h := lsF_within hb ls (codes ls) hl n (n + 1) [] st (fun j => by simp)
  unfold listed
  simp only
  split
  · exact h
  · exact h

end Go.Proofs.Ytmfijackgekioaa.Rf
