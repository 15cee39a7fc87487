import Derived.Test.YtmfijackgekioaaGreatQEiEl4
import Derived.Test.YtmfijackgekioaaGreatQFbFl10
import Derived.Test.YtmfijackgekioaaGreatQDmDs7
import Derived.Test.YtmfijackgekioaaGreatQUiUm4

/-
  How long the tokens' bits are. For Deflates.
-/
namespace Go.Proofs.YtmfijackgekioaaGreat
open Go.RowKit

theorem dot_nil (N : Nat) (b : Bool) (ls : List Int) : ∀ k, k ≤ N → dot (tal N b []) ls k = 0
  | 0, _ => rfl
  | k + 1, h => by
    rw [dot, dot_nil N b ls k (by omega), tal_getD N b [] k (by omega)]
    simp

theorem dot_cons (N : Nat) (b : Bool) (t : Tok) (ts : List Tok) (ls : List Int) : ∀ k, k ≤ N → dot (tal N b (t :: ts)) ls k = dot (tal N b ts) ls k + if t.1 = b ∧ t.2.1 < k then ls.getD t.2.1 0 else 0
  | 0, _ => by simp [dot]
  | k + 1, h => by
    rw [dot, dot, dot_cons N b t ts ls k (by omega), tal_getD N b (t :: ts) k (by omega), tal_getD N b ts k (by omega), List.countP_cons]
    generalize (ts.countP fun u => decide (u.1 = b ∧ u.2.1 = k)) = c
    by_cases hk : t.1 = b ∧ t.2.1 = k
    · rw [if_neg (show ¬ (t.1 = b ∧ t.2.1 < k) by omega), if_pos (show decide (t.1 = b ∧ t.2.1 = k) = true from decide_eq_true hk), if_pos (show t.1 = b ∧ t.2.1 < k + 1 from ⟨hk.1, by omega⟩), hk.2]
      generalize ls.getD k 0 = x
      have : ((c + 1 : Nat) : Int) * x = (c : Int) * x + x := by rw [Int.natCast_add, Int.add_mul]; simp
      rw [this]
      omega
    · rw [if_neg (show ¬ (decide (t.1 = b ∧ t.2.1 = k) = true) by rw [decide_eq_true_iff]; exact hk), Nat.add_zero]
      by_cases hq : t.1 = b ∧ t.2.1 < k
      · rw [if_pos hq, if_pos (show t.1 = b ∧ t.2.1 < k + 1 from ⟨hq.1, by omega⟩)]
        omega
      · rw [if_neg hq, if_neg (show ¬ (t.1 = b ∧ t.2.1 < k + 1) from fun q => by
          have : t.2.1 ≠ k := fun e => hk ⟨q.1, e⟩
          exact hq ⟨q.1, by omega⟩)]
        omega

/-- The bits of tokens: the extra ones, and those of the codes. -/
theorem tokBits_length (ls ds : List Int) (hl : ∀ j, 0 ≤ ls.getD j 0) (hd : ∀ j, 0 ≤ ds.getD j 0) : ∀ ts : List Tok, (∀ t ∈ ts, TokOk t) →
    ((tokBits ls ds ts).length : Int) = (extraOf ts : Nat) + dot (tal 286 false ts) ls 286 + dot (tal 30 true ts) ds 30
  | [], _ => by rw [dot_nil _ _ _ _ (Nat.le_refl _), dot_nil _ _ _ _ (Nat.le_refl _)]; simp [tokBits, extraOf]
  | t :: r, h => by
    have ih := tokBits_length ls ds hl hd r (fun u hu => h u (List.mem_cons_of_mem _ hu))
    have ht := (h t (List.mem_cons_self ..)).1
    have e1 : tokBits ls ds (t :: r) = (Rf.cbits (if t.1 then ds else ls) t.2.1 ++ Rf.nb t.2.2.1 t.2.2.2) ++ tokBits ls ds r := by simp [tokBits]
    have e2 : extraOf (t :: r) = t.2.2.2 + extraOf r := by simp [extraOf]
    rw [e1, e2, dot_cons _ _ _ _ _ _ (Nat.le_refl _), dot_cons _ _ _ _ _ _ (Nat.le_refl _), List.length_append, List.length_append, Rf.cbits_length, Rf.nb_length]
    have h1 := hl t.2.1
    have h2 := hd t.2.1
    cases hb : t.1 with
    | false =>
      rw [hb] at ht
      have ht : t.2.1 ≤ 285 := ht
      rw [if_neg (show ¬ (false = true) by decide), if_pos (show false = false ∧ t.2.1 < 286 from ⟨rfl, by omega⟩), if_neg (show ¬ (false = true ∧ t.2.1 < 30) from fun q => Bool.noConfusion q.1)]
      omega
    | true =>
      rw [hb] at ht
      have ht : t.2.1 ≤ 29 := ht
      rw [if_pos (show true = true from rfl), if_neg (show ¬ (true = false ∧ t.2.1 < 286) from fun q => Bool.noConfusion q.1), if_pos (show true = true ∧ t.2.1 < 30 from ⟨rfl, by omega⟩)]
      omega
end Go.Proofs.YtmfijackgekioaaGreat

/-
  The tokens of steps may be. For Deflates.
-/
namespace Go.Proofs.YtmfijackgekioaaGreat
open Go.RowKit

theorem toksOf_ok (U : List UInt8) (n : Nat) : ∀ (p : Nat) (steps : List (Nat × Nat)), StepsOk n p steps → ∀ t ∈ toksOf U p steps, TokOk t
  | p, [], _, t, ht => by
    have e : t = (false, 256, 0, 0) := by simpa [toksOf] using ht
    subst e
    exact ⟨by show 256 ≤ 285; omega, by show 0 < 2 ^ 0; omega, by show 0 ≤ 13; omega⟩
  | p, s :: r, h, t, ht => by
    rw [toksOf, List.mem_append] at ht
    rcases ht with ht | ht
    · unfold stepToks at ht
      by_cases h0 : s.2 = 0
      · rw [if_pos h0] at ht
        have e : t = (false, (U.getD p 0).toNat, 0, 0) := by simpa using ht
        subst e
        have := (U.getD p 0).toNat_lt
        exact ⟨by show (U.getD p 0).toNat ≤ 285; omega, by show 0 < 2 ^ 0; omega, by show 0 ≤ 13; omega⟩
      · rw [if_neg h0] at ht
        rcases h.1 with ⟨q, _⟩ | ⟨a, b, c, d, _⟩
        · exact absurd q h0
        · have l1 := Rf.lix_ok s.1 a b
          have d1 := Rf.dix_ok s.2 c d
          have e : t = (false, 257 + Rf.lix s.1, s.1 - Rf.lbase (Rf.lix s.1), Rf.lb (Rf.lix s.1)) ∨ t = (true, Rf.dix s.2, s.2 - Rf.dbase (Rf.dix s.2), Rf.db (Rf.dix s.2)) := by simpa using ht
          rcases e with e | e
          · subst e
            exact ⟨by show 257 + Rf.lix s.1 ≤ 285; omega, l1.2.2, by have := rlb_le _ l1.1; show Rf.lb (Rf.lix s.1) ≤ 13; omega⟩
          · subst e
            exact ⟨d1.1, d1.2.2, rdb_le _ d1.1⟩
    · exact toksOf_ok U n (p + s.1) r h.2 t ht
end Go.Proofs.YtmfijackgekioaaGreat

/-
  Blocks of kinds 1 and 2 bring a part: what is written of its tokens. For Deflates.
-/
namespace Go.Proofs.YtmfijackgekioaaGreat
open Go.RowKit

theorem nxI_take (ls : List Int) (m n b : Nat) : ∀ i, i ≤ m → Rf.nxI (ls.take m) n b i = Rf.nxI ls n b i
  | 0, _ => rfl
  | i + 1, h => by rw [Rf.nxI, Rf.nxI, nxI_take ls m n b i (by omega), getD_take, if_pos (show i < m by omega)]
theorem nxI_zero (ls : List Int) (n b m : Nat) : ∀ k, m ≤ k → (∀ j, m ≤ j → j < k → ls.getD j 0 = 0) → Rf.nxI ls (n + 1) b k = Rf.nxI ls (n + 1) b m
  | 0, h, _ => by rw [show m = 0 by omega]
  | k + 1, h, hz => by
    by_cases e : m = k + 1
    · rw [e]
    · rw [Rf.nxI, nxI_zero ls n b m k (by omega) (fun j h1 h2 => hz j h1 (by omega)), hz k (by omega) (by omega), if_neg (by omega)]
      rfl
theorem nxO_take (ls : List Int) (m : Nat) (hm : m ≤ ls.length) (hz : ∀ j, m ≤ j → j < ls.length → ls.getD j 0 = 0) : ∀ n, Rf.nxO (ls.take m) n = Rf.nxO ls n
  | 0 => rfl
  | n + 1 => by
    rw [Rf.nxO, Rf.nxO, nxO_take ls m hm hz n, List.length_take, Nat.min_eq_left hm, nxI_take ls m _ _ m (Nat.le_refl _), nxI_zero ls n _ m ls.length hm hz]
theorem cbits_take (ls : List Int) (m : Nat) (hm : m ≤ ls.length) (hz : ∀ j, m ≤ j → j < ls.length → ls.getD j 0 = 0) : Rf.cbits (ls.take m) = Rf.cbits ls := by
  funext j
  unfold Rf.cbits
  by_cases h : j < m
  · rw [getD_take, if_pos h]
    unfold Rf.nx
    rw [nxI_take ls m _ _ j (by omega), nxO_take ls m hm hz]
  · have e : ls.getD j 0 = 0 := by
      rcases Nat.lt_or_ge j ls.length with q | q
      · exact hz j (by omega) q
      · rw [List.getD_eq_getElem?_getD, List.getElem?_eq_none q]; rfl
    rw [getD_take, if_neg h, e]
    rfl

theorem allBits_ge (sb fb : Nat → List Int) (T : List UInt8) : ∀ (S : List (Nat × Nat)) (p : Nat), (∀ i, Rf.SymIn T p S i → 1 ≤ (sb i).length) → S.length ≤ (Rf.allBits sb fb T p S).length
  | [], _, _ => Nat.zero_le _
  | s :: r, p, h => by
    have ih := allBits_ge sb fb T r (p + s.1) (fun i hi => h i (.inr hi))
    have h1 : 1 ≤ (Rf.stepBits sb fb T p s).length := by
      unfold Rf.stepBits
      by_cases h0 : s.2 = 0
      · rw [if_pos h0]
        exact h _ (.inl (by rw [if_pos h0]))
      · rw [if_neg h0, List.length_append]
        have := h (257 + Rf.lix s.1) (.inl (by rw [if_neg h0]))
        omega
    rw [Rf.allBits, List.length_append, List.length_cons]
    omega

theorem symIn_tok (T U : List UInt8) (o n : Nat) (hU : ∀ j, j < n → U.getD j 0 = T.getD (o + j) 0) : ∀ (p : Nat) (S : List (Nat × Nat)), StepsOk n p S → ∀ i, Rf.SymIn T (o + p) S i → ∃ x k, (false, i, x, k) ∈ toksOf U p S
  | p, [], _, i, h => ⟨0, 0, by rw [show i = 256 from h]; simp [toksOf]⟩
  | p, s :: r, hok, i, h => by
    rw [toksOf]
    rcases h with h | h
    · unfold stepToks
      by_cases h0 : s.2 = 0
      · rw [if_pos h0] at h ⊢
        have hp : p < n := by
          rcases hok.1 with ⟨_, _, q⟩ | ⟨_, _, q, _⟩
          · exact q
          · omega
        exact ⟨0, 0, by rw [h, ← hU p hp]; simp⟩
      · rw [if_neg h0] at h ⊢
        exact ⟨s.1 - Rf.lbase (Rf.lix s.1), Rf.lb (Rf.lix s.1), by rw [h]; simp⟩
    · rw [Nat.add_assoc] at h
      obtain ⟨x, k, hx⟩ := symIn_tok T U o n hU (p + s.1) r hok.2 i h
      exact ⟨x, k, List.mem_append_right _ hx⟩
theorem distIn_tok (U : List UInt8) : ∀ (p : Nat) (S : List (Nat × Nat)) (j : Nat), Rf.DistIn S j → ∃ x k, (true, j, x, k) ∈ toksOf U p S
  | p, s :: r, j, h => by
    rw [toksOf]
    rcases h with ⟨h0, h⟩ | h
    · unfold stepToks
      rw [if_neg h0]
      exact ⟨s.2 - Rf.dbase (Rf.dix s.2), Rf.db (Rf.dix s.2), by rw [h]; simp⟩
    · obtain ⟨x, k, hx⟩ := distIn_tok U (p + s.1) r j h
      exact ⟨x, k, List.mem_append_right _ hx⟩
theorem end_tok (U : List UInt8) : ∀ (p : Nat) (S : List (Nat × Nat)), (false, 256, 0, 0) ∈ toksOf U p S
  | _, [] => by simp [toksOf]
  | p, s :: r => by rw [toksOf]; exact List.mem_append_right _ (end_tok U (p + s.1) r)
theorem tal_pos (N : Nat) (b : Bool) (ts : List Tok) (t : Tok) (h : t ∈ ts) (hb : t.1 = b) (hN : t.2.1 < N) : 0 < (tal N b ts).getD t.2.1 0 := by
  rw [tal_getD N b ts t.2.1 hN]
  have : 0 < ts.countP (fun u => decide (u.1 = b ∧ u.2.1 = t.2.1)) := List.countP_pos_iff.2 ⟨t, h, by simp [hb]⟩
  omega
theorem tellOk_mem : ∀ (out : List Int) (ts : List (Nat × Nat)), Rf.TellOk out ts → ∀ t ∈ ts, t.1 ≤ 18
  | _, [], _, t, h => by simp at h
  | out, u :: r, hk, t, h => by
    rcases List.mem_cons.1 h with e | h
    · rw [e]; exact hk.1
    · exact tellOk_mem _ r hk.2.2.2 t h

theorem fs_one (l : List Int) (j : Nat) (h : ∀ i, l.getD i 0 = if i = j then 1 else 0) : ∀ k, Rf.fs l k = if j < k then 16384 else 0
  | 0 => by simp [Rf.fs]
  | k + 1 => by
    rw [Rf.fs, fs_one l j h k, h k]
    by_cases e : k = j
    · subst e
      simp
    · rw [if_neg e]
      by_cases e2 : j < k
      · have e3 : j < k + 1 := by omega
        simp [e2, e3]
      · have e3 : ¬ j < k + 1 := by omega
        simp only [if_neg e2, if_neg e3]
        simp
theorem fs_none (l : List Int) (h : ∀ i, l.getD i 0 = 0) : ∀ k, Rf.fs l k = 0
  | 0 => rfl
  | k + 1 => by rw [Rf.fs, fs_none l h k, h k]; simp
theorem LensOk.fs {ws lens : List Int} {N L : Nat} (h : LensOk ws N L lens) : Rf.fs lens N ≤ 32768 := by
  rcases Nat.lt_or_ge (heavy ws N).length 2 with hlt | hge
  · rcases Nat.lt_or_ge (heavy ws N).length 1 with h0 | h1
    · have e0 : heavy ws N = [] := List.eq_nil_of_length_eq_zero (by omega)
      rw [fs_none lens (fun i => h.non i (by rw [e0]; simp))]
      omega
    · obtain ⟨j, ej⟩ := List.length_eq_one_iff.1 (show (heavy ws N).length = 1 by omega)
      have hj : lens.getD j 0 = 1 := h.one (by omega) j (by rw [ej]; simp)
      rw [fs_one lens j (fun i => by
        by_cases e : i = j
        · rw [if_pos e, e, hj]
        · rw [if_neg e]
          exact h.non i (by rw [ej]; simpa using e))]
      split <;> omega
  · rw [h.full hge]
    exact Nat.le_refl _

/-- A part of a text, and steps that fit it. -/
structure Part (T : List UInt8) (p q : Nat) (s : ByteArray) (steps : List (Nat × Nat)) : Prop where
  txt : s.data.toList = (T.take q).drop p
  le : p ≤ q
  qt : q ≤ T.length
  small : q - p ≤ 65535
  fit : Rf.Fits T p steps q
theorem Part.size {T : List UInt8} {p q : Nat} {s : ByteArray} {steps : List (Nat × Nat)} (h : Part T p q s steps) : s.size = q - p := by
  have := congrArg List.length h.txt
  rw [List.length_drop, List.length_take, Array.length_toList] at this
  have e : s.data.size = s.size := rfl
  have := h.le
  have := h.qt
  omega
theorem Part.get {T : List UInt8} {p q : Nat} {s : ByteArray} {steps : List (Nat × Nat)} (h : Part T p q s steps) : ∀ j, j < q - p → s.data.toList.getD j 0 = T.getD (p + j) 0 := fun j hj => by
  rw [h.txt, List.getD_eq_getElem?_getD, List.getD_eq_getElem?_getD, List.getElem?_drop, List.getElem?_take, if_pos (by omega)]
theorem Part.ok {T : List UInt8} {p q : Nat} {s : ByteArray} {steps : List (Nat × Nat)} (h : Part T p q s steps) : StepsOk s.size 0 steps := by
  rw [h.size]
  refine fits_steps T p (q - p) (p := 0) ?_
  have := h.le
  rw [Nat.add_zero, show p + (q - p) = q by omega]
  exact h.fit
theorem Part.bits {T : List UInt8} {p q : Nat} {s : ByteArray} {steps : List (Nat × Nat)} (h : Part T p q s steps) (ls ds : List Int) : tokBits ls ds (toksOf s.data.toList 0 steps) = Rf.allBits (Rf.cbits ls) (Rf.cbits ds) T p steps := by
  have := h.ok
  rw [h.size] at this
  exact tok_all ls ds T s.data.toList p (q - p) h.get 0 steps this
theorem Part.toks {T : List UInt8} {p q : Nat} {s : ByteArray} {steps : List (Nat × Nat)} (h : Part T p q s steps) : ∀ t ∈ toksOf s.data.toList 0 steps, TokOk t := toksOf_ok _ s.size 0 steps h.ok
theorem Part.sym {T : List UInt8} {p q : Nat} {s : ByteArray} {steps : List (Nat × Nat)} (h : Part T p q s steps) (i : Nat) (hi : Rf.SymIn T p steps i) : i ≤ 285 ∧ 0 < (tal 286 false (toksOf s.data.toList 0 steps)).getD i 0 := by
  have ok := h.ok
  rw [h.size] at ok
  obtain ⟨x, k, hx⟩ := symIn_tok T s.data.toList p (q - p) h.get 0 steps ok i hi
  have h1 : i ≤ 285 := (h.toks _ hx).1
  exact ⟨h1, tal_pos 286 false _ _ hx rfl (by show i < 286; omega)⟩
theorem Part.dist {T : List UInt8} {p q : Nat} {s : ByteArray} {steps : List (Nat × Nat)} (h : Part T p q s steps) (j : Nat) (hj : Rf.DistIn steps j) : j ≤ 29 ∧ 0 < (tal 30 true (toksOf s.data.toList 0 steps)).getD j 0 := by
  obtain ⟨x, k, hx⟩ := distIn_tok s.data.toList 0 steps j hj
  have h1 : j ≤ 29 := (h.toks _ hx).1
  exact ⟨h1, tal_pos 30 true _ _ hx rfl (by show j < 30; omega)⟩

theorem tokBits_congr (ls ds ds' : List Int) (h : ∀ j, j ≤ 29 → Rf.cbits ds j = Rf.cbits ds' j) : ∀ ts : List Tok, (∀ t ∈ ts, TokOk t) → tokBits ls ds ts = tokBits ls ds' ts
  | [], _ => rfl
  | t :: r, hk => by
    have ih := tokBits_congr ls ds ds' h r (fun u hu => hk u (List.mem_cons_of_mem _ hu))
    have e : ∀ d, tokBits ls d (t :: r) = (Rf.cbits (if t.1 then d else ls) t.2.1 ++ Rf.nb t.2.2.1 t.2.2.2) ++ tokBits ls d r := fun d => by simp [tokBits]
    rw [e, e, ih]
    have ht := (hk t (List.mem_cons_self ..)).1
    cases hb : t.1 with
    | false => simp
    | true =>
      rw [hb] at ht
      have ht : t.2.1 ≤ 29 := ht
      simp [h _ ht]

theorem fix_codes : ∀ j, j ≤ 29 → Rf.cbits fixP j = Rf.cbits Rf.fixD j := by decide +kernel
theorem fix_pos : ∀ j, j < 288 → 1 ≤ Rf.fixS.getD j 0 := by decide +kernel

/-- A block of kind 1. -/
theorem Part.fixed {T : List UInt8} {p q : Nat} {s : ByteArray} {steps : List (Nat × Nat)} (h : Part T p q s steps) (at_ : Nat) : Rf.Brings T T.length at_ p q 1 (tokBits Rf.fixS fixP (toksOf s.data.toList 0 steps)) := by
  rw [tokBits_congr Rf.fixS fixP Rf.fixD fix_codes _ h.toks, h.bits]
  refine Rf.brings_fixed (Int.le_refl _) h.fit (Rf.fixed_known h.fit) (allBits_ge _ _ _ _ _ (fun i hi => ?_))
  have h1 := (h.sym i hi).1
  have := fix_pos i (by omega)
  rw [Rf.cbits_length]
  omega

theorem fs_trim {ws lens : List Int} {N L : Nat} (h : LensOk ws N L lens) (m : Nat) (hm : m ≤ N) (hz : ∀ j, m ≤ j → j < N → lens.getD j 0 = 0) : Rf.fs (lens.take m) (lens.take m).length ≤ 32768 := by
  rw [List.length_take, h.len, Nat.min_eq_left hm, fs_take lens m m (Nat.le_refl _), ← fs_zero lens m N hm hz]
  exact h.fs

/-- A block of kind 2. -/
theorem Part.own {T : List UInt8} {p q : Nat} {s : ByteArray} {steps : List (Nat × Nat)} (h : Part T p q s steps) (at_ : Nat) {ls ds nl : List Int} (hm : Made (tal 286 false (toksOf s.data.toList 0 steps)) (tal 30 true (toksOf s.data.toList 0 steps)) ls ds nl) :
    Rf.Brings T T.length at_ p q 2 (Rf.headBits (trimF ls 257 286 - 257) (trimF ds 1 30 - 1) (trimF (inOrd nl 19) 4 19) nl (E (toldL ls ds 286 30)) ++ tokBits ls ds (toksOf s.data.toList 0 steps)) := by
  obtain ⟨ws, hw1, hw2, hw3⟩ := hm.s
  obtain ⟨wn, hn1, hn2, hn3⟩ := hm.n
  have a0 := trimF_le ls 257 286
  have a1 := trimF_ge ls 257 286 (by omega)
  have az := trimF_zero ls 257 286
  have b0 := trimF_le ds 1 30
  have b1 := trimF_ge ds 1 30 (by omega)
  have bz := trimF_zero ds 1 30
  have e1 : Rf.cbits (ls.take (trimF ls 257 286)) = Rf.cbits ls := cbits_take ls _ (by rw [hw3.len]; exact a0) (by rw [hw3.len]; exact az)
  have e2 : Rf.cbits (ds.take (trimF ds 1 30)) = Rf.cbits ds := cbits_take ds _ (by rw [hm.d.len]; exact b0) (by rw [hm.d.len]; exact bz)
  have hsy : ∀ i, Rf.SymIn T p steps i → 1 ≤ (ls.take (trimF ls 257 286)).getD i 0 := fun i hi => by
    obtain ⟨h1, h2⟩ := h.sym i hi
    have h3 := hw3.pos i ((heavy_mem ws 286 i).2 ⟨by omega, hw1.keep i h2⟩)
    have h4 : i < trimF ls 257 286 := by
      rcases Nat.lt_or_ge i (trimF ls 257 286) with q | q
      · exact q
      · have := az i q (by omega)
        omega
    rw [getD_take, if_pos h4]
    omega
  have hdi : ∀ j, Rf.DistIn steps j → 1 ≤ (ds.take (trimF ds 1 30)).getD j 0 := fun i hi => by
    obtain ⟨h1, h2⟩ := h.dist i hi
    have h3 := hm.d.pos i ((heavy_mem _ 30 i).2 ⟨by omega, h2⟩)
    have h4 : i < trimF ds 1 30 := by
      rcases Nat.lt_or_ge i (trimF ds 1 30) with q | q
      · exact q
      · have := bz i q (by omega)
        omega
    rw [getD_take, if_pos h4]
    omega
  have hte := toldL_le ls ds 286 30 (fun j => (hw3.rng j).2) (fun j => (hm.d.rng j).2)
  have htk := Rf.eachTok_tell (toldL ls ds 286 30).length (toldL ls ds 286 30) [] (Nat.le_refl _) hte
  have hti := toldL_ints ls ds 286 30 (fun j => (hw3.rng j).1) (fun j => (hm.d.rng j).1)
  have w15 : ∀ j, (ls.take (trimF ls 257 286)).getD j 0 ≤ 15 := fun j => by
    rw [getD_take]
    split
    · exact (hw3.rng j).2
    · omega
  have v15 : ∀ j, (ds.take (trimF ds 1 30)).getD j 0 ≤ 15 := fun j => by
    rw [getD_take]
    split
    · exact (hm.d.rng j).2
    · omega
  have h256 : 0 < (tal 286 false (toksOf s.data.toList 0 steps)).getD 256 0 := by
    have := tal_pos 286 false _ (false, 256, 0, 0) (end_tok s.data.toList 0 steps) rfl (show 256 < 286 by omega)
    exact this
  rw [h.bits, ← e1, ← e2]
  refine Rf.brings_own (Int.le_refl _) (by omega) (by omega) (trimF_ge _ 4 19 (by omega)) (trimF_le _ 4 19) hn3.len hn3.rng (fun i h1 h2 => ?_) ?_ htk.2 (fun t ht => ?_) ?_ (by rw [List.length_take, hw3.len]; omega) (by rw [List.length_take, hm.d.len]; omega) (lists_good hm h256) h.fit
    (Rf.known_in w15 (fs_trim hw3 _ a0 az) v15 (fs_trim hm.d _ b0 bz) steps p hsy hdi) (allBits_ge _ _ _ _ _ (fun i hi => by rw [Rf.cbits_length]; have := hsy i hi; omega))
  · have := trimF_zero (inOrd nl 19) 4 19 i h1 h2
    rw [inOrd_getD nl 19 i h2] at this
    exact this
  · unfold Rf.full
    rw [hn3.len]
    exact decide_eq_true (hn3.full hn2)
  · have h18 := tellOk_mem _ _ htk.2 t ht
    have := hn3.pos t.1 ((heavy_mem wn 19 t.1).2 ⟨by omega, hn1.keep t.1 (ntal_pos _ t ht h18)⟩)
    omega
  · rw [← hti]
    exact htk.1.trans (List.nil_append _)
end Go.Proofs.YtmfijackgekioaaGreat
