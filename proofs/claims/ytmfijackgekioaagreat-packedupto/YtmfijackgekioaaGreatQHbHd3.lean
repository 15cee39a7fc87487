import Derived.Test.YtmfijackgekioaaGreatQRbRj3
import Derived.Test.YtmfijackgekioaaGreatQUuUv2

/-
  More bits behind those that are read change nothing; what is cut is read as bad. For Packed.
-/
namespace Go.Proofs.YtmfijackgekioaaGreat.Rf

theorem bv_ext (L X : List Int) (p : Nat) : ∀ k, p + k ≤ L.length → bv (L ++ X) p k = bv L p k
  | 0, _ => rfl
  | k + 1, h => by
    rw [bv, bv, bv_ext L X p k (by omega)]
    simp only [List.getD_eq_getElem?_getD]
    rw [List.getElem?_append_left (by omega)]
theorem take_ext (L X : List Int) (st : St) (n : Nat) (h : (take L st n).2.bad = false) : take (L ++ X) st n = take L st n := by
  unfold take at *
  split at h
  · cases h
  · rename_i hn
    rw [if_neg hn, if_neg (by rw [List.length_append]; omega), bv_ext L X st.pos n (by omega)]
theorem take_len {L : List Int} {st : St} {n : Nat} (h : (take L st n).2.bad = false) : (take L st n).2.pos = st.pos + n ∧ st.pos + n ≤ L.length ∧ st.bad = false := by
  unfold take at *
  split at h
  · cases h
  · rename_i hn
    rw [if_neg hn]
    exact ⟨rfl, by omega, h⟩
theorem symF_ext (L X ls cd : List Int) : ∀ (f n : Nat) (v : Int) (st : St), (symF L ls cd f n v st).2.bad = false → symF (L ++ X) ls cd f n v st = symF L ls cd f n v st
  | 0, _, _, st, _ => rfl
  | f + 1, n, v, st, h => by
    simp only [symF] at h ⊢
    rcases Bool.eq_false_or_eq_true ((take L st 1).2.bad) with hb | hb
    · rw [hb, if_pos rfl] at h; simp only at h; rw [hb] at h; cases h
    ·
      rw [take_ext L X st 1 hb, hb]
      rw [hb] at h
      simp only [Bool.false_eq_true, if_false] at h ⊢
      cases hf : find ls cd ((n : Int) + 1) (2 * v + (take L st 1).1) with
      | some i => rfl
      | none => rw [hf] at h; exact symF_ext L X ls cd f _ _ _ h
theorem symbol_ext (L X ls cd : List Int) (st : St) (h : (symbol L ls cd st).2.bad = false) : symbol (L ++ X) ls cd st = symbol L ls cd st := symF_ext L X ls cd 15 0 0 st h
theorem symF_bad (L ls cd : List Int) : ∀ (f n : Nat) (v : Int) (st : St), st.bad = true → (symF L ls cd f n v st).2.bad = true
  | 0, _, _, st, _ => rfl
  | f + 1, n, v, st, h => by
    have : (take L st 1).2.bad = true := by unfold take; split <;> simp [h]
    simp only [symF]
    rw [if_pos this]
    exact this
theorem lenF_bad (L : List Int) : ∀ (f i : Nat) (ls : List Int) (st : St), st.bad = true → (lenF L f i ls st).2.bad = true
  | 0, _, _, _, h => h
  | f + 1, i, ls, st, h => by rw [lenF, if_pos h]; exact h
theorem lenF_ext (L X : List Int) : ∀ (f i : Nat) (ls : List Int) (st : St), (lenF L f i ls st).2.bad = false → lenF (L ++ X) f i ls st = lenF L f i ls st
  | 0, _, _, _, _ => rfl
  | f + 1, i, ls, st, h => by
    rw [lenF] at h ⊢
    rw [lenF]
    rcases Bool.eq_false_or_eq_true (st.bad) with hs | hs
    · rw [if_pos hs, if_pos hs]
    ·
      simp only [hs, Bool.false_eq_true, if_false] at h ⊢
      rcases Bool.eq_false_or_eq_true ((take L st 3).2.bad) with hb | hb
      · rw [lenF_bad L f _ _ _ hb] at h; cases h
      · rw [take_ext L X st 3 hb]; exact lenF_ext L X f _ _ _ h
theorem lsF_bad (L ls cd : List Int) (n : Nat) : ∀ (f : Nat) (out : List Int) (st : St), st.bad = true → (lsF L ls cd n f out st).2.bad = true
  | 0, _, _, h => h
  | f + 1, out, st, h => by rw [lsF, if_pos (.inr h)]; exact h
theorem lsF_ext (L X ls cd : List Int) (n : Nat) : ∀ (f : Nat) (out : List Int) (st : St), (lsF L ls cd n f out st).2.bad = false → lsF (L ++ X) ls cd n f out st = lsF L ls cd n f out st
  | 0, _, _, _ => rfl
  | f + 1, out, st, h => by
    have key : ∀ k (o : Nat → List Int), (lsF L ls cd n f (o (take L (symbol L ls cd st).2 k).1.toNat) (take L (symbol L ls cd st).2 k).2).2.bad = false → (symbol L ls cd st).2.bad = false →
        lsF (L ++ X) ls cd n f (o (take (L ++ X) (symbol (L ++ X) ls cd st).2 k).1.toNat) (take (L ++ X) (symbol (L ++ X) ls cd st).2 k).2 = lsF L ls cd n f (o (take L (symbol L ls cd st).2 k).1.toNat) (take L (symbol L ls cd st).2 k).2 := by
      intro k o hh hs
      rw [symbol_ext L X ls cd st hs]
      rcases Bool.eq_false_or_eq_true ((take L (symbol L ls cd st).2 k).2.bad) with hb | hb
      · rw [lsF_bad L ls cd n f _ _ hb] at hh; cases hh
      · rw [take_ext L X _ k hb]; exact lsF_ext L X ls cd n f _ _ hh
    simp only [lsF] at h ⊢
    by_cases h0 : n ≤ out.length ∨ st.bad = true
    · rw [if_pos h0, if_pos h0]
    rw [if_neg h0] at h
    rw [if_neg h0, if_neg h0]
    rcases Bool.eq_false_or_eq_true ((symbol L ls cd st).2.bad) with hs | hs
    · rw [if_pos hs] at h; simp only at h; rw [hs] at h; cases h
    ·
      have es := symbol_ext L X ls cd st hs
      rw [es] at key ⊢
      rw [hs] at h ⊢
      simp only [Bool.false_eq_true, if_false] at h ⊢
      by_cases h1 : (symbol L ls cd st).1 < 16
      · simp only [if_pos h1] at h ⊢
        exact lsF_ext L X ls cd n f _ _ h
      simp only [if_neg h1] at h ⊢
      by_cases h2 : (symbol L ls cd st).1 = 16
      · simp only [if_pos h2] at h ⊢
        by_cases h3 : out = []
        · rw [if_pos h3] at h
          simp only at h
          cases h
        · simp only [if_neg h3] at h ⊢
          exact key 2 (fun a => out ++ List.replicate (3 + a) (out.getD (out.length - 1) 0)) h hs
      simp only [if_neg h2] at h ⊢
      by_cases h4 : (symbol L ls cd st).1 = 17
      · simp only [if_pos h4] at h ⊢
        exact key 3 (fun a => out ++ List.replicate (3 + a) 0) h hs
      simp only [if_neg h4] at h ⊢
      exact key 7 (fun a => out ++ List.replicate (11 + a) 0) h hs
theorem listed_ext (L X ls : List Int) (n : Nat) (st : St) (h : (listed L ls n st).2.bad = false) : listed (L ++ X) ls n st = listed L ls n st := by
  unfold listed at *
  simp only at *
  have hb : (lsF L ls (codes ls) n (n + 1) [] st).2.bad = false := by
    split at h
    · exact h
    · cases h
  rw [lsF_ext L X ls _ n _ _ _ hb]
theorem plF_bad (L : List Int) : ∀ (f : Nat) (st : St), st.bad = true → (plF L f st).bad = true
  | 0, _, h => h
  | f + 1, st, h => by rw [plF, if_pos h]; exact h
theorem plF_ext (L X : List Int) : ∀ (f : Nat) (st : St), (plF L f st).bad = false → plF (L ++ X) f st = plF L f st
  | 0, _, _ => rfl
  | f + 1, st, h => by
    simp only [plF] at h ⊢
    rcases Bool.eq_false_or_eq_true (st.bad) with hs | hs
    · rw [if_pos hs, if_pos hs]
    ·
      simp only [hs, Bool.false_eq_true, if_false] at h ⊢
      rcases Bool.eq_false_or_eq_true ((take L st 8).2.bad) with hb | hb
      · rw [plF_bad L f _ (by exact hb)] at h; cases h
      · rw [take_ext L X st 8 hb]; exact plF_ext L X f _ h
theorem plF_end (L : List Int) : ∀ (f : Nat) (st : St), st.pos ≤ L.length → (plF L f st).pos ≤ L.length
  | 0, _, h => h
  | f + 1, st, h => by
    simp only [plF]
    split
    · exact h
    · exact plF_end L f _ (take_pos L st 8 h)
theorem room_eq (limit : Int) (st : St) (n : Nat) : (room limit st n).2.pos = st.pos ∧ (room limit st n).2.bad = st.bad := ⟨(room_out limit st n).2.2.1, (room_out limit st n).2.2.2⟩
theorem plain_ext (L X : List Int) (limit : Int) (st : St) (h : (plain L limit st).bad = false) : plain (L ++ X) limit st = plain L limit st ∧ (plain L limit st).pos ≤ L.length := by
  unfold plain at *
  simp only at *
  rcases Bool.eq_false_or_eq_true ((take L { st with pos := (st.pos + 7) / 8 * 8 } 16).2.bad) with ha | ha
  ·
    have hb : (take L (take L { st with pos := (st.pos + 7) / 8 * 8 } 16).2 16).2.bad = true := by
      generalize take L { st with pos := (st.pos + 7) / 8 * 8 } 16 = A at *
      unfold take; split <;> simp [ha]
    generalize take L (take L { st with pos := (st.pos + 7) / 8 * 8 } 16).2 16 = B at *
    exfalso
    have h3 : (if (take L { st with pos := (st.pos + 7) / 8 * 8 } 16).1 + B.1 = 65535 then B.2 else { B.2 with bad := true }).bad = true := by
      split
      · exact hb
      · rfl
    rw [if_pos h3, h3] at h
    cases h
  ·
    have eA := take_ext L X _ 16 ha
    rw [eA]
    generalize take L { st with pos := (st.pos + 7) / 8 * 8 } 16 = A at *
    rcases Bool.eq_false_or_eq_true ((take L A.2 16).2.bad) with hb | hb
    ·
      generalize take L A.2 16 = B at *
      exfalso
      have h3 : (if A.1 + B.1 = 65535 then B.2 else { B.2 with bad := true }).bad = true := by
        split
        · exact hb
        · rfl
      rw [if_pos h3, h3] at h
      cases h
    ·
      have hl := take_len hb
      rw [take_ext L X _ 16 hb]
      have hp : (take L A.2 16).2.pos ≤ L.length := by omega
      generalize take L A.2 16 = B at *
      by_cases hs : A.1 + B.1 = 65535
      · simp only [if_pos hs, hb, Bool.false_eq_true, if_false] at h ⊢
        have hr := room_eq limit B.2 A.1.toNat
        generalize room limit B.2 A.1.toNat = R at *
        by_cases hr1 : R.1 = true
        · simp only [if_pos hr1] at h ⊢
          exact ⟨plF_ext L X _ _ h, plF_end L _ _ (by omega)⟩
        · rw [if_neg hr1, if_neg hr1]
          exact ⟨rfl, by omega⟩
      · simp only [if_neg hs, if_true] at h
        cases h
theorem lenOf_ext (L X : List Int) (i : Nat) (st : St) (h : (lenOf L i st).2.bad = false) : lenOf (L ++ X) i st = lenOf L i st := by
  unfold lenOf at *
  split
  · rfl
  · rename_i h1
    rw [if_neg h1] at h
    split
    · rename_i h2
      rw [if_pos h2] at h
      rw [take_ext L X st _ h]
    · rfl
theorem distOf_ext (L X : List Int) (j : Nat) (st : St) (h : (distOf L j st).2.bad = false) : distOf (L ++ X) j st = distOf L j st := by
  unfold distOf at *
  split
  · rename_i h2
    rw [if_pos h2] at h
    rw [take_ext L X st _ h]
  · rfl
theorem lenOf_pos (L : List Int) (i : Nat) (st : St) (h : st.pos ≤ L.length) : (lenOf L i st).2.pos ≤ L.length ∧ st.pos ≤ (lenOf L i st).2.pos := by
  unfold lenOf
  repeat' split
  all_goals first | exact ⟨h, Nat.le_refl _⟩ | exact ⟨take_pos L st _ h, take_mono L st _⟩
theorem distOf_pos (L : List Int) (j : Nat) (st : St) (h : st.pos ≤ L.length) : (distOf L j st).2.pos ≤ L.length ∧ st.pos ≤ (distOf L j st).2.pos := by
  unfold distOf
  split
  · exact ⟨take_pos L st _ h, take_mono L st _⟩
  · exact ⟨h, Nat.le_refl _⟩
theorem copied_ext (L X : List Int) (limit : Int) (i : Nat) (far code : List Int) (st : St) (hp : st.pos ≤ L.length) (h : (copied L limit i far code st).bad = false) :
    copied (L ++ X) limit i far code st = copied L limit i far code st ∧ (copied L limit i far code st).pos ≤ L.length ∧ st.pos ≤ (copied L limit i far code st).pos := by
  unfold copied at *
  obtain ⟨p1, q1⟩ := lenOf_pos L i st hp
  rcases Bool.eq_false_or_eq_true ((lenOf L i st).2.bad) with ha | ha
  · rw [ha, if_pos rfl] at h; rw [ha] at h; cases h
  ·
    rw [lenOf_ext L X i st ha]
    rw [ha] at h ⊢
    simp only [Bool.false_eq_true, if_false] at h ⊢
    generalize lenOf L i st = A at *
    have p2 := symF_le L far code 15 0 0 A.2 p1
    have q2 := symbol_mono L far code A.2
    change (symbol L far code A.2).2.pos ≤ _ at p2
    rcases Bool.eq_false_or_eq_true ((symbol L far code A.2).2.bad) with hs | hs
    · rw [if_pos (.inl hs)] at h; cases h
    ·
      rw [symbol_ext L X far code A.2 hs]
      generalize symbol L far code A.2 = S at *
      by_cases h29 : 29 < S.1
      · rw [if_pos (.inr h29)] at h; cases h
      · have hn : ¬ (S.2.bad = true ∨ 29 < S.1) := by rintro (q | q); rw [hs] at q; cases q; exact h29 q
        simp only [if_neg hn] at h ⊢
        obtain ⟨p3, q3⟩ := distOf_pos L S.1.toNat S.2 p2
        rcases Bool.eq_false_or_eq_true ((distOf L S.1.toNat S.2).2.bad) with hd | hd
        · rw [if_pos (.inl hd)] at h; cases h
        ·
          rw [distOf_ext L X _ _ hd]
          generalize distOf L S.1.toNat S.2 = D at *
          refine ⟨rfl, ?_⟩
          split
          · exact ⟨p3, by show _ ≤ D.2.pos; omega⟩
          · have hr := room_eq limit D.2 A.1
            generalize room limit D.2 A.1 = R at *
            split
            · exact ⟨by show R.2.pos ≤ _; omega, by show _ ≤ R.2.pos; omega⟩
            · exact ⟨by omega, by omega⟩
theorem symsF_bad (L : List Int) (limit : Int) (ls cd far fcd : List Int) : ∀ (f : Nat) (st : St), st.bad = true → (symsF L limit ls cd far fcd f st).bad = true
  | 0, _, h => h
  | f + 1, st, h => by rw [symsF, if_pos (by simp [h])]; exact h
theorem symsF_ext (L X : List Int) (limit : Int) (ls cd far fcd : List Int) : ∀ (f g : Nat) (st : St), st.pos ≤ L.length → L.length + 1 ≤ f + st.pos → f ≤ g → (symsF L limit ls cd far fcd f st).bad = false →
    symsF (L ++ X) limit ls cd far fcd g st = symsF L limit ls cd far fcd f st ∧ (symsF L limit ls cd far fcd f st).pos ≤ L.length
  | 0, _, st, hp, hf, _, _ => absurd hf (by omega)
  | f + 1, 0, st, _, _, hg, _ => absurd hg (by omega)
  | f + 1, g + 1, st, hp, hf, hg, h => by
    rw [symsF] at h ⊢
    rw [symsF]
    by_cases h0 : (st.bad || st.full) = true
    · simp only [if_pos h0]; exact ⟨trivial, hp⟩
    simp only [if_neg h0] at h ⊢
    have p2 := symF_le L ls cd 15 0 0 st hp
    change (symbol L ls cd st).2.pos ≤ _ at p2
    rcases Bool.eq_false_or_eq_true ((symbol L ls cd st).2.bad) with hs | hs
    · rw [if_pos (.inl hs), hs] at h; cases h
    ·
      have q2 := symbol_pos L ls cd st hs
      rw [symbol_ext L X ls cd st hs]
      generalize symbol L ls cd st = S at *
      by_cases h1 : S.1 = 256
      · rw [if_pos (.inr h1), if_pos (.inr h1)]; exact ⟨rfl, p2⟩
      have hn : ¬ (S.2.bad = true ∨ S.1 = 256) := by rintro (q | q); rw [hs] at q; cases q; exact h1 q
      simp only [if_neg hn] at h ⊢
      by_cases h2 : S.1 < 256
      · simp only [if_pos h2] at h ⊢
        have hr := room_eq limit S.2 1
        generalize room limit S.2 1 = R at *
        refine symsF_ext L X limit ls cd far fcd f g _ ?_ ?_ (by omega) h
        · split
          · show R.2.pos ≤ _; omega
          · omega
        · split
          · show _ ≤ f + R.2.pos; omega
          · omega
      simp only [if_neg h2] at h ⊢
      by_cases h3 : 285 < S.1
      · rw [if_pos h3, symsF_bad L limit ls cd far fcd f _ rfl] at h; cases h
      simp only [if_neg h3] at h ⊢
      rcases Bool.eq_false_or_eq_true ((copied L limit (S.1 - 257).toNat far fcd S.2).bad) with hc | hc
      · rw [symsF_bad L limit ls cd far fcd f _ hc] at h; cases h
      ·
        obtain ⟨e, p3, q3⟩ := copied_ext L X limit (S.1 - 257).toNat far fcd S.2 p2 hc
        rw [e]
        exact symsF_ext L X limit ls cd far fcd f g _ p3 (by omega) (by omega) h
theorem symbols_ext (L X : List Int) (limit : Int) (ls far : List Int) (st : St) (hp : st.pos ≤ L.length) (h : (symbols L limit ls far st).bad = false) :
    symbols (L ++ X) limit ls far st = symbols L limit ls far st ∧ (symbols L limit ls far st).pos ≤ L.length :=
  symsF_ext L X limit ls _ far _ (L.length + 2) ((L ++ X).length + 2) st hp (by omega) (by rw [List.length_append]; omega) h
theorem take_bad2 {L : List Int} {st : St} {n : Nat} (h : st.bad = true) : (take L st n).2.bad = true := by unfold take; split <;> simp [h]
theorem own_ext (L X : List Int) (limit : Int) (st : St) (hp : st.pos ≤ L.length) (h : (own L limit st).bad = false) : own (L ++ X) limit st = own L limit st ∧ (own L limit st).pos ≤ L.length := by
  unfold own at *
  simp only at *
  have p1 := take_pos L st 5 hp
  rcases Bool.eq_false_or_eq_true ((take L st 5).2.bad) with h1 | h1
  · rw [if_pos (.inl (lenF_bad L _ _ _ _ (take_bad2 (take_bad2 h1))))] at h; cases h
  ·
    rw [take_ext L X st 5 h1]
    generalize take L st 5 = A at *
    have p2 := take_pos L A.2 5 p1
    rcases Bool.eq_false_or_eq_true ((take L A.2 5).2.bad) with h2 | h2
    · rw [if_pos (.inl (lenF_bad L _ _ _ _ (take_bad2 h2)))] at h; cases h
    ·
      rw [take_ext L X A.2 5 h2]
      generalize take L A.2 5 = D at *
      have p3 := take_pos L D.2 4 p2
      rcases Bool.eq_false_or_eq_true ((take L D.2 4).2.bad) with h3 | h3
      · rw [if_pos (.inl (lenF_bad L _ _ _ _ h3))] at h; cases h
      ·
        rw [take_ext L X D.2 4 h3]
        generalize take L D.2 4 = K at *
        have p4 := (lenF_full L (K.1.toNat + 4) 0 (List.replicate 19 0) K.2).2.2 p3
        rcases Bool.eq_false_or_eq_true ((lenF L (K.1.toNat + 4) 0 (List.replicate 19 0) K.2).2.bad) with h4 | h4
        · rw [if_pos (.inl h4)] at h; cases h
        ·
          rw [lenF_ext L X _ _ _ _ h4]
          generalize lenF L (K.1.toNat + 4) 0 (List.replicate 19 0) K.2 = Q at *
          by_cases h5 : Q.2.bad = true ∨ 29 < A.1 ∨ 29 < D.1 ∨ full Q.1 = false
          · rw [if_pos h5] at h; cases h
          simp only [if_neg h5] at h ⊢
          have p5 := (listed_full L Q.1 (A.1 + D.1 + 258).toNat Q.2).2 p4
          rcases Bool.eq_false_or_eq_true ((listed L Q.1 (A.1 + D.1 + 258).toNat Q.2).2.bad) with h6 | h6
          · rw [if_pos h6, h6] at h; cases h
          ·
            rw [listed_ext L X _ _ _ h6]
            rw [h6] at h ⊢
            simp only [Bool.false_eq_true, if_false] at h ⊢
            generalize listed L Q.1 (A.1 + D.1 + 258).toNat Q.2 = Z at *
            by_cases h7 : badLists (Z.1.take (A.1.toNat + 257)) (Z.1.drop (A.1.toNat + 257)) = true
            · rw [if_pos h7] at h; cases h
            simp only [if_neg h7] at h ⊢
            exact symbols_ext L X limit _ _ Z.2 p5 h
theorem block_ext (L X : List Int) (limit k : Int) (st : St) (hp : st.pos ≤ L.length) (h : (block L limit k st).bad = false) : block (L ++ X) limit k st = block L limit k st ∧ (block L limit k st).pos ≤ L.length := by
  unfold block at *
  by_cases h0 : k = 0
  · simp only [if_pos h0] at h ⊢
    exact plain_ext L X limit st h
  simp only [if_neg h0] at h ⊢
  by_cases h1 : k = 1
  · simp only [if_pos h1] at h ⊢
    exact symbols_ext L X limit _ _ st hp h
  simp only [if_neg h1] at h ⊢
  by_cases h2 : k = 2
  · simp only [if_pos h2] at h ⊢
    exact own_ext L X limit st hp h
  rw [if_neg h2] at h
  cases h
end Go.Proofs.YtmfijackgekioaaGreat.Rf

/-
  What is cut is read as bad. For Packed.
-/
namespace Go.Proofs.YtmfijackgekioaaGreat.Rf

theorem infF_bad (L : List Int) (limit : Int) : ∀ (f : Nat) (last : Int) (st : St), st.bad = true → (infF L limit f last st).bad = true
  | 0, _, _, h => h
  | f + 1, last, st, h => by rw [infF, if_pos (.inr (by simp [h]))]; exact h
theorem infF_ext {L : List Int} (hB : Bits L) (X : List Int) (limit : Int) : ∀ (f g : Nat) (last : Int) (st : St), st.pos ≤ L.length → L.length + 1 ≤ f + st.pos → f ≤ g → (infF L limit f last st).bad = false →
    infF (L ++ X) limit g last st = infF L limit f last st ∧ (infF L limit f last st).pos ≤ L.length
  | 0, _, _, st, hp, hf, _, _ => absurd hf (by omega)
  | f + 1, 0, _, st, _, _, hg, _ => absurd hg (by omega)
  | f + 1, g + 1, last, st, hp, hf, hg, h => by
    simp only [infF] at h ⊢
    by_cases h0 : last ≠ 0 ∨ (st.bad || st.full) = true
    · simp only [if_pos h0]; exact ⟨trivial, hp⟩
    simp only [if_neg h0] at h ⊢
    rcases Bool.eq_false_or_eq_true ((take L st 1).2.bad) with h1 | h1
    ·
      have := take_bad2 (L := L) (n := 2) h1
      rw [if_pos this, this] at h; cases h
    ·
      rw [take_ext L X st 1 h1]
      have l1 := take_len h1
      generalize take L st 1 = A at *
      rcases Bool.eq_false_or_eq_true ((take L A.2 2).2.bad) with h2 | h2
      · rw [if_pos h2, h2] at h; cases h
      ·
        rw [take_ext L X A.2 2 h2]
        have l2 := take_len h2
        generalize take L A.2 2 = K at *
        simp only [if_neg (show ¬ K.2.bad = true by rw [h2]; decide)] at h ⊢
        have p3 : K.2.pos ≤ L.length := by omega
        rcases Bool.eq_false_or_eq_true ((block L limit K.1 ⟨K.2.pos, K.2.bad, K.2.full, K.2.out, K.2.kinds ++ [K.1]⟩).bad) with h3 | h3
        · rw [infF_bad L limit f _ _ h3] at h; cases h
        ·
          obtain ⟨e, q⟩ := block_ext L X limit K.1 ⟨K.2.pos, K.2.bad, K.2.full, K.2.out, K.2.kinds ++ [K.1]⟩ p3 h3
          have gr := (grow_block hB limit K.1 ⟨K.2.pos, K.2.bad, K.2.full, K.2.out, K.2.kinds ++ [K.1]⟩).1
          change K.2.pos ≤ _ at gr
          rw [e]
          exact infF_ext hB X limit f g _ _ q (by omega) (by omega) h
theorem inflate_ext {L : List Int} (hB : Bits L) (X : List Int) (limit : Int) (h : (inflate L limit).bad = false) : inflate (L ++ X) limit = inflate L limit ∧ (inflate L limit).pos ≤ L.length :=
  infF_ext hB X limit (L.length + 2) ((L ++ X).length + 2) 0 ⟨0, false, false, [], []⟩ (Nat.zero_le _) (by show _ ≤ L.length + 2 + 0; omega) (by rw [List.length_append]; omega) h

/-- What is bad is not full. -/
def Nf (st : St) : Prop := st.bad = true → st.full = false
theorem nf_room {limit : Int} {st : St} {n : Nat} (h : st.full = false) : ((room limit st n).1 = true → (room limit st n).2.full = false) ∧ ((room limit st n).1 = false → (room limit st n).2.bad = st.bad) := by
  unfold room
  split
  · exact ⟨fun q => (by cases q), fun _ => rfl⟩
  · exact ⟨fun _ => h, fun q => (by cases q)⟩
theorem lenOf_fl (L : List Int) (i : Nat) (st : St) : (lenOf L i st).2.full = st.full := by
  unfold lenOf; repeat' split
  all_goals first | rfl | exact (take_out L st _).2.2
theorem distOf_fl (L : List Int) (i : Nat) (st : St) : (distOf L i st).2.full = st.full := by
  unfold distOf; repeat' split
  all_goals first | rfl | exact (take_out L st _).2.2
theorem plF_fl (L : List Int) : ∀ (f : Nat) (st : St), (plF L f st).full = st.full
  | 0, _ => rfl
  | f + 1, st => by
    simp only [plF]
    split
    · rfl
    · rw [plF_fl L f]; exact (take_out L st 8).2.2
theorem nf_copied (L : List Int) (limit : Int) (i : Nat) (far code : List Int) (st : St) (h : st.full = false) : Nf (copied L limit i far code st) := by
  unfold copied
  have h1 := (lenOf_fl L i st).trans h
  generalize lenOf L i st = A at *
  have h2 := (symbol_out L far code A.2).2.2.trans h1
  generalize symbol L far code A.2 = S at *
  have h3 := (distOf_fl L S.1.toNat S.2).trans h2
  generalize distOf L S.1.toNat S.2 = D at *
  split
  · exact fun _ => h1
  · split
    · exact fun _ => h2
    · split
      · exact fun _ => h3
      · rename_i hd
        have hd' : D.2.bad = false := by
          rcases Bool.eq_false_or_eq_true (D.2.bad) with q | q
          · exact absurd (.inl q) hd
          · exact q
        have hr := nf_room (limit := limit) (n := A.1) h3
        generalize room limit D.2 A.1 = R at *
        split
        · rename_i q; exact fun _ => hr.1 q
        · rename_i q
          intro hb
          rw [hr.2 (by simpa using q), hd'] at hb
          cases hb
theorem nf_symsF (L : List Int) (limit : Int) (ls cd far fcd : List Int) : ∀ (f : Nat) (st : St), Nf st → Nf (symsF L limit ls cd far fcd f st)
  | 0, _, h => h
  | f + 1, st, h => by
    rw [symsF]
    split
    · exact h
    rename_i h0
    have hfl : st.full = false := by
      rcases Bool.eq_false_or_eq_true (st.full) with q | q
      · exact absurd (by simp [q]) h0
      · exact q
    have h1 := (symbol_out L ls cd st).2.2.trans hfl
    generalize symbol L ls cd st = S at *
    split
    · exact fun _ => h1
    rename_i hs
    have hsb : S.2.bad = false := by
      rcases Bool.eq_false_or_eq_true (S.2.bad) with q | q
      · exact absurd (.inl q) hs
      · exact q
    split
    · have hr := nf_room (limit := limit) (n := 1) h1
      generalize room limit S.2 1 = R at *
      refine nf_symsF L limit ls cd far fcd f _ ?_
      split
      · rename_i q; exact fun _ => hr.1 q
      · rename_i q
        intro hb
        rw [hr.2 (by simpa using q), hsb] at hb
        cases hb
    · split
      · exact nf_symsF L limit ls cd far fcd f _ (fun _ => h1)
      · exact nf_symsF L limit ls cd far fcd f _ (nf_copied L limit _ far fcd S.2 h1)
theorem nf_plain (L : List Int) (limit : Int) (st : St) (h : st.full = false) : Nf (plain L limit st) := by
  unfold plain
  simp only
  have h1 : (take L { st with pos := (st.pos + 7) / 8 * 8 } 16).2.full = false := (take_out L _ 16).2.2.trans h
  generalize take L { st with pos := (st.pos + 7) / 8 * 8 } 16 = A at *
  have h2 := (take_out L A.2 16).2.2.trans h1
  generalize take L A.2 16 = B at *
  by_cases hs : A.1 + B.1 = 65535
  · simp only [if_pos hs]
    split
    · exact fun _ => h2
    · rename_i hb
      have hb' : B.2.bad = false := by simpa using hb
      have hr := nf_room (limit := limit) (n := A.1.toNat) h2
      generalize room limit B.2 A.1.toNat = R at *
      split
      · rename_i q; intro _; rw [plF_fl]; exact hr.1 q
      · rename_i q
        intro hbb
        rw [hr.2 (by simpa using q), hb'] at hbb
        cases hbb
  · simp only [if_neg hs, if_true]
    exact fun _ => h2
theorem nf_own (L : List Int) (limit : Int) (st : St) (h : st.full = false) : Nf (own L limit st) := by
  unfold own
  simp only
  have h1 := (take_out L st 5).2.2.trans h
  generalize take L st 5 = A at *
  have h2 := (take_out L A.2 5).2.2.trans h1
  generalize take L A.2 5 = D at *
  have h3 := (take_out L D.2 4).2.2.trans h2
  generalize take L D.2 4 = K at *
  have h4 := (lenF_full L (K.1.toNat + 4) 0 (List.replicate 19 0) K.2).1.trans h3
  generalize lenF L (K.1.toNat + 4) 0 (List.replicate 19 0) K.2 = Q at *
  split
  · exact fun _ => h4
  have h5 := (listed_full L Q.1 (A.1 + D.1 + 258).toNat Q.2).1.trans h4
  generalize listed L Q.1 (A.1 + D.1 + 258).toNat Q.2 = Z at *
  split
  · exact fun _ => h5
  split
  · exact fun _ => h5
  · exact nf_symsF L limit _ _ _ _ _ Z.2 (fun _ => h5)
theorem nf_block (L : List Int) (limit k : Int) (st : St) (h : st.full = false) : Nf (block L limit k st) := by
  unfold block
  split
  · exact nf_plain L limit st h
  split
  · exact nf_symsF L limit _ _ _ _ _ st (fun _ => h)
  split
  · exact nf_own L limit st h
  · exact fun _ => h
theorem nf_infF (L : List Int) (limit : Int) : ∀ (f : Nat) (last : Int) (st : St), Nf st → Nf (infF L limit f last st)
  | 0, _, _, h => h
  | f + 1, last, st, h => by
    simp only [infF]
    split
    · exact h
    rename_i h0
    have hfl : st.full = false := by
      rcases Bool.eq_false_or_eq_true (st.full) with q | q
      · exact absurd (.inr (by simp [q])) h0
      · exact q
    have h1 := (take_out L st 1).2.2.trans hfl
    generalize take L st 1 = A at *
    have h2 := (take_out L A.2 2).2.2.trans h1
    generalize take L A.2 2 = K at *
    split
    · exact fun _ => h2
    · exact nf_infF L limit f _ _ (nf_block L limit K.1 _ h2)
theorem nf_inflate (L : List Int) (limit : Int) : Nf (inflate L limit) := nf_infF L limit _ _ _ (fun q => by cases q)

/-- What is cut is bad, and no more. -/
theorem inflate_cut {L X : List Int} (hB : Bits L) {limit : Int} {p : Nat} {o : List UInt8} {ks : List Int} (h : inflate (L ++ X) limit = ⟨p, false, false, o, ks⟩) (hp : L.length < p) :
    (inflate L limit).bad = true ∧ (inflate L limit).full = false := by
  have hb : (inflate L limit).bad = true := by
    rcases Bool.eq_false_or_eq_true ((inflate L limit).bad) with q | q
    · exact q
    ·
      obtain ⟨e, hl⟩ := inflate_ext hB X limit q
      rw [← e, h] at hl
      have : p ≤ L.length := hl
      omega
  exact ⟨hb, nf_inflate L limit hb⟩
end Go.Proofs.YtmfijackgekioaaGreat.Rf

/-
  With a lesser limit what would come out is too much. For Packed.
-/
namespace Go.Proofs.YtmfijackgekioaaGreat.Rf

theorem room_lim {l1 l2 : Int} (hl : l1 ≤ l2) {st : St} {n : Nat} (h : (room l1 st n).2.full = false) : room l2 st n = room l1 st n ∧ (room l1 st n).1 = true ∧ (room l1 st n).2 = st ∧ (n = 0 ∨ (st.out.length : Int) + n ≤ l1) := by
  unfold room at *
  split at h
  · cases h
  · rename_i hn
    rw [if_neg hn, if_neg (by omega)]
    exact ⟨rfl, rfl, rfl, by omega⟩
/-- No more has come out than the limit lets. -/
def Ob (l : Int) (st : St) : Prop := st.out.length = 0 ∨ (st.out.length : Int) ≤ l
theorem lenOf_o (L : List Int) (i : Nat) (st : St) : (lenOf L i st).2.out = st.out := by
  unfold lenOf; repeat' split
  all_goals first | rfl | exact (take_out L st _).1
theorem distOf_o (L : List Int) (i : Nat) (st : St) : (distOf L i st).2.out = st.out := by
  unfold distOf; repeat' split
  all_goals first | rfl | exact (take_out L st _).1
theorem copied_lim {l1 l2 : Int} (hl : l1 ≤ l2) (L : List Int) (i : Nat) (far code : List Int) (st : St) (hob : Ob l1 st) (h : (copied L l1 i far code st).full = false) : copied L l2 i far code st = copied L l1 i far code st ∧ Ob l1 (copied L l1 i far code st) := by
  unfold copied at *
  have o1 := lenOf_o L i st
  generalize lenOf L i st = A at *
  have o2 := (symbol_out L far code A.2).1
  generalize symbol L far code A.2 = S at *
  have o3 := distOf_o L S.1.toNat S.2
  generalize distOf L S.1.toNat S.2 = D at *
  have oo : D.2.out = st.out := o3.trans (o2.trans o1)
  split
  · rename_i h1; rw [if_pos h1] at h; exact ⟨rfl, by unfold Ob; rw [o1]; exact hob⟩
  rename_i h1
  rw [if_neg h1] at h
  split
  · rename_i h2; exact ⟨rfl, by unfold Ob; simp only; rw [o2, o1]; exact hob⟩
  rename_i h2
  rw [if_neg h2] at h
  split
  · exact ⟨rfl, by unfold Ob; simp only; rw [oo]; exact hob⟩
  rename_i h3
  rw [if_neg h3] at h
  rcases Bool.eq_false_or_eq_true ((room l1 D.2 A.1).1) with hr1 | hr1
  ·
    rw [if_pos hr1] at h
    obtain ⟨e1, e2, e3, e4⟩ := room_lim hl (st := D.2) (n := A.1) h
    rw [e1, hr1, if_pos rfl]
    refine ⟨rfl, ?_⟩
    unfold Ob
    simp only
    rw [cpF_length, e3]
    rcases e4 with q | q
    · rw [q, Nat.add_zero, oo]; exact hob
    · right; omega
  ·
    rw [if_neg (by rw [hr1]; decide)] at h
    have := (room_lim hl (st := D.2) (n := A.1) h).2.1
    rw [hr1] at this
    cases this
theorem symsF_full2 (L : List Int) (limit : Int) (ls cd far fcd : List Int) : ∀ (f : Nat) (st : St), st.full = true → (symsF L limit ls cd far fcd f st).full = true
  | 0, _, h => h
  | f + 1, st, h => by rw [symsF, if_pos (by simp [h])]; exact h
theorem symsF_lim {l1 l2 : Int} (hl : l1 ≤ l2) (L ls cd far fcd : List Int) : ∀ (f : Nat) (st : St), Ob l1 st → (symsF L l1 ls cd far fcd f st).full = false → symsF L l2 ls cd far fcd f st = symsF L l1 ls cd far fcd f st ∧ Ob l1 (symsF L l1 ls cd far fcd f st)
  | 0, st, ho, _ => ⟨rfl, ho⟩
  | f + 1, st, ho, h => by
    rw [symsF] at h ⊢
    rw [symsF]
    by_cases h0 : (st.bad || st.full) = true
    · simp only [if_pos h0]; exact ⟨trivial, ho⟩
    simp only [if_neg h0] at h ⊢
    have o1 := (symbol_out L ls cd st).1
    generalize symbol L ls cd st = S at *
    have hoS : Ob l1 S.2 := by unfold Ob; rw [o1]; exact ho
    by_cases h1 : S.2.bad = true ∨ S.1 = 256
    · simp only [if_pos h1]; exact ⟨trivial, hoS⟩
    simp only [if_neg h1] at h ⊢
    by_cases h2 : S.1 < 256
    · simp only [if_pos h2] at h ⊢
      rcases Bool.eq_false_or_eq_true ((room l1 S.2 1).2.full) with hr | hr
      ·
        have : (symsF L l1 ls cd far fcd f (if (room l1 S.2 1).1 = true then { (room l1 S.2 1).2 with out := (room l1 S.2 1).2.out ++ [UInt8.ofNat S.1.toNat] } else (room l1 S.2 1).2)).full = true := by
          refine symsF_full2 L l1 ls cd far fcd f _ ?_
          split <;> exact hr
        rw [this] at h; cases h
      ·
        obtain ⟨e1, e2, e3, e4⟩ := room_lim hl hr
        rw [e1]
        refine symsF_lim hl L ls cd far fcd f _ ?_ h
        rw [if_pos e2, e3]
        unfold Ob
        simp only [List.length_append, List.length_singleton]
        omega
    simp only [if_neg h2] at h ⊢
    by_cases h3 : 285 < S.1
    · simp only [if_pos h3] at h ⊢
      exact symsF_lim hl L ls cd far fcd f _ hoS h
    simp only [if_neg h3] at h ⊢
    rcases Bool.eq_false_or_eq_true ((copied L l1 (S.1 - 257).toNat far fcd S.2).full) with hc | hc
    · rw [symsF_full2 L l1 ls cd far fcd f _ hc] at h; cases h
    ·
      obtain ⟨e1, e2⟩ := copied_lim hl L (S.1 - 257).toNat far fcd S.2 hoS hc
      rw [e1]
      exact symsF_lim hl L ls cd far fcd f _ e2 h
theorem plF_o (L : List Int) : ∀ (f : Nat) (st : St), (plF L f st).out.length ≤ st.out.length + f
  | 0, _ => Nat.le_refl _
  | f + 1, st => by
    simp only [plF]
    split
    · omega
    · have := plF_o L f { (take L st 8).2 with out := (take L st 8).2.out ++ [UInt8.ofNat (take L st 8).1.toNat] }
      simp only [List.length_append, List.length_singleton, (take_out L st 8).1] at this ⊢
      omega
theorem plF_o0 (L : List Int) (f : Nat) (st : St) (h : f = 0) : (plF L f st).out = st.out := by subst h; rfl
theorem plain_lim {l1 l2 : Int} (hl : l1 ≤ l2) (L : List Int) (st : St) (hob : Ob l1 st) (h : (plain L l1 st).full = false) : plain L l2 st = plain L l1 st ∧ Ob l1 (plain L l1 st) := by
  unfold plain at *
  simp only at *
  have o1 : (take L { st with pos := (st.pos + 7) / 8 * 8 } 16).2.out = st.out := (take_out L _ 16).1
  generalize take L { st with pos := (st.pos + 7) / 8 * 8 } 16 = A at *
  have o2 := (take_out L A.2 16).1.trans o1
  generalize take L A.2 16 = B at *
  by_cases hs : A.1 + B.1 = 65535
  · simp only [if_pos hs] at h ⊢
    by_cases hb : B.2.bad = true
    · simp only [if_pos hb]; exact ⟨trivial, by unfold Ob; rw [o2]; exact hob⟩
    simp only [if_neg hb] at h ⊢
    have hf : (room l1 B.2 A.1.toNat).2.full = false := by
      split at h
      · rw [plF_fl] at h; exact h
      · exact h
    obtain ⟨e1, e2, e3, e4⟩ := room_lim hl hf
    rw [e1, if_pos e2]
    refine ⟨rfl, ?_⟩
    rw [e3]
    unfold Ob
    rcases e4 with q | q
    · rw [plF_o0 L _ _ q, o2]; exact hob
    · right
      have := plF_o L A.1.toNat B.2
      omega
  · simp only [if_neg hs, if_true] at h ⊢
    exact ⟨trivial, by unfold Ob; simp only; rw [o2]; exact hob⟩
theorem own_lim {l1 l2 : Int} (hl : l1 ≤ l2) (L : List Int) (st : St) (hob : Ob l1 st) (h : (own L l1 st).full = false) : own L l2 st = own L l1 st ∧ Ob l1 (own L l1 st) := by
  unfold own at *
  simp only at *
  have o1 := (take_out L st 5).1
  generalize take L st 5 = A at *
  have o2 := (take_out L A.2 5).1.trans o1
  generalize take L A.2 5 = D at *
  have o3 := (take_out L D.2 4).1.trans o2
  generalize take L D.2 4 = K at *
  have o4 := (lenF_full L (K.1.toNat + 4) 0 (List.replicate 19 0) K.2).2.1.trans o3
  generalize lenF L (K.1.toNat + 4) 0 (List.replicate 19 0) K.2 = Q at *
  by_cases h5 : Q.2.bad = true ∨ 29 < A.1 ∨ 29 < D.1 ∨ full Q.1 = false
  · simp only [if_pos h5]; exact ⟨trivial, by unfold Ob; simp only; rw [o4]; exact hob⟩
  simp only [if_neg h5] at h ⊢
  have o5 : (listed L Q.1 (A.1 + D.1 + 258).toNat Q.2).2.out = st.out := by
    rw [← o4]
    have := (lsF_out L Q.1 (codes Q.1) (A.1 + D.1 + 258).toNat ((A.1 + D.1 + 258).toNat + 1) [] Q.2).1
    unfold listed
    simp only
    split
    · exact this
    · exact this
  generalize listed L Q.1 (A.1 + D.1 + 258).toNat Q.2 = Z at *
  have hoZ : Ob l1 Z.2 := by unfold Ob; rw [o5]; exact hob
  by_cases h6 : Z.2.bad = true
  · simp only [if_pos h6]; exact ⟨trivial, hoZ⟩
  simp only [if_neg h6] at h ⊢
  by_cases h7 : badLists (Z.1.take (A.1.toNat + 257)) (Z.1.drop (A.1.toNat + 257)) = true
  · simp only [if_pos h7]; exact ⟨trivial, hoZ⟩
  simp only [if_neg h7] at h ⊢
  exact symsF_lim hl L _ _ _ _ _ Z.2 hoZ h
theorem block_lim {l1 l2 : Int} (hl : l1 ≤ l2) (L : List Int) (k : Int) (st : St) (hob : Ob l1 st) (h : (block L l1 k st).full = false) : block L l2 k st = block L l1 k st ∧ Ob l1 (block L l1 k st) := by
  unfold block at *
  by_cases h0 : k = 0
  · simp only [if_pos h0] at h ⊢
    exact plain_lim hl L st hob h
  simp only [if_neg h0] at h ⊢
  by_cases h1 : k = 1
  · simp only [if_pos h1] at h ⊢
    exact symsF_lim hl L _ _ _ _ _ st hob h
  simp only [if_neg h1] at h ⊢
  by_cases h2 : k = 2
  · simp only [if_pos h2] at h ⊢
    exact own_lim hl L st hob h
  rw [if_neg h2, if_neg h2]
  exact ⟨rfl, hob⟩
theorem infF_full2 (L : List Int) (limit : Int) : ∀ (f : Nat) (last : Int) (st : St), st.full = true → (infF L limit f last st).full = true
  | 0, _, _, h => h
  | f + 1, last, st, h => by rw [infF, if_pos (.inr (by simp [h]))]; exact h
theorem infF_lim {l1 l2 : Int} (hl : l1 ≤ l2) (L : List Int) : ∀ (f : Nat) (last : Int) (st : St), Ob l1 st → (infF L l1 f last st).full = false → infF L l2 f last st = infF L l1 f last st ∧ Ob l1 (infF L l1 f last st)
  | 0, _, st, ho, _ => ⟨rfl, ho⟩
  | f + 1, last, st, ho, h => by
    simp only [infF] at h ⊢
    by_cases h0 : last ≠ 0 ∨ (st.bad || st.full) = true
    · simp only [if_pos h0]; exact ⟨trivial, ho⟩
    simp only [if_neg h0] at h ⊢
    have o1 := (take_out L st 1).1
    generalize take L st 1 = A at *
    have o2 := (take_out L A.2 2).1.trans o1
    generalize take L A.2 2 = K at *
    have hoK : Ob l1 K.2 := by unfold Ob; rw [o2]; exact ho
    by_cases h1 : K.2.bad = true
    · simp only [if_pos h1]; exact ⟨trivial, hoK⟩
    simp only [if_neg h1] at h ⊢
    rcases Bool.eq_false_or_eq_true ((block L l1 K.1 ⟨K.2.pos, K.2.bad, K.2.full, K.2.out, K.2.kinds ++ [K.1]⟩).full) with h2 | h2
    · rw [infF_full2 L l1 f _ _ h2] at h; cases h
    ·
      obtain ⟨e, o⟩ := block_lim hl L K.1 ⟨K.2.pos, K.2.bad, K.2.full, K.2.out, K.2.kinds ++ [K.1]⟩ hoK h2
      rw [e]
      exact infF_lim hl L f _ _ o h
/-- With a lesser limit it is too much. -/
theorem inflate_lim {L : List Int} {l1 l2 : Int} (hl : l1 ≤ l2) {p : Nat} {o : List UInt8} {ks : List Int} (h : inflate L l2 = ⟨p, false, false, o, ks⟩) (h1 : l1 < (o.length : Int)) (h0 : 0 < o.length) : (inflate L l1).full = true := by
  rcases Bool.eq_false_or_eq_true ((inflate L l1).full) with q | q
  · exact q
  ·
    obtain ⟨e, ob⟩ := infF_lim hl L (L.length + 2) 0 ⟨0, false, false, [], []⟩ (.inl rfl) q
    change inflate L l2 = inflate L l1 at e
    change Ob l1 (inflate L l1) at ob
    rw [← e, h] at ob
    rcases ob with q | q
    · exact absurd q (by simp only; omega)
    · exact absurd q (by simp only; omega)
end Go.Proofs.YtmfijackgekioaaGreat.Rf
