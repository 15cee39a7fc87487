/-
  The kinds stay as they are within a block.
-/
import Derived.Test.YtmfijackgekioaaRz
namespace Go.Proofs.Ytmfijackgekioaa.Rf

theorem take_kinds (L : List Int) (st : St) (n : Nat) : (take L st n).2.kinds = st.kinds := (take_out L st n).2.1
theorem symbol_kinds (L ls cd : List Int) (st : St) : (symbol L ls cd st).2.kinds = st.kinds := (symbol_out L ls cd st).2.1
theorem room_kinds (limit : Int) (st : St) (n : Nat) : (room limit st n).2.kinds = st.kinds := (room_out limit st n).2.1
theorem lenOf_kinds (L : List Int) (i : Nat) (st : St) : (lenOf L i st).2.kinds = st.kinds := by
  unfold lenOf; repeat' split
  all_goals first | rfl | exact take_kinds L st _
theorem distOf_kinds (L : List Int) (j : Nat) (st : St) : (distOf L j st).2.kinds = st.kinds := by
  unfold distOf; repeat' split
  all_goals first | rfl | exact take_kinds L st _
theorem copied_kinds (L : List Int) (limit : Int) (i : Nat) (far code : List Int) (st : St) : (copied L limit i far code st).kinds = st.kinds := by
  have h1 := lenOf_kinds L i st
  unfold copied
  generalize lenOf L i st = A at *
  have h2 := symbol_kinds L far code A.2
  generalize symbol L far code A.2 = S at *
  have h3 := distOf_kinds L S.1.toNat S.2
  generalize distOf L S.1.toNat S.2 = D at *
  have h4 := room_kinds limit D.2 A.1
  generalize room limit D.2 A.1 = R at *
  repeat' split
  all_goals simp only [h1, h2, h3, h4]
theorem plF_kinds (L : List Int) : ∀ (f : Nat) (st : St), (plF L f st).kinds = st.kinds
  | 0, _ => rfl
  | f + 1, st => by
    rw [plF]; split
    · rfl
    · exact (plF_kinds L f _).trans (take_kinds L st 8)
theorem plain_kinds (L : List Int) (limit : Int) (st : St) : (plain L limit st).kinds = st.kinds := by
  have h1 := take_kinds L { st with pos := (st.pos + 7) / 8 * 8 } 16
  unfold plain
  simp only
  generalize take L { st with pos := (st.pos + 7) / 8 * 8 } 16 = A at *
  have h2 := take_kinds L A.2 16
  generalize take L A.2 16 = C at *
  by_cases hs : A.1 + C.1 = 65535
  · simp only [if_pos hs]
    have h4 := room_kinds limit C.2 A.1.toNat
    generalize room limit C.2 A.1.toNat = R at *
    repeat' split
    · rw [h2, h1]
    · rw [plF_kinds, h4, h2, h1]
    · rw [h4, h2, h1]
  · simp only [if_neg hs, if_true]
    rw [h2, h1]
theorem symsF_kinds (L : List Int) (limit : Int) (ls cd far fcd : List Int) : ∀ (f : Nat) (st : St), (symsF L limit ls cd far fcd f st).kinds = st.kinds
  | 0, _ => rfl
  | f + 1, st => by
    have h1 := symbol_kinds L ls cd st
    have h2 := room_kinds limit (symbol L ls cd st).2 1
    rw [symsF]
    split
    · rfl
    · split
      · exact h1
      · split
        · rw [symsF_kinds L limit ls cd far fcd f]
          split
          · exact h2.trans h1
          · exact h2.trans h1
        · split
          · exact (symsF_kinds L limit ls cd far fcd f _).trans h1
          · exact ((symsF_kinds L limit ls cd far fcd f _).trans (copied_kinds L limit _ far fcd _)).trans h1
theorem lsF_kinds (L ls cd : List Int) (n : Nat) : ∀ (f : Nat) (out : List Int) (st : St), (lsF L ls cd n f out st).2.kinds = st.kinds
  | 0, _, _ => rfl
  | f + 1, out, st => by
    have h1 := symbol_kinds L ls cd st
    have t : ∀ k, (take L (symbol L ls cd st).2 k).2.kinds = st.kinds := fun k => (take_kinds L _ k).trans h1
    simp only [lsF]
    split
    · rfl
    · split
      · exact h1
      · split
        · exact (lsF_kinds L ls cd n f _ _).trans h1
        · split
          · split
            · exact t 2
            · exact (lsF_kinds L ls cd n f _ _).trans (t 2)
          · split
            · exact (lsF_kinds L ls cd n f _ _).trans (t 3)
            · exact (lsF_kinds L ls cd n f _ _).trans (t 7)
theorem listed_kinds (L ls : List Int) (n : Nat) (st : St) : (listed L ls n st).2.kinds = st.kinds := by
  have h := lsF_kinds L ls (codes ls) n (n + 1) [] st
  unfold listed
  simp only
  split
  · exact h
  · exact h
theorem lenF_kinds (L : List Int) : ∀ (f i : Nat) (ls : List Int) (st : St), (lenF L f i ls st).2.kinds = st.kinds
  | 0, _, _, _ => rfl
  | f + 1, i, ls, st => by
    rw [lenF]; split
    · rfl
    · exact (lenF_kinds L f _ _ _).trans (take_kinds L st 3)
theorem own_kinds (L : List Int) (limit : Int) (st : St) : (own L limit st).kinds = st.kinds := by
  unfold own
  simp only
  have g : (take L (take L (take L st 5).2 5).2 4).2.kinds = st.kinds := by rw [take_kinds, take_kinds, take_kinds]
  generalize take L (take L (take L st 5).2 5).2 4 = K at *
  have g2 := (lenF_kinds L (K.1.toNat + 4) 0 (List.replicate 19 0) K.2).trans g
  generalize lenF L (K.1.toNat + 4) 0 (List.replicate 19 0) K.2 = Q at *
  split
  · exact g2
  · generalize ((take L st 5).1 + (take L (take L st 5).2 5).1 + 258).toNat = n
    have g3 := (listed_kinds L Q.1 n Q.2).trans g2
    split
    · exact g3
    · split
      · exact g3
      · exact (symsF_kinds L limit _ _ _ _ _ _).trans g3
theorem block_kinds (L : List Int) (limit k : Int) (st : St) : (block L limit k st).kinds = st.kinds := by
  unfold block
  split
  · exact plain_kinds L limit st
  · split
    · exact symsF_kinds L limit _ _ _ _ _ st
    · split
      · exact own_kinds L limit st
      · rfl

end Go.Proofs.Ytmfijackgekioaa.Rf
