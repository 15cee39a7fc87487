/-
  Unpacking, block by block, as a plain function; and how far what is written may grow.
-/
import Derived.Test.YtmfijackgekioaaRx
namespace Go.Proofs.Ytmfijackgekioaa.Rf

def block (L : List Int) (limit : Int) (k : Int) (st : St) : St :=
  if k = 0 then plain L limit st else if k = 1 then symbols L limit fixS fixD st else if k = 2 then own L limit st else { st with bad := true }
def infF (L : List Int) (limit : Int) : Nat → Int → St → St
  | 0, _, st => st
  | f + 1, last, st =>
    if last ≠ 0 ∨ (st.bad || st.full) = true then st else
    let a := take L st 1
    let k := take L a.2 2
    if k.2.bad = true then k.2 else
    infF L limit f a.1 (block L limit k.1 { k.2 with kinds := k.2.kinds ++ [k.1] })
def inflate (L : List Int) (limit : Int) : St := infF L limit (L.length + 2) 0 ⟨0, false, false, [], []⟩

/-- No more than 258 bytes are written for a bit that is read. -/
def Grow (a b : St) : Prop := a.pos ≤ b.pos ∧ b.out.length + 258 * a.pos ≤ a.out.length + 258 * b.pos
theorem Grow.refl (a : St) : Grow a a := ⟨Nat.le_refl _, Nat.le_refl _⟩
theorem Grow.trans {a b c : St} (h : Grow a b) (k : Grow b c) : Grow a c := ⟨Nat.le_trans h.1 k.1, by have := h.2; have := k.2; omega⟩
theorem Grow.same {a b : St} (h : b.out = a.out) (hp : a.pos ≤ b.pos) : Grow a b := ⟨hp, by rw [h]; omega⟩
theorem grow_take (L : List Int) (st : St) (n : Nat) : Grow st (take L st n).2 := .same (take_out L st n).1 (take_mono L st n)
theorem grow_symbol (L ls cd : List Int) (st : St) : Grow st (symbol L ls cd st).2 := .same (symbol_out L ls cd st).1 (symbol_mono L ls cd st)

theorem plF_le (L : List Int) : ∀ (f : Nat) (st : St), st.pos ≤ (plF L f st).pos ∧ (plF L f st).out.length + st.pos ≤ st.out.length + (plF L f st).pos + 1 ∧ (st.bad = true → plF L f st = st)
  | 0, st => ⟨Nat.le_refl _, by simp only [plF]; omega, fun _ => rfl⟩
  | f + 1, st => by
    rw [plF]
    split
    · exact ⟨Nat.le_refl _, by omega, fun _ => rfl⟩
    · rename_i hb
      have ih := plF_le L f { (take L st 8).2 with out := (take L st 8).2.out ++ [UInt8.ofNat (take L st 8).1.toNat] }
      have ho := (take_out L st 8).1
      have hm := take_mono L st 8
      have hl : ((take L st 8).2.out ++ [UInt8.ofNat (take L st 8).1.toNat]).length = st.out.length + 1 := by rw [ho]; simp
      cases hb8 : (take L st 8).2.bad
      · have hp := (take_bad L st 8 hb8).1
        have i1 := ih.1
        have i2 := ih.2.1
        simp only at i1 i2 ⊢
        rw [hl] at i2
        exact ⟨by omega, by omega, fun h => absurd h hb⟩
      · have i3 := ih.2.2 hb8
        simp only at i3 ⊢
        rw [i3]
        simp only
        rw [hl]
        exact ⟨hm, by omega, fun h => absurd h hb⟩
theorem grow_plain (L : List Int) (limit : Int) (st : St) : Grow st (plain L limit st) := by
  have g1 := grow_take L { st with pos := (st.pos + 7) / 8 * 8 } 16
  have g0 : Grow st { st with pos := (st.pos + 7) / 8 * 8 } := .same rfl (by simp only; omega)
  have b1 := take_bad L { st with pos := (st.pos + 7) / 8 * 8 } 16
  unfold plain
  simp only
  generalize take L { st with pos := (st.pos + 7) / 8 * 8 } 16 = A at *
  have g2 := grow_take L A.2 16
  have b2 := take_bad L A.2 16
  have o2 := (take_out L A.2 16).1
  generalize take L A.2 16 = C at *
  have g := (g0.trans g1).trans g2
  by_cases hs : A.1 + C.1 = 65535
  · simp only [if_pos hs]
    split
    · exact g
    · rename_i hb
      have hc : C.2.bad = false := by cases h : C.2.bad <;> simp_all
      have p2 := (b2 hc).1
      have h5 := room_out limit C.2 A.1.toNat
      generalize room limit C.2 A.1.toNat = R at *
      have gR : Grow C.2 R.2 := .same h5.1 (by rw [h5.2.2.1]; omega)
      split
      · have hp := plF_le L A.1.toNat R.2
        have e1 := h5.2.2.1
        have gg := g.trans gR
        refine ⟨by have := gg.1; omega, ?_⟩
        have h1 := (g0.trans g1).2
        have h2 := (g0.trans g1).1
        have h3 := hp.2.1
        have h4 : R.2.out.length = A.2.out.length := by rw [h5.1, o2]
        have h6 := hp.1
        omega
      · exact g.trans gR
  · simp only [if_neg hs, if_true]
    exact g
theorem grow_symsF {L : List Int} (hb : Bits L) (limit : Int) (ls cd far fcd : List Int) : ∀ (f : Nat) (st : St), Grow st (symsF L limit ls cd far fcd f st)
  | 0, st => .refl st
  | f + 1, st => by
    have g := grow_symbol L ls cd st
    rw [symsF]
    split
    · exact .refl st
    · split
      · exact g
      · rename_i hx
        have hbs : (symbol L ls cd st).2.bad = false := by cases h : (symbol L ls cd st).2.bad <;> simp_all
        have hp := symbol_pos L ls cd st hbs
        have ho := (symbol_out L ls cd st).1
        have h5 := room_out limit (symbol L ls cd st).2 1
        have c : ∀ s : St, (symbol L ls cd st).2.pos ≤ s.pos ∧ s.out.length ≤ (symbol L ls cd st).2.out.length + 258 → Grow st (symsF L limit ls cd far fcd f s) := fun s hs =>
          Grow.trans ⟨by omega, by rw [ho] at hs; omega⟩ (grow_symsF hb limit ls cd far fcd f s)
        split
        · apply c
          split
          · simp only
            rw [h5.2.2.1, List.length_append, h5.1]
            simp
          · rw [h5.2.2.1, h5.1]
            omega
        · split
          · apply c
            simp only
            omega
          · rename_i h1 h2
            exact c _ (copied_le hb limit _ (by omega) far fcd _)
theorem grow_symbols {L : List Int} (hb : Bits L) (limit : Int) (ls far : List Int) (st : St) : Grow st (symbols L limit ls far st) := grow_symsF hb limit _ _ _ _ _ st
theorem grow_lenF (L : List Int) : ∀ (f i : Nat) (ls : List Int) (st : St), Grow st (lenF L f i ls st).2
  | 0, _, _, st => .refl st
  | f + 1, i, ls, st => by
    rw [lenF]; split
    · exact .refl st
    · exact (grow_take L st 3).trans (grow_lenF L f _ _ _)
theorem grow_own {L : List Int} (hb : Bits L) (limit : Int) (st : St) : Grow st (own L limit st) := by
  unfold own
  simp only
  have g := ((grow_take L st 5).trans (grow_take L (take L st 5).2 5)).trans (grow_take L (take L (take L st 5).2 5).2 4)
  generalize take L (take L (take L st 5).2 5).2 4 = K at *
  have g2 := g.trans (grow_lenF L (K.1.toNat + 4) 0 (List.replicate 19 0) K.2)
  generalize lenF L (K.1.toNat + 4) 0 (List.replicate 19 0) K.2 = Q at *
  split
  · exact g2
  · generalize ((take L st 5).1 + (take L (take L st 5).2 5).1 + 258).toNat = n
    have hl := listed_out L Q.1 n Q.2
    have g3 := g2.trans (Grow.same hl.1 hl.2)
    split
    · exact g3
    · split
      · exact g3
      · exact g3.trans (grow_symbols hb limit _ _ _)
theorem grow_block {L : List Int} (hb : Bits L) (limit k : Int) (st : St) : Grow st (block L limit k st) := by
  unfold block
  split
  · exact grow_plain L limit st
  · split
    · exact grow_symbols hb limit _ _ st
    · split
      · exact grow_own hb limit st
      · exact .refl st

end Go.Proofs.Ytmfijackgekioaa.Rf
