import Derived.Test.YtmfijackgekioaaQ07

namespace Go.Proofs.Ytmfijackgekioaa
open Go.RowKit

/-- A kind put behind the kinds. -/
theorem Rep.pushK {w w2 : World} {B : Nat} {L : List Int} {ao : Option Addr} {cap : Nat} {limit : Int} {st : Rf.St} {ov kv v' : Value} (h : Rep w B L ao cap limit st ov kv) (o : Obj) (c : Int)
    (hown' : w2.ownsRow (B + 1) 3 1 v' (st.kinds.length + 1) (vals st.kinds ++ [.int .i64 c])) (hgrow : (w.alloc o).grownBy w2 kv.ownBlock) :
    Rep (w2.setCell ⟨B, 6, none⟩ v') B L ao cap limit { st with kinds := st.kinds ++ [c] } ov v' ∧ Below B w (w2.setCell ⟨B, 6, none⟩ v') := by
  have hlt := h.lt
  have hne : ∀ k, k ≤ B → some k ≠ kv.ownBlock := fun k hk e => by have := (h.hk.lt k e.symm).1; omega
  have hblk : ∀ k, k < w.heap.size → some k ≠ kv.ownBlock → w2.heap[k]? = w.heap[k]? := fun k hk hn => (hgrow.block k (by simp; omega) hn).trans (Below.heap_alloc w o k hk)
  have hB2 : w2.heap[B]? = _ := (hblk B hlt (hne B (Nat.le_refl _))).trans h.blk
  have hsz : w.heap.size ≤ w2.heap.size := by have := hgrow.size; simp at this; omega
  refine ⟨⟨(heap_setCell_same w2 B 6 _ _ v' hB2).trans rfl, ?_, h.hla, h.hb, h.hpos, h.hlen, h.h8, ?_, ?_⟩, ⟨hgrow.os, hgrow.tape, hgrow.output, by simp; omega, ?_⟩⟩
  · intro k hk
    obtain ⟨b, off, rfl, hc⟩ := h.hl k hk
    have hb := h.hla _ rfl (ne_of_lt hk)
    have e1 : (w2.setCell ⟨B, 6, none⟩ v').heap[b]? = w.heap[b]? := (Below.heap_setCell w2 ⟨B, 6, none⟩ v' b (Nat.ne_of_lt hb)).trans (hblk b (Nat.lt_trans hb hlt) (hne b (Nat.le_of_lt hb)))
    exact ⟨b, off, rfl, (World.cell?_of_block (w := w) e1).trans hc⟩
  · refine ownsRow_setCell_below (((h.ho.alloc o).kept hgrow ?_)) (Nat.lt_succ_self B) v'
    cases hov : ov.ownBlock with
    | none => exact .inl rfl
    | some g =>
      right
      intro e
      obtain ⟨cur, q1⟩ := own_type h.ho g hov
      obtain ⟨cur2, q2⟩ := own_type h.hk g e.symm
      rw [q1] at q2
      simp at q2
  · have : vals (st.kinds ++ [c]) = vals st.kinds ++ [.int .i64 c] := by simp [vals]
    rw [show ({ st with kinds := st.kinds ++ [c] } : Rf.St).kinds = st.kinds ++ [c] from rfl, this, List.length_append]
    exact ownsRow_setCell_below hown' (Nat.lt_succ_self B) v'
  · intro k hk
    exact (Below.heap_setCell w2 ⟨B, 6, none⟩ v' k (Nat.ne_of_lt hk)).trans (hblk k (Nat.lt_trans hk hlt) (hne k (Nat.le_of_lt hk)))
/-- The reader's block behind an append of its kinds. -/
theorem Rep.grownK {w w2 : World} {B : Nat} {L : List Int} {ao : Option Addr} {cap : Nat} {limit : Int} {st : Rf.St} {ov kv : Value} (h : Rep w B L ao cap limit st ov kv) (o : Obj) (hgrow : (w.alloc o).grownBy w2 kv.ownBlock) :
    w2.cell? ⟨B, 6, none⟩ = some kv ∧ w2.frozen? ⟨B, 6, none⟩ = false ∧ w2.heap[B]? = w.heap[B]? := by
  have hlt := h.lt
  have e : w2.heap[B]? = w.heap[B]? := (hgrow.block B (by simp; omega) (fun e => by have := (h.hk.lt B e.symm).1; omega)).trans (Below.heap_alloc w o B hlt)
  have hB := e.trans h.blk
  exact ⟨cell_of_row _ _ _ _ _ _ hB, frozen_of_row w2 B 6 _ _ hB, e⟩

theorem some_bits (c : UInt8) : ∀ j x, x ∈ Mx.some c j → 0 ≤ x ∧ x ≤ 1 := by
  intro j
  induction j with
  | zero => intro x hx; simp [Mx.some] at hx
  | succ j ih =>
    intro x hx
    rw [Mx.some_succ] at hx
    rcases List.mem_append.1 hx with h | h
    · exact ih x h
    · simp at h
      omega
theorem low_mem (l : List UInt8) : ∀ x, x ∈ Mx.low l → 0 ≤ x ∧ x ≤ 1 := by
  induction l with
  | nil => intro x hx; cases hx
  | cons c l ih =>
    intro x hx
    rcases List.mem_append.1 hx with h | h
    · exact some_bits c 8 x h
    · exact ih x h
theorem low_is_bits (l : List UInt8) : Rf.Bits (Mx.low l) := by
  intro j
  by_cases hj : j < (Mx.low l).length
  · have h := low_mem l _ (List.getElem_mem hj)
    have e : (Mx.low l).getD j 0 = (Mx.low l)[j] := by simp [List.getD, List.getElem?_eq_getElem hj]
    omega
  · left
    simp [List.getD, List.getElem?_eq_none (show (Mx.low l).length ≤ j by omega)]
theorem own_intsR {w : World} {base n cap : Nat} {oa : Option Addr} {zs : List Int} (h : w.ownsRow base 3 1 (.slice oa n cap) n (vals zs)) : Ints w oa zs ∧ (∀ a, oa = some a → zs ≠ [] → a.block < w.heap.size) := by
  have hl := h.1
  rcases h.2 with ⟨h', hn⟩ | ⟨g, cap', cur, e, _, hb, _⟩
  · have : zs = [] := by
      have : zs.length = 0 := by simp [vals] at hl; omega
      exact List.eq_nil_of_length_eq_zero this
    subst this
    exact ⟨fun j hj => absurd hj (Nat.not_lt_zero _), fun _ _ h => absurd rfl h⟩
  · cases e
    exact ⟨fun j hj => ⟨g, 0, rfl, by have := own_cell h j hj; simpa using this⟩, fun a e _ => by cases e; exact lt_of_block hb⟩
/-- The reader, new. -/
theorem rep_new (w : World) (oa : Option Addr) (oc : Nat) (limit : Int) (L : List Int) (base n : Nat) (h : w.ownsRow base 3 1 (.slice oa n oc) n (vals L)) (hn : L.length = n) (hb : Rf.Bits L) (hlen : n ≤ 40000000) (h8 : n % 8 = 0) :
    Rep (w.alloc (.cells #[.slice oa n oc, .int .i64 0, .int .i64 limit, .bool false, .bool false, .slice none 0 0, .slice none 0 0] 41)) w.heap.size L oa oc limit ⟨0, false, false, [], []⟩ (.slice none 0 0) (.slice none 0 0) := by
  obtain ⟨h1, h2⟩ := own_intsR h
  subst hn
  refine ⟨blk_new w _, fun j hj => ?_, h2, hb, Nat.zero_le _, hlen, h8, World.ownsRow_nil _ _ _ _, World.ownsRow_nil _ _ _ _⟩
  obtain ⟨b, off, rfl, hc⟩ := h1 j hj
  exact ⟨b, off, rfl, (World.cell?_of_block (w := w) (Below.heap_alloc w _ b (h2 _ rfl (ne_of_lt hj)))).trans hc⟩

end Go.Proofs.Ytmfijackgekioaa

/-
  The kinds stay as they are within a block.
-/
namespace Go.Proofs.Ytmfijackgekioaa.Rf

theorem take_kinds (L : List Int) (st : St) (n : Nat) : (take L st n).2.kinds = st.kinds := (take_out L st n).2.1
theorem symbol_kinds (L ls cd : List Int) (st : St) : (symbol L ls cd st).2.kinds = st.kinds := (symbol_out L ls cd st).2.1
theorem room_kinds (limit : Int) (st : St) (n : Nat) : (room limit st n).2.kinds = st.kinds := (room_out limit st n).2.1
theorem lenOf_kinds (L : List Int) (i : Nat) (st : St) : (lenOf L i st).2.kinds = st.kinds := by
  unfold lenOf; repeat' split
  all_goals first | rfl | exact take_kinds L st _
theorem distOf_kinds (L : List Int) (j : Nat) (st : St) : (distOf L j st).2.kinds = st.kinds := by
  unfold distOf; repeat' split
  all_goals first | rfl | exact take_kinds L st _
theorem copied_kinds (L : List Int) (limit : Int) (i : Nat) (far code : List Int) (st : St) : (copied L limit i far code st).kinds = st.kinds := by
  have h1 := lenOf_kinds L i st
  unfold copied
  generalize lenOf L i st = A at *
  have h2 := symbol_kinds L far code A.2
  generalize symbol L far code A.2 = S at *
  have h3 := distOf_kinds L S.1.toNat S.2
  generalize distOf L S.1.toNat S.2 = D at *
  have h4 := room_kinds limit D.2 A.1
  generalize room limit D.2 A.1 = R at *
  repeat' split
  all_goals simp only [h1, h2, h3, h4]
theorem plF_kinds (L : List Int) : ∀ (f : Nat) (st : St), (plF L f st).kinds = st.kinds
  | 0, _ => rfl
  | f + 1, st => by
    rw [plF]; split
    · rfl
    · exact (plF_kinds L f _).trans (take_kinds L st 8)
theorem plain_kinds (L : List Int) (limit : Int) (st : St) : (plain L limit st).kinds = st.kinds := by
  have h1 := take_kinds L { st with pos := (st.pos + 7) / 8 * 8 } 16
  unfold plain
  simp only
  generalize take L { st with pos := (st.pos + 7) / 8 * 8 } 16 = A at *
  have h2 := take_kinds L A.2 16
  generalize take L A.2 16 = C at *
  by_cases hs : A.1 + C.1 = 65535
  · simp only [if_pos hs]
    have h4 := room_kinds limit C.2 A.1.toNat
    generalize room limit C.2 A.1.toNat = R at *
    repeat' split
    · rw [h2, h1]
    · rw [plF_kinds, h4, h2, h1]
    · rw [h4, h2, h1]
  · simp only [if_neg hs, if_true]
    rw [h2, h1]
theorem symsF_kinds (L : List Int) (limit : Int) (ls cd far fcd : List Int) : ∀ (f : Nat) (st : St), (symsF L limit ls cd far fcd f st).kinds = st.kinds
  | 0, _ => rfl
  | f + 1, st => by
    have h1 := symbol_kinds L ls cd st
    have h2 := room_kinds limit (symbol L ls cd st).2 1
    rw [symsF]
    split
    · rfl
    · split
      · exact h1
      · split
        · rw [symsF_kinds L limit ls cd far fcd f]
          split
          · exact h2.trans h1
          · exact h2.trans h1
        · split
          · exact (symsF_kinds L limit ls cd far fcd f _).trans h1
          · exact ((symsF_kinds L limit ls cd far fcd f _).trans (copied_kinds L limit _ far fcd _)).trans h1
theorem lsF_kinds (L ls cd : List Int) (n : Nat) : ∀ (f : Nat) (out : List Int) (st : St), (lsF L ls cd n f out st).2.kinds = st.kinds
  | 0, _, _ => rfl
  | f + 1, out, st => by
    have h1 := symbol_kinds L ls cd st
    have t : ∀ k, (take L (symbol L ls cd st).2 k).2.kinds = st.kinds := fun k => (take_kinds L _ k).trans h1
    simp only [lsF]
    split
    · rfl
    · split
      · exact h1
      · split
        · exact (lsF_kinds L ls cd n f _ _).trans h1
        · split
          · split
            · exact t 2
            · exact (lsF_kinds L ls cd n f _ _).trans (t 2)
          · split
            · exact (lsF_kinds L ls cd n f _ _).trans (t 3)
            · exact (lsF_kinds L ls cd n f _ _).trans (t 7)
theorem listed_kinds (L ls : List Int) (n : Nat) (st : St) : (listed L ls n st).2.kinds = st.kinds := by
  have h := lsF_kinds L ls (codes ls) n (n + 1) [] st
  unfold listed
  simp only
  split
  · exact h
  · exact h
theorem lenF_kinds (L : List Int) : ∀ (f i : Nat) (ls : List Int) (st : St), (lenF L f i ls st).2.kinds = st.kinds
  | 0, _, _, _ => rfl
  | f + 1, i, ls, st => by
    rw [lenF]; split
    · rfl
    · exact (lenF_kinds L f _ _ _).trans (take_kinds L st 3)
theorem own_kinds (L : List Int) (limit : Int) (st : St) : (own L limit st).kinds = st.kinds := by
  unfold own
  simp only
  have g : (take L (take L (take L st 5).2 5).2 4).2.kinds = st.kinds := by rw [take_kinds, take_kinds, take_kinds]
  generalize take L (take L (take L st 5).2 5).2 4 = K at *
  have g2 := (lenF_kinds L (K.1.toNat + 4) 0 (List.replicate 19 0) K.2).trans g
  generalize lenF L (K.1.toNat + 4) 0 (List.replicate 19 0) K.2 = Q at *
  split
  · exact g2
  · generalize ((take L st 5).1 + (take L (take L st 5).2 5).1 + 258).toNat = n
    have g3 := (listed_kinds L Q.1 n Q.2).trans g2
    split
    · exact g3
    · split
      · exact g3
      · exact (symsF_kinds L limit _ _ _ _ _ _).trans g3
theorem block_kinds (L : List Int) (limit k : Int) (st : St) : (block L limit k st).kinds = st.kinds := by
  unfold block
  split
  · exact plain_kinds L limit st
  · split
    · exact symsF_kinds L limit _ _ _ _ _ st
    · split
      · exact own_kinds L limit st
      · rfl

end Go.Proofs.Ytmfijackgekioaa.Rf
