import Derived.Test.YtmfijackgekioaaRv
import Derived.Test.YtmfijackgekioaaRy
namespace Go.Proofs.Ytmfijackgekioaa
open Go.RowKit

/-- A kind put behind the kinds. -/
theorem Rep.pushK {w w2 : World} {B : Nat} {L : List Int} {ao : Option Addr} {cap : Nat} {limit : Int} {st : Rf.St} {ov kv v' : Value} (h : Rep w B L ao cap limit st ov kv) (o : Obj) (c : Int)
    (hown' : w2.ownsRow (B + 1) 3 1 v' (st.kinds.length + 1) (vals st.kinds ++ [.int .i64 c])) (hgrow : (w.alloc o).grownBy w2 kv.ownBlock) :
    Rep (w2.setCell ⟨B, 6, none⟩ v') B L ao cap limit { st with kinds := st.kinds ++ [c] } ov v' ∧ Below B w (w2.setCell ⟨B, 6, none⟩ v') := by
  have hlt := h.lt
  have hne : ∀ k, k ≤ B → some k ≠ kv.ownBlock := fun k hk e => by have := (h.hk.lt k e.symm).1; omega
  have hblk : ∀ k, k < w.heap.size → some k ≠ kv.ownBlock → w2.heap[k]? = w.heap[k]? := fun k hk hn => (hgrow.block k (by simp; omega) hn).trans (Below.heap_alloc w o k hk)
  have hB2 : w2.heap[B]? = _ := (hblk B hlt (hne B (Nat.le_refl _))).trans h.blk
  have hsz : w.heap.size ≤ w2.heap.size := by have := hgrow.size; simp at this; omega
  refine ⟨⟨(heap_setCell_same w2 B 6 _ _ v' hB2).trans rfl, ?_, h.hla, h.hb, h.hpos, h.hlen, h.h8, ?_, ?_⟩, ⟨hgrow.os, hgrow.tape, hgrow.output, by simp; omega, ?_⟩⟩
  · intro k hk
    obtain ⟨b, off, rfl, hc⟩ := h.hl k hk
    have hb := h.hla _ rfl (ne_of_lt hk)
    have e1 : (w2.setCell ⟨B, 6, none⟩ v').heap[b]? = w.heap[b]? := (Below.heap_setCell w2 ⟨B, 6, none⟩ v' b (Nat.ne_of_lt hb)).trans (hblk b (Nat.lt_trans hb hlt) (hne b (Nat.le_of_lt hb)))
    exact ⟨b, off, rfl, (World.cell?_of_block (w := w) e1).trans hc⟩
  · refine ownsRow_setCell_below (((h.ho.alloc o).kept hgrow ?_)) (Nat.lt_succ_self B) v'
    cases hov : ov.ownBlock with
    | none => exact .inl rfl
    | some g =>
      right
      intro e
      obtain ⟨cur, q1⟩ := own_type h.ho g hov
      obtain ⟨cur2, q2⟩ := own_type h.hk g e.symm
      rw [q1] at q2
      simp at q2
  · have : vals (st.kinds ++ [c]) = vals st.kinds ++ [.int .i64 c] := by simp [vals]
    rw [show ({ st with kinds := st.kinds ++ [c] } : Rf.St).kinds = st.kinds ++ [c] from rfl, this, List.length_append]
    exact ownsRow_setCell_below hown' (Nat.lt_succ_self B) v'
  · intro k hk
    exact (Below.heap_setCell w2 ⟨B, 6, none⟩ v' k (Nat.ne_of_lt hk)).trans (hblk k (Nat.lt_trans hk hlt) (hne k (Nat.le_of_lt hk)))
/-- The reader's block behind an append of its kinds. -/
theorem Rep.grownK {w w2 : World} {B : Nat} {L : List Int} {ao : Option Addr} {cap : Nat} {limit : Int} {st : Rf.St} {ov kv : Value} (h : Rep w B L ao cap limit st ov kv) (o : Obj) (hgrow : (w.alloc o).grownBy w2 kv.ownBlock) :
    w2.cell? ⟨B, 6, none⟩ = some kv ∧ w2.frozen? ⟨B, 6, none⟩ = false ∧ w2.heap[B]? = w.heap[B]? := by
  have hlt := h.lt
  have e : w2.heap[B]? = w.heap[B]? := (hgrow.block B (by simp; omega) (fun e => by have := (h.hk.lt B e.symm).1; omega)).trans (Below.heap_alloc w o B hlt)
  have hB := e.trans h.blk
  exact ⟨cell_of_row _ _ _ _ _ _ hB, frozen_of_row w2 B 6 _ _ hB, e⟩

theorem some_bits (c : UInt8) : ∀ j x, x ∈ Mx.some c j → 0 ≤ x ∧ x ≤ 1 := by
  intro j
  induction j with
  | zero => intro x hx; simp [Mx.some] at hx
  | succ j ih =>
    intro x hx
    rw [Mx.some_succ] at hx
    rcases List.mem_append.1 hx with h | h
    · exact ih x h
    · simp at h
      omega
theorem low_mem (l : List UInt8) : ∀ x, x ∈ Mx.low l → 0 ≤ x ∧ x ≤ 1 := by
  induction l with
  | nil => intro x hx; cases hx
  | cons c l ih =>
    intro x hx
    rcases List.mem_append.1 hx with h | h
    · exact some_bits c 8 x h
    · exact ih x h
theorem low_is_bits (l : List UInt8) : Rf.Bits (Mx.low l) := by
  intro j
  by_cases hj : j < (Mx.low l).length
  · have h := low_mem l _ (List.getElem_mem hj)
    have e : (Mx.low l).getD j 0 = (Mx.low l)[j] := by simp [List.getD, List.getElem?_eq_getElem hj]
    omega
  · left
    simp [List.getD, List.getElem?_eq_none (show (Mx.low l).length ≤ j by omega)]
theorem own_ints {w : World} {base n cap : Nat} {oa : Option Addr} {zs : List Int} (h : w.ownsRow base 3 1 (.slice oa n cap) n (vals zs)) : Ints w oa zs ∧ (∀ a, oa = some a → zs ≠ [] → a.block < w.heap.size) := by
  have hl := h.1
  rcases h.2 with ⟨h', hn⟩ | ⟨g, cap', cur, e, _, hb, _⟩
  · have : zs = [] := by
      have : zs.length = 0 := by simp [vals] at hl; omega
      exact List.eq_nil_of_length_eq_zero this
    subst this
    exact ⟨fun j hj => absurd hj (Nat.not_lt_zero _), fun _ _ h => absurd rfl h⟩
  · cases e
    exact ⟨fun j hj => ⟨g, 0, rfl, by have := own_cell h j hj; simpa using this⟩, fun a e _ => by cases e; exact lt_of_block hb⟩
/-- The reader, new. -/
theorem rep_new (w : World) (oa : Option Addr) (oc : Nat) (limit : Int) (L : List Int) (base n : Nat) (h : w.ownsRow base 3 1 (.slice oa n oc) n (vals L)) (hn : L.length = n) (hb : Rf.Bits L) (hlen : n ≤ 8388608) (h8 : n % 8 = 0) :
    Rep (w.alloc (.cells #[.slice oa n oc, .int .i64 0, .int .i64 limit, .bool false, .bool false, .slice none 0 0, .slice none 0 0] 41)) w.heap.size L oa oc limit ⟨0, false, false, [], []⟩ (.slice none 0 0) (.slice none 0 0) := by
  obtain ⟨h1, h2⟩ := own_ints h
  subst hn
  refine ⟨blk_new w _, fun j hj => ?_, h2, hb, Nat.zero_le _, hlen, h8, World.ownsRow_nil _ _ _ _, World.ownsRow_nil _ _ _ _⟩
  obtain ⟨b, off, rfl, hc⟩ := h1 j hj
  exact ⟨b, off, rfl, (World.cell?_of_block (w := w) (Below.heap_alloc w _ b (h2 _ rfl (ne_of_lt hj)))).trans hc⟩

end Go.Proofs.Ytmfijackgekioaa
