import Derived.Test.YtmfijackgekioaaRs
namespace Go.Proofs.Ytmfijackgekioaa
open Go.RowKit

/-- What the reader's methods leave alone: all below it, and of what lies behind it all that holds no bytes. -/
structure Fr (B : Nat) (w w' : World) : Prop where
  below : Below B w w'
  other : ∀ k, B < k → k < w.heap.size → (∀ c fr, w.heap[k]? ≠ some (.cells c 5 fr)) → w'.heap[k]? = w.heap[k]?
theorem Fr.refl (B : Nat) (w : World) : Fr B w w := ⟨Below.refl _ _, fun _ _ _ _ => rfl⟩
theorem Fr.trans {B : Nat} {a b c : World} (h : Fr B a b) (k : Fr B b c) : Fr B a c :=
  ⟨h.below.trans k.below, fun i h1 h2 h3 => by
    have e := h.other i h1 h2 h3
    exact (k.other i h1 (Nat.lt_of_lt_of_le h2 h.below.size) (fun c fr => by rw [e]; exact h3 c fr)).trans e⟩
theorem Fr.ofKp {B : Nat} {w w' : World} (hB : B ≤ w.heap.size) (h : Kp (· = B) w w') : Fr B w w' :=
  ⟨h.below hB (fun _ _ e => Nat.le_of_eq e.symm), fun k h1 h2 _ => h.block k h2 (Nat.ne_of_gt h1)⟩
theorem Fr.drewN {B : Nat} {a w : World} (h : Fr B a w) (n : Nat) : Fr B a (w.drewN n) := ⟨below_drewN h.below n, h.other⟩

theorem Rep.lt {w : World} {B : Nat} {L : List Int} {ao : Option Addr} {cap : Nat} {limit : Int} {st : Rf.St} {ov kv : Value} (h : Rep w B L ao cap limit st ov kv) : B < w.heap.size := lt_of_block h.blk

theorem own_type {w : World} {base e n : Nat} {v : Value} {xs : List Value} (h : w.ownsRow base e 1 v n xs) (g : Nat) (hg : v.ownBlock = some g) : ∃ cur, w.heap[g]? = some (.cells cur e (0, 0)) := by
  rcases h.2 with ⟨rfl, _⟩ | ⟨g', cap, cur, rfl, hb, hg', _⟩
  · simp [Value.ownBlock] at hg
  · simp [Value.ownBlock] at hg
    subst hg
    exact ⟨cur, hg'⟩

/-- A byte put behind what came out. -/
theorem Rep.push {w w2 : World} {B : Nat} {L : List Int} {ao : Option Addr} {cap : Nat} {limit : Int} {st : Rf.St} {ov kv v' : Value} (h : Rep w B L ao cap limit st ov kv) (o : Obj) (c : UInt8)
    (hown' : w2.ownsRow (B + 1) 5 1 v' (st.out.length + 1) (st.out.map byteV ++ [byteV c])) (hgrow : (w.alloc o).grownBy w2 ov.ownBlock) :
    Rep (w2.setCell ⟨B, 5, none⟩ v') B L ao cap limit { st with out := st.out ++ [c] } v' kv ∧ Fr B w (w2.setCell ⟨B, 5, none⟩ v') := by
  have hlt := h.lt
  have hne : ∀ k, k ≤ B → some k ≠ ov.ownBlock := fun k hk e => by have := (h.ho.lt k e.symm).1; omega
  have hblk : ∀ k, k < w.heap.size → some k ≠ ov.ownBlock → w2.heap[k]? = w.heap[k]? := fun k hk hn => (hgrow.block k (by simp; omega) hn).trans (Below.heap_alloc w o k hk)
  have hB2 : w2.heap[B]? = _ := (hblk B hlt (hne B (Nat.le_refl _))).trans h.blk
  have hsz : w.heap.size ≤ w2.heap.size := by have := hgrow.size; simp at this; omega
  refine ⟨⟨(heap_setCell_same w2 B 5 _ _ v' hB2).trans rfl, ?_, h.hla, h.hb, h.hpos, h.hlen, h.h8, ?_, ?_⟩, ⟨⟨hgrow.os, hgrow.tape, hgrow.output, by simp; omega, ?_⟩, ?_⟩⟩
  · intro k hk
    obtain ⟨b, off, rfl, hc⟩ := h.hl k hk
    have hb := h.hla _ rfl (ne_of_lt hk)
    have e1 : (w2.setCell ⟨B, 5, none⟩ v').heap[b]? = w.heap[b]? := (Below.heap_setCell w2 ⟨B, 5, none⟩ v' b (Nat.ne_of_lt hb)).trans (hblk b (Nat.lt_trans hb hlt) (hne b (Nat.le_of_lt hb)))
    exact ⟨b, off, rfl, (World.cell?_of_block (w := w) e1).trans hc⟩
  · have : (st.out ++ [c]).map byteV = st.out.map byteV ++ [byteV c] := by simp
    rw [show ({ st with out := st.out ++ [c] } : Rf.St).out = st.out ++ [c] from rfl, this, List.length_append]
    exact ownsRow_setCell_below hown' (Nat.lt_succ_self B) v'
  · refine ownsRow_setCell_below (((h.hk.alloc o).kept hgrow ?_)) (Nat.lt_succ_self B) v'
    cases hkv : kv.ownBlock with
    | none => exact .inl rfl
    | some g =>
      right
      intro e
      obtain ⟨cur, q1⟩ := own_type h.hk g hkv
      obtain ⟨cur2, q2⟩ := own_type h.ho g e.symm
      rw [q1] at q2
      simp at q2
  · intro k hk
    exact (Below.heap_setCell w2 ⟨B, 5, none⟩ v' k (Nat.ne_of_lt hk)).trans (hblk k (Nat.lt_trans hk hlt) (hne k (Nat.le_of_lt hk)))
  · intro k h1 h2 h3
    refine (Below.heap_setCell w2 ⟨B, 5, none⟩ v' k (Nat.ne_of_gt h1)).trans (hblk k h2 ?_)
    intro e
    obtain ⟨cur, q1⟩ := own_type h.ho k e.symm
    exact h3 _ _ q1

/-- The reader's block behind an append of its bytes. -/
theorem Rep.grown {w w2 : World} {B : Nat} {L : List Int} {ao : Option Addr} {cap : Nat} {limit : Int} {st : Rf.St} {ov kv : Value} (h : Rep w B L ao cap limit st ov kv) (o : Obj) (hgrow : (w.alloc o).grownBy w2 ov.ownBlock) :
    w2.cell? ⟨B, 5, none⟩ = some ov ∧ w2.frozen? ⟨B, 5, none⟩ = false ∧ w2.heap[B]? = w.heap[B]? := by
  have hlt := h.lt
  have e : w2.heap[B]? = w.heap[B]? := (hgrow.block B (by simp; omega) (fun e => by have := (h.ho.lt B e.symm).1; omega)).trans (Below.heap_alloc w o B hlt)
  have hB := e.trans h.blk
  exact ⟨cell_of_row _ _ _ _ _ _ hB, frozen_of_row w2 B 5 _ _ hB, e⟩

end Go.Proofs.Ytmfijackgekioaa
