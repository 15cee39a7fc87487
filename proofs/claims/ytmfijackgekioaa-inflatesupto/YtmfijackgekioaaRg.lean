import Derived.Test.YtmfijackgekioaaRu
namespace Go.Proofs.Ytmfijackgekioaa
open Go.RowKit

theorem own_blk {w w' : World} {base e n : Nat} {v : Value} {xs : List Value} (h : w.ownsRow base e 1 v n xs) (hb : ∀ g, v.ownBlock = some g → w'.heap[g]? = w.heap[g]?) : w'.ownsRow base e 1 v n xs := by
  refine ⟨h.1, ?_⟩
  rcases h.2 with h' | ⟨g, cap, cur, rfl, hb', hg, hr⟩
  · exact .inl h'
  · exact .inr ⟨g, cap, cur, rfl, hb', (hb g rfl).trans hg, hr⟩

/-- The reader is as it was where its blocks are. -/
theorem Rep.keep {w w' : World} {B : Nat} {L : List Int} {ao : Option Addr} {cap : Nat} {limit : Int} {st : Rf.St} {ov kv : Value} (h : Rep w B L ao cap limit st ov kv)
    (hb : ∀ k, k ≤ B → w'.heap[k]? = w.heap[k]?) (ho : ∀ g, ov.ownBlock = some g → w'.heap[g]? = w.heap[g]?) (hk : ∀ g, kv.ownBlock = some g → w'.heap[g]? = w.heap[g]?) : Rep w' B L ao cap limit st ov kv :=
  ⟨(hb B (Nat.le_refl _)).trans h.blk, fun j hj => by
    obtain ⟨b, off, rfl, hc⟩ := h.hl j hj
    exact ⟨b, off, rfl, (World.cell?_of_block (w := w) (hb b (Nat.le_of_lt (h.hla _ rfl (ne_of_lt hj))))).trans hc⟩, h.hla, h.hb, h.hpos, h.hlen, h.h8, own_blk h.ho ho, own_blk h.hk hk⟩
theorem Rep.later {w w' : World} {B : Nat} {L : List Int} {ao : Option Addr} {cap : Nat} {limit : Int} {st : Rf.St} {ov kv : Value} (h : Rep w B L ao cap limit st ov kv) (hb : Below w.heap.size w w') : Rep w' B L ao cap limit st ov kv :=
  h.keep (fun k hk => hb.block k (Nat.lt_of_le_of_lt hk h.lt)) (fun g hg => hb.block g (h.ho.lt g hg).2) (fun g hg => hb.block g (h.hk.lt g hg).2)

def lenV : Value → Nat | .slice _ n _ => n | _ => 0

/-- The state of the list under way. -/
structure Ls (w0 wr : World) (B : Nat) (v : Value) (out : List Int) : Prop where
  own : wr.ownsRow w0.heap.size 3 1 v out.length (vals out)
  kp : Kp (· = B) w0 wr

end Go.Proofs.Ytmfijackgekioaa
