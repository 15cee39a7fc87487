import Derived.Test.YtmfijackgekioaaGreatDoorQUf
import Derived.Deep.RegionHeld3
import Derived.Deep.RegionWith
import Derived.Deep.RegionLaw

/-
  A new table; a code read by it.
-/
namespace Go.Proofs.YtmfijackgekioaaGreatDoor
open Go.RowKit Go.Maps

abbrev tabV (M sh lo : Nat) : Value := .agg #[.map (some M), .int .u16 sh, .int .u16 lo]
/-- A table of the codes of some lengths. -/
def Tab (w : World) (M sh lo : Nat) (ls : List Int) : Prop := ∃ (q : Nat) (D : DataW Unit), w.ownsMap Tryz.prog 230 (plainElem Tryz.prog 3) M q D ∧ Held D ls 15 0 sh lo ∧ ∀ j, ls.getD j 0 ≤ 15
theorem Tab.lt {w : World} {M sh lo : Nat} {ls : List Int} (h : Tab w M sh lo ls) : M < w.heap.size := by obtain ⟨q, D, h, _⟩ := h; exact h.lt
theorem Tab.kept {w w' : World} {M sh lo : Nat} {ls : List Int} {S : Nat → Prop} (h : Tab w M sh lo ls) (k : Kp S w w') (hM : ¬ S M) : Tab w' M sh lo ls := by
  obtain ⟨q, D, h2, h3⟩ := h
  refine ⟨q, D, ?_, h3⟩
  obtain ⟨es, clock, hb, r⟩ := h2
  exact ⟨es, clock, (k.block M (lt_of_block hb) hM).trans hb, r⟩
theorem Tab.below {w w' : World} {M sh lo B : Nat} {ls : List Int} (h : Tab w M sh lo ls) (k : Below B w w') (hM : M < B) : Tab w' M sh lo ls := by
  obtain ⟨q, D, h2, h3⟩ := h
  refine ⟨q, D, ?_, h3⟩
  obtain ⟨es, clock, hb, r⟩ := h2
  exact ⟨es, clock, (k.block M hM).trans hb, r⟩

theorem run_makeMap_hint (n : Nat) (w : World) : (Instr.makeMap 161 (some (.int .i64 (n : Int)))).run Tryz.prog w = .ok (.map (some w.heap.size)) (w.alloc (.map #[] 0)) := by
  simp [Instr.makeMap, run_underlying Tryz.underlying161, asInt]
  rfl

set_option maxRecDepth 100000 in
set_option maxHeartbeats 2000000 in
theorem newTable59 (ao : Option Addr) (cap : Nat) (ls : List Int) (N : Nat) (w : World) (hN : ls.length = N) (hlen : N ≤ 320) (hint : Ints w ao ls) (ha : ∀ a, ao = some a → ls ≠ [] → a.block < w.heap.size)
    (hw : ∀ j, ls.getD j 0 ≤ 15) (hf : Rf.fs ls ls.length ≤ 32768) :
    Calls Tryz.prog 156 #[.slice ao N cap] w
      fun e w' => ∃ M sh lo, e = .returned (tabV M sh lo) ∧ Tab w' M sh lo ls ∧ w.heap.size ≤ M ∧ Below w.heap.size w w' := by
  have hmm := run_makeMap_hint
  have hmf : ∀ (fn : Fn) (first cap : Array Value) (w : World), (Instr.makeFunc fn first cap).run Tryz.prog w = .ok (.func fn first cap) w := fun _ _ _ _ => rfl
  go_enter Tryz.func156, Tryz.ntmps156
  go_wp2_with fail
  have hkp3 : Kp (fun _ => False) w (((w.alloc (.cells #[.map none, .int .u16 0, .int .u16 0] 164)).alloc (.map #[] 0)).alloc (.cells #[.map (some (w.heap.size + 1)), .int .u16 0, .int .u16 0] 164)) := (((Kp.refl _ w).alloc _).alloc _).alloc _
  have hF0 : Fill (((w.alloc (.cells #[.map none, .int .u16 0, .int .u16 0] 164)).alloc (.map #[] 0)).alloc (.cells #[.map (some (w.heap.size + 1)), .int .u16 0, .int .u16 0] 164)) (w.heap.size + 1 + 1) (w.heap.size + 1) ls 0 0 0 := by
    refine ⟨.map [], 0, 0, ?_, ?_, Held.start ls⟩
    · have h := blk_new ((w.alloc (.cells #[.map none, .int .u16 0, .int .u16 0] 164)).alloc (.map #[] 0)) (.cells #[.map (some (w.heap.size + 1)), .int .u16 0, .int .u16 0] 164)
      simpa using h
    · have h := (World.ownsMap_made (H := Unit) (w.alloc (.cells #[.map none, .int .u16 0, .int .u16 0] 164)) Tryz.prog 230 (plainElem Tryz.prog 3)).alloc (.cells #[.map (some (w.heap.size + 1)), .int .u16 0, .int .u16 0] 164)
      simpa using h
  refine (each83 (w.heap.size + 1 + 1) (w.heap.size + 1) ao cap ls N _ hN hlen ?_ ?_ hw hf hF0 (by omega)).mono ?_
  · intro j hj
    obtain ⟨b, off, e, hc⟩ := hint j hj
    exact ⟨b, off, e, (hkp3.cell (p := ⟨b, off + j, none⟩) (ha ⟨b, off, none⟩ e (ne_of_lt hj)) id).trans hc⟩
  · intro a e hne
    have := ha a e hne
    exact ⟨by simp; omega, by omega, by omega⟩
  rintro e w1 ⟨rfl, ⟨q, hF⟩, hk⟩
  obtain ⟨D, sh, lo, h1, h2, h3⟩ := hF
  obtain ⟨c0, c1, c2, fz, hlt⟩ := tcells h1
  have hr : w1.heap[w.heap.size]? = some (.cells #[.map none, .int .u16 0, .int .u16 0] 164 (0, 0)) := (hk.block w.heap.size (by simp; omega) (by omega)).trans (blk_old (blk_old (blk_new w _) _) _)
  obtain ⟨r0, r1, r2, rz, rlt⟩ := tcells hr
  have hb : Below w.heap.size w w1 := (hkp3.toBelow).trans (hk.below (by simp; omega) (fun k _ h => by omega))
  have HT : Hid (Tab w1 (w.heap.size + 1) sh lo ls) := ⟨q, D, h2, h3, hw⟩
  clear h1 h2 h3 hF0 hkp3 hk hmm hmf hint ha
  go_wp2
  have hk4 : ∀ u v x : Value, Kp (· = w.heap.size) w1 (((w1.setCell ⟨w.heap.size, 0, none⟩ u).setCell ⟨w.heap.size, 1, none⟩ v).setCell ⟨w.heap.size, 2, none⟩ x) := fun u v x =>
    (((Kp.refl (· = w.heap.size) w1).setCell (p := ⟨w.heap.size, 0, none⟩) (.inl rfl) u).setCell (p := ⟨w.heap.size, 1, none⟩) (.inl rfl) v).setCell (p := ⟨w.heap.size, 2, none⟩) (.inl rfl) x
  exact bodyPost_ret (v := tabV (w.heap.size + 1) sh lo) (by simp [results, Tryz.results156, go_sem, r0, r1, r2]) rfl
    ⟨w.heap.size + 1, sh, lo, rfl, HT.out.kept (hk4 _ _ _) (by omega), by omega, hb.trans ((hk4 _ _ _).below (Nat.le_of_lt rlt) (fun k _ h => by omega))⟩

end Go.Proofs.YtmfijackgekioaaGreatDoor
