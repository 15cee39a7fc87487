import Derived.Test.YtmfijackgekioaaGreatDoorQWrWe2
import Derived.Test.YtmfijackgekioaaGreatDoorCards
import Derived.Test.YtmfijackgekioaaGreatDoorTie
import Derived.ProofKit
import Derived.OpenShut
import Derived.Deep.DeepHandedRow
import Derived.Lib.LaidTab
import Derived.Lib.SmallJoins
import Derived.SizedLaws

/-
  The table of the seven passes, as a card lays it.
-/
namespace Go.Proofs.YtmfijackgekioaaGreatDoor
open Go.ChangeShapes Go.WideShapes Go.ChangeAt Go.RowKit Go.Joins

theorem Tryz.own : ownKnob Tryz.prog.godebug = none := by kernel_rfl
theorem Tryz.laidOut : laidOutB Tryz.prog = true := by kernel_rfl
theorem gTab : Tryz.prog.globalNamed "mosaic/picture.sevenPasses" = some 0 := by kernel_rfl
theorem gTabType : (Tryz.prog.globals[0]?).map (·.type) = some 178 := by kernel_rfl
theorem cells_int : Tryz.prog.cellsOf 3 = 1 := by kernel_rfl
theorem cells_pass : Tryz.prog.cellsOf 122 = 6 := by kernel_rfl
theorem cells_seven : Tryz.prog.cellsOf 178 = 42 := by kernel_rfl

section
variable {H : Type} {enc : TypeId × Value → H} {w : World} {base : Nat} {sp : Nat → Bool} {held : Bool}

theorem int_cell {n : Nat} {cs : List Value} {z : Int} {p : List MemPlace} (h : DataW.trod enc Tryz.prog w base sp held n 3 cs = some (.lit (.int .i64 z), p)) : cs = [.int .i64 z] := by
  obtain ⟨a, h1, h2, _⟩ := DataW.trod_int Tryz.underlying3 h
  simp at h2
  obtain ⟨rfl, _⟩ := h2
  exact h1

theorem list6 {α : Type} : ∀ {l : List α}, l.length = 6 → ∃ a b c d e f, l = [a, b, c, d, e, f]
  | [a, b, c, d, e, f], _ => ⟨a, b, c, d, e, f, rfl⟩
theorem list7 {α : Type} : ∀ {l : List α}, l.length = 7 → ∃ a b c d e f g, l = [a, b, c, d, e, f, g]
  | [a, b, c, d, e, f, g], _ => ⟨a, b, c, d, e, f, g, rfl⟩

theorem pass_cells {n : Nat} {cs : List Value} {a b c d e f : Int} {p : List MemPlace}
    (h : DataW.trod enc Tryz.prog w base sp held n 122 cs = some (.agg [.lit (.int .i64 a), .lit (.int .i64 b), .lit (.int .i64 c), .lit (.int .i64 d), .lit (.int .i64 e), .lit (.int .i64 f)], p)) :
    cs = [.int .i64 a, .int .i64 b, .int .i64 c, .int .i64 d, .int .i64 e, .int .i64 f] := by
  obtain ⟨xs, m, _, hx, hl, hlen, hf⟩ := DataW.trod_struct Tryz.underlying122 h
  obtain ⟨c0, c1, c2, c3, c4, c5, rfl⟩ := list6 (hl.trans cells_pass)
  obtain ⟨y0, y1, y2, y3, y4, y5, rfl⟩ := list6 (hlen.trans rfl)
  simp only [List.map_cons, List.map_nil, Prod.mk.injEq, DataW.agg.injEq, List.cons.injEq, and_true] at hx
  obtain ⟨⟨e0, e1, e2, e3, e4, e5⟩, _⟩ := hx
  have g0 : DataW.trod enc Tryz.prog w base sp held m 3 (List.take (Tryz.prog.cellsOf 3) (List.drop 0 [c0, c1, c2, c3, c4, c5])) = some y0 := hf 0 _ rfl
  have g1 : DataW.trod enc Tryz.prog w base sp held m 3 (List.take (Tryz.prog.cellsOf 3) (List.drop 1 [c0, c1, c2, c3, c4, c5])) = some y1 := hf 1 _ rfl
  have g2 : DataW.trod enc Tryz.prog w base sp held m 3 (List.take (Tryz.prog.cellsOf 3) (List.drop 2 [c0, c1, c2, c3, c4, c5])) = some y2 := hf 2 _ rfl
  have g3 : DataW.trod enc Tryz.prog w base sp held m 3 (List.take (Tryz.prog.cellsOf 3) (List.drop 3 [c0, c1, c2, c3, c4, c5])) = some y3 := hf 3 _ rfl
  have g4 : DataW.trod enc Tryz.prog w base sp held m 3 (List.take (Tryz.prog.cellsOf 3) (List.drop 4 [c0, c1, c2, c3, c4, c5])) = some y4 := hf 4 _ rfl
  have g5 : DataW.trod enc Tryz.prog w base sp held m 3 (List.take (Tryz.prog.cellsOf 3) (List.drop 5 [c0, c1, c2, c3, c4, c5])) = some y5 := hf 5 _ rfl
  rw [cells_int] at g0 g1 g2 g3 g4 g5
  obtain ⟨y0a, y0b⟩ := y0
  obtain ⟨y1a, y1b⟩ := y1
  obtain ⟨y2a, y2b⟩ := y2
  obtain ⟨y3a, y3b⟩ := y3
  obtain ⟨y4a, y4b⟩ := y4
  obtain ⟨y5a, y5b⟩ := y5
  simp only at e0 e1 e2 e3 e4 e5
  subst e0 e1 e2 e3 e4 e5
  have r0 := int_cell (cs := [c0]) g0
  have r1 := int_cell (cs := [c1]) g1
  have r2 := int_cell (cs := [c2]) g2
  have r3 := int_cell (cs := [c3]) g3
  have r4 := int_cell (cs := [c4]) g4
  have r5 := int_cell (cs := [c5]) g5
  rw [List.head_eq_of_cons_eq r0, List.head_eq_of_cons_eq r1, List.head_eq_of_cons_eq r2, List.head_eq_of_cons_eq r3, List.head_eq_of_cons_eq r4, List.head_eq_of_cons_eq r5]

theorem take6 {cs r : List Value} (h : cs.take 6 = r) : cs = r ++ cs.drop 6 := by rw [← h, List.take_append_drop]

theorem seven_cells {n : Nat} {cs : List Value} {p : List MemPlace} (h : DataW.trod enc Tryz.prog w base sp held n 178 cs = some (Rows.laid_mosaic_picture_sevenPasses, p)) : cs.toArray = tab42 := by
  obtain ⟨xs, m, _, hx, hl, hlen, hf⟩ := DataW.trod_array Tryz.underlying178 h
  obtain ⟨y0, y1, y2, y3, y4, y5, y6, rfl⟩ := list7 hlen
  simp only [Rows.laid_mosaic_picture_sevenPasses, List.map_cons, List.map_nil, Prod.mk.injEq, DataW.agg.injEq, List.cons.injEq, and_true] at hx
  obtain ⟨⟨e0, e1, e2, e3, e4, e5, e6⟩, _⟩ := hx
  have g0 := hf 0 (by omega)
  have g1 := hf 1 (by omega)
  have g2 := hf 2 (by omega)
  have g3 := hf 3 (by omega)
  have g4 := hf 4 (by omega)
  have g5 := hf 5 (by omega)
  have g6 := hf 6 (by omega)
  simp only [cells_pass, List.getElem?_cons_zero, List.getElem?_cons_succ] at g0 g1 g2 g3 g4 g5 g6
  obtain ⟨y0a, y0b⟩ := y0
  obtain ⟨y1a, y1b⟩ := y1
  obtain ⟨y2a, y2b⟩ := y2
  obtain ⟨y3a, y3b⟩ := y3
  obtain ⟨y4a, y4b⟩ := y4
  obtain ⟨y5a, y5b⟩ := y5
  obtain ⟨y6a, y6b⟩ := y6
  simp only at e0 e1 e2 e3 e4 e5 e6
  subst e0 e1 e2 e3 e4 e5 e6
  have r0 := pass_cells g0
  have r1 := pass_cells g1
  have r2 := pass_cells g2
  have r3 := pass_cells g3
  have r4 := pass_cells g4
  have r5 := pass_cells g5
  have r6 := pass_cells g6
  rw [cells_seven] at hl
  have s0 := take6 r0
  have s1 := take6 r1
  have s2 := take6 r2
  have s3 := take6 r3
  have s4 := take6 r4
  have s5 := take6 r5
  have s6 := take6 r6
  simp only [List.drop_drop, Nat.reduceMul, Nat.reduceAdd, List.drop_zero] at s0 s1 s2 s3 s4 s5 s6
  have s7 : cs.drop 42 = [] := List.drop_eq_nil_of_le (by omega)
  rw [s7] at s6
  rw [s0, s1, s2, s3, s4, s5, s6]
  rfl
end

/-- WHAT THE ROW's LIST GIVES: the table's block. -/
theorem table {W : World} (h' : laidMet Tryz.prog [("mosaic/picture.sevenPasses", Rows.laid_mosaic_picture_sevenPasses)] W) : ∃ tt fr, W.heap[0]? = some (.cells tab42 tt fr) := by
  obtain ⟨ps, ⟨g', t', cs, fuel, p, q, hg', ht', hvar, hd, _, _⟩, _⟩ := h'
  obtain rfl := Option.some.inj (gTab.symm.trans hg')
  obtain rfl := Option.some.inj (gTabType.symm.trans ht')
  unfold World.var? at hvar
  rw [gTab] at hvar
  simp only [Option.bind_some] at hvar
  split at hvar
  · rename_i cs' tt fr hh
    refine ⟨tt, fr, ?_⟩
    have hcs := seven_cells hd
    rw [Array.toArray_toList] at hcs
    rw [hh, Option.some.inj hvar, hcs]
  · cases hvar

end Go.Proofs.YtmfijackgekioaaGreatDoor
