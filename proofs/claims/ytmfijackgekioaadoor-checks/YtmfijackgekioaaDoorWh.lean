import Derived.Test.YtmfijackgekioaaDoorWv
namespace Go.Proofs.YtmfijackgekioaaDoor
open Go.RowKit

/-- A list that was handed in anew: its numbers, and behind them the spare room. -/
def Fresh (w : World) (g : Nat) (zs : List Int) : Prop := w.heap[g]? = some (.cells (vals zs ++ [Value.int .i64 77, Value.int .i64 77]).toArray 3 (0, 0))
theorem Fresh.ints {w : World} {g : Nat} {zs : List Int} (h : Fresh w g zs) : Ints w (some ⟨g, 0, none⟩) zs :=
  fun j hj => ⟨g, 0, rfl, by rw [Nat.zero_add]; exact lst_cell h j hj⟩
theorem Fresh.later {w w' : World} {g B : Nat} {zs : List Int} (h : Fresh w g zs) (hb : Below B w w') (hg : g < B) : Fresh w' g zs := (hb.block g hg).trans h
theorem Fresh.set {w : World} {g : Nat} {zs : List Int} (h : Fresh w g zs) (p : Addr) (hp : g ≠ p.block) (u : Value) : Fresh (w.setCell p u) g zs := (Below.heap_setCell w p u g hp).trans h

set_option maxRecDepth 100000 in
set_option maxHeartbeats 1000000 in
theorem handed5 (wd ht kd dp : Int) (ps : Bool) (pa : Option Addr) (pc : Nat) (pz : List Int) (sa : Option Addr) (sc : Nat) (sz : List Int) (w : World) (tt : TypeId) (fr : Nat × Nat) (hl : Lies w pa pz sa sz tt fr)
    (h1 : pz.length ≤ 17592186044416) (h2 : sz.length ≤ 17592186044416) :
    Calls Tryd.prog 4 #[img wd ht kd dp ps (.slice pa pz.length pc) (.slice sa sz.length sc)] w
      fun e w' => ∃ g1 g2, e = .returned (img wd ht kd dp ps (.slice (some ⟨g1, 0, none⟩) pz.length (pz.length + 2)) (.slice (some ⟨g2, 0, none⟩) sz.length (sz.length + 2))) ∧
        Fresh w' g1 pz ∧ Fresh w' g2 sz ∧ Below w.heap.size w w' := by
  go_enter Tryd.func4, Tryd.ntmps4
  have l1 := (hl.later ((Below.refl _ w).alloc (Nat.le_refl _) (.cells #[.int .i64 wd, .int .i64 ht, .int .i64 kd, .int .i64 dp, .bool ps, .slice pa pz.length pc, .slice sa sz.length sc] 24))).later ((Below.refl _ _).alloc (Nat.le_refl _) (.cells #[.int .i64 0, .int .i64 0, .int .i64 0, .int .i64 0, .bool false, .slice none 0 0, .slice none 0 0] 24))
  go_wp2_with fail
  refine (numbers11 pa pc pz pz.length _ rfl h1 l1.hp l1.hpa).mono ?_
  rintro e w1 ⟨rfl, q1, b1⟩
  have F1 : Fresh w1 _ pz := q1
  clear q1
  obtain ⟨c1, f1⟩ := bcell b1
  have hz1 : w.heap.size + 2 < w1.heap.size := by have := lt_of_block F1; simpa using this
  have hz2 : w.heap.size < w1.heap.size := by omega
  have hz3 : w.heap.size + 1 < w1.heap.size := by omega
  have l2 := l1.later b1
  have hbw : Below w.heap.size w (w1.setCell ⟨w.heap.size, 5, none⟩ (.slice (some ⟨w.heap.size + 1 + 1, 0, none⟩) pz.length (pz.length + 2))) :=
    ((((Below.refl _ w).alloc (Nat.le_refl _) _).alloc (by simp) _).trans (b1.mono (by simp; omega))).setCell (Nat.le_refl _) _
  have F1' : Fresh (w1.setCell ⟨w.heap.size, 5, none⟩ (.slice (some ⟨w.heap.size + 1 + 1, 0, none⟩) pz.length (pz.length + 2))) (w.heap.size + 1 + 1) pz :=
    Fresh.set (by simpa using F1) _ (by simp; omega) _
  go_wp2_with fail
  refine (numbers11 sa sc sz sz.length _ rfl h2 (hl.hs.below hbw hl.hsa) (fun a e e2 => Nat.lt_of_lt_of_le (hl.hsa a e e2) hbw.size)).mono ?_
  rintro e w2 ⟨rfl, q2, b2⟩
  have F2 : Fresh w2 _ sz := q2
  clear q2
  have F1'' := F1'.later b2 (by simp; omega)
  have hbw2 := hbw.trans (b2.mono hbw.size)
  have k1 : w1.heap[w.heap.size]? = some (.cells #[.int .i64 wd, .int .i64 ht, .int .i64 kd, .int .i64 dp, .bool ps, .slice pa pz.length pc, .slice sa sz.length sc] 24 (0, 0)) :=
    (b1.block _ (by simp; omega)).trans (blk_old (blk_new w _) _)
  have k2 : w2.heap[w.heap.size]? = some (.cells #[.int .i64 wd, .int .i64 ht, .int .i64 kd, .int .i64 dp, .bool ps, .slice (some ⟨w.heap.size + 1 + 1, 0, none⟩) pz.length (pz.length + 2), .slice sa sz.length sc] 24 (0, 0)) :=
    (b2.block _ (by simp; omega)).trans ((heap_setCell_same w1 _ 5 _ _ _ k1).trans rfl)
  have k3 : w2.heap[w.heap.size + 1]? = some (.cells #[.int .i64 0, .int .i64 0, .int .i64 0, .int .i64 0, .bool false, .slice none 0 0, .slice none 0 0] 24 (0, 0)) :=
    (b2.block _ (by simp; omega)).trans ((Below.heap_setCell w1 _ _ _ (by simp)).trans ((b1.block _ (by simp)).trans (by have := blk_new (w.alloc (.cells #[.int .i64 wd, .int .i64 ht, .int .i64 kd, .int .i64 dp, .bool ps, .slice pa pz.length pc, .slice sa sz.length sc] 24)) (.cells #[.int .i64 0, .int .i64 0, .int .i64 0, .int .i64 0, .bool false, .slice none 0 0, .slice none 0 0] 24); rw [World.size_alloc] at this; exact this)))
  have d : ∀ i, w2.cell? ⟨w.heap.size, i, none⟩ = (#[.int .i64 wd, .int .i64 ht, .int .i64 kd, .int .i64 dp, .bool ps, .slice (some ⟨w.heap.size + 1 + 1, 0, none⟩) pz.length (pz.length + 2), .slice sa sz.length sc] : Array Value)[i]? := fun i => cell_of_row _ _ _ _ _ _ k2
  have df : ∀ i, w2.frozen? ⟨w.heap.size, i, none⟩ = false := fun i => frozen_of_row w2 _ i _ _ k2
  have e : ∀ i, w2.cell? ⟨w.heap.size + 1, i, none⟩ = (#[.int .i64 0, .int .i64 0, .int .i64 0, .int .i64 0, .bool false, .slice none 0 0, .slice none 0 0] : Array Value)[i]? := fun i => cell_of_row _ _ _ _ _ _ k3
  have ef : ∀ i, w2.frozen? ⟨w.heap.size + 1, i, none⟩ = false := fun i => frozen_of_row w2 _ i _ _ k3
  have hy := lt_of_block F2
  simp only [World.size_setCell] at hy F2
  clear l1 l2 hl b1 b2 F1 F1' hbw c1 f1
  have K2 : Hid (w2.heap[w.heap.size]? = _) := k2
  clear k1 k2 k3
  go_wp2
  refine bodyPost_ret (v := img wd ht kd dp ps (.slice (some ⟨w.heap.size + 1 + 1, 0, none⟩) pz.length (pz.length + 2)) (.slice (some ⟨w1.heap.size, 0, none⟩) sz.length (sz.length + 2))) (by simp [results, Tryd.results4, go_sem, e]) rfl ⟨_, _, rfl, ?_, ?_, ?_⟩
  · iterate 8 refine Fresh.set ?_ _ (by simp; try omega) _
    exact F1''
  · iterate 8 refine Fresh.set ?_ _ (by simp; try omega) _
    exact F2
  · iterate 8 refine Below.setCell ?_ (by simp) _
    exact hbw2

end Go.Proofs.YtmfijackgekioaaDoor
