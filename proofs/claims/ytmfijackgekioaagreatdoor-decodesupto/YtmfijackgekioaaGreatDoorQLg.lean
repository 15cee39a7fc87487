import Derived.Test.YtmfijackgekioaaGreatDoorQLeLf2
import Derived.Test.YtmfijackgekioaaGreatDoorQWaWs5
import Derived.Test.YtmfijackgekioaaGreatDoorQUtFm2

/-
  The head of a picture: the program. For Decodes.
-/
namespace Go.Proofs.YtmfijackgekioaaGreatDoor
open Go.RowKit Go.Maps

/-- What the head tells. -/
structure Hd where
  wd : Int
  ht : Int
  kd : Int
  dp : Int
  ps : Bool
def hdOf (b : ByteArray) : Hd := ⟨fourAt b 0, fourAt b 4, byteAt b 9, byteAt b 8, decide (byteAt b 12 = 1)⟩
def hdOk (b : ByteArray) : Bool := decide (b.size = 13) && ((Pm.sideB (fourAt b 0) && Pm.sideB (fourAt b 4)) && ((decide (byteAt b 10 = 0) && (decide (byteAt b 11 = 0) && decide (byteAt b 12 ≤ 1))) && !(Pm.chan (byteAt b 9) (byteAt b 8) == 0)))
/-- The picture with no more than its head. -/
abbrev hdCells (h : Hd) : Array Value := #[.int .i64 h.wd, .int .i64 h.ht, .int .i64 h.kd, .int .i64 h.dp, .bool h.ps, .slice none 0 0, .slice none 0 0]
abbrev hdZero : Array Value := #[.int .i64 0, .int .i64 0, .int .i64 0, .int .i64 0, .bool false, .slice none 0 0, .slice none 0 0]
inductive EndsH (b : ByteArray) (w : World) : Ending → World → Prop
  | no {w'} : hdOk b = false → Below w.heap.size w w' → EndsH b w (dies 13) w'
  | ok {w'} : hdOk b = true → Below w.heap.size w w' → EndsH b w (.returned (.agg (hdCells (hdOf b)))) w'
section
variable {P : Program} {ops : Array Oper} {Q : Exit → Act → World → Prop} {md : Region.Mode} {S : World → Prop} {z : Nat}
/-- The same with the slots laid out. -/
theorem anyZ_takeT {i t : Nat} {oi : Oper} {v : Value} {fuel : Nat} {listed : Array Bool} {X T : Array Value} {df} {w : World} (ht : X.setIfInBounds t v = T) (hi : ops[i]? = some oi) (hd : oi.dst = some t)
    (hs : Region.noSelect ops = true) (hf : Region.free md ops listed i = true) (hr : (Region.ready md ops listed).contains i = true) (hz : waits md ops z i = true)
    (hQ : ∀ c a w, Q (.panic c) (a.put oi.dst v) w → Q (.panic c) a w) (hw : Region.wanted oi (yielded ops X) = true) (hy : ∀ w, S w → (execOp (Act.mk X df).eval oi).run P w = .ok (.value v) w) (hS : S w)
    (h : anyZ P md ops Q S z fuel (listed.setIfInBounds i true) ⟨T, df⟩ w) : anyZ P md ops Q S z (fuel + 1) listed ⟨X, df⟩ w := by
  refine anyZ_take hi hs hf hr hz hQ hw hy hS ?_
  rw [hd]
  show anyZ P md ops Q S z fuel _ ⟨X.setIfInBounds t v, df⟩ w
  rw [ht]
  exact h
end
theorem share1 {P F : World → Prop} {G : Prop} (h1 : (∀ u, F u → P u) → G) (h2 : ∀ u, F u → P u) : G := h1 h2
theorem Tryz.infoImage : (Tryz.prog.info? 30).map (·.size) = some 7 := by kernel_rfl

/-- Behind the building: both pictures lie there. -/
structure HdAt (w : World) (C : Array Value) (u : World) : Prop where
  be : Below w.heap.size w u
  z : u.heap[w.heap.size]? = some (.cells hdZero 30 (0, 0))
  m : u.heap[w.heap.size + 1]? = some (.cells C 30 (0, 0))

theorem cells7H {w : World} {T : Nat} {a b c d e f g : Value} {t : TypeId} (h : w.heap[T]? = some (.cells #[a, b, c, d, e, f, g] t (0, 0))) :
    w.cell? ⟨T, 0, none⟩ = some a ∧ w.cell? ⟨T, 1, none⟩ = some b ∧ w.cell? ⟨T, 2, none⟩ = some c ∧ w.cell? ⟨T, 3, none⟩ = some d ∧ w.cell? ⟨T, 4, none⟩ = some e ∧ w.cell? ⟨T, 5, none⟩ = some f ∧ w.cell? ⟨T, 6, none⟩ = some g ∧ (∀ j, w.frozen? ⟨T, j, none⟩ = false) ∧ T < w.heap.size :=
  ⟨cell_of_row _ _ _ _ _ _ h, cell_of_row _ _ _ _ _ _ h, cell_of_row _ _ _ _ _ _ h, cell_of_row _ _ _ _ _ _ h, cell_of_row _ _ _ _ _ _ h, cell_of_row _ _ _ _ _ _ h, cell_of_row _ _ _ _ _ _ h, fun j => frozen_of_row w T j _ _ h, lt_of_block h⟩
/-- Seven cells written. -/
abbrev set7 (w : World) (X : Nat) (a b c d e f g : Value) : World := ((((((w.setCell ⟨X, 0, none⟩ a).setCell ⟨X, 1, none⟩ b).setCell ⟨X, 2, none⟩ c).setCell ⟨X, 3, none⟩ d).setCell ⟨X, 4, none⟩ e).setCell ⟨X, 5, none⟩ f).setCell ⟨X, 6, none⟩ g
theorem set7_row {w : World} {X : Nat} {t : TypeId} {a' b' c' d' e' f' g' : Value} (h : w.heap[X]? = some (.cells #[a', b', c', d', e', f', g'] t (0, 0))) (a b c d e f g : Value) : (set7 w X a b c d e f g).heap[X]? = some (.cells #[a, b, c, d, e, f, g] t (0, 0)) := by
  have h0 : (w.setCell ⟨X, 0, none⟩ a).heap[X]? = some (.cells #[a, b', c', d', e', f', g'] t (0, 0)) := heap_setCell_same _ X 0 _ _ _ h
  unfold set7
  generalize w.setCell ⟨X, 0, none⟩ a = w0 at *
  have h1 : (w0.setCell ⟨X, 1, none⟩ b).heap[X]? = some (.cells #[a, b, c', d', e', f', g'] t (0, 0)) := heap_setCell_same _ X 1 _ _ _ h0
  generalize w0.setCell ⟨X, 1, none⟩ b = w1 at *
  have h2 : (w1.setCell ⟨X, 2, none⟩ c).heap[X]? = some (.cells #[a, b, c, d', e', f', g'] t (0, 0)) := heap_setCell_same _ X 2 _ _ _ h1
  generalize w1.setCell ⟨X, 2, none⟩ c = w2 at *
  have h3 : (w2.setCell ⟨X, 3, none⟩ d).heap[X]? = some (.cells #[a, b, c, d, e', f', g'] t (0, 0)) := heap_setCell_same _ X 3 _ _ _ h2
  generalize w2.setCell ⟨X, 3, none⟩ d = w3 at *
  have h4 : (w3.setCell ⟨X, 4, none⟩ e).heap[X]? = some (.cells #[a, b, c, d, e, f', g'] t (0, 0)) := heap_setCell_same _ X 4 _ _ _ h3
  generalize w3.setCell ⟨X, 4, none⟩ e = w4 at *
  have h5 : (w4.setCell ⟨X, 5, none⟩ f).heap[X]? = some (.cells #[a, b, c, d, e, f, g'] t (0, 0)) := heap_setCell_same _ X 5 _ _ _ h4
  generalize w4.setCell ⟨X, 5, none⟩ f = w5 at *
  exact heap_setCell_same _ X 6 _ _ _ h5
theorem set7_far (w : World) (X : Nat) (a b c d e f g : Value) (j : Nat) (h : j ≠ X) : (set7 w X a b c d e f g).heap[j]? = w.heap[j]? := by
  unfold set7
  rw [Below.heap_setCell _ _ _ _ h, Below.heap_setCell _ _ _ _ h, Below.heap_setCell _ _ _ _ h, Below.heap_setCell _ _ _ _ h, Below.heap_setCell _ _ _ _ h, Below.heap_setCell _ _ _ _ h, Below.heap_setCell _ _ _ _ h]
theorem set7_below {B : Nat} {a0 w : World} (k : Below B a0 w) (X : Nat) (h : B ≤ X) (a b c d e f g : Value) : Below B a0 (set7 w X a b c d e f g) :=
  ((((((k.setCell (p := ⟨X, 0, none⟩) h _).setCell (p := ⟨X, 1, none⟩) h _).setCell (p := ⟨X, 2, none⟩) h _).setCell (p := ⟨X, 3, none⟩) h _).setCell (p := ⟨X, 4, none⟩) h _).setCell (p := ⟨X, 5, none⟩) h _).setCell (p := ⟨X, 6, none⟩) h _

set_option maxRecDepth 100000 in
set_option maxHeartbeats 2000000 in
theorem readHeadP (b : ByteArray) (w : World) :
    Calls Tryz.prog 89 #[.string b] w fun e w' => EndsH b w e w' := by
  by_cases h13 : b.size = 13
  · have h4 : (4 : Int) ≤ (b.size : Int) := by omega
    have h8 : (8 : Int) < (b.size : Int) := by omega
    have h9 : (9 : Int) < (b.size : Int) := by omega
    have h12 : (12 : Int) < (b.size : Int) := by omega
    have g8 := byteAt_eq b 8 (by omega)
    have g9 := byteAt_eq b 9 (by omega)
    have g12 := byteAt_eq b 12 (by omega)
    have hf0 := fun v => fromFourP b v (by omega)
    have hf4 := fun v => fromFourP (b.extract 4 b.size) v (by rw [ByteArray.size_extract]; omega)
    rw [fromF_four_at] at hf0 hf4
    rw [fourAt_extract b 4 b.size 0 (by omega) (Nat.le_refl _), Nat.add_zero] at hf4
    rw [h13] at hf4
    have h13i : (b.size : Int) = 13 := by omega
    have l8 := byteAt_lt b 8
    have l9 := byteAt_lt b 9
    have l12 := byteAt_lt b 12
    have x8 : IntKind.i64.wrap (byteAt b 8 : Int) = byteAt b 8 := IntWalk.i64_in _ (by omega)
    have x9 : IntKind.i64.wrap (byteAt b 9 : Int) = byteAt b 9 := IntWalk.i64_in _ (by omega)
    have x12 : ((byteAt b 12 : Int) == 1) = decide (byteAt b 12 = 1) := by
      rw [Bool.eq_iff_iff, beq_iff_eq, decide_eq_true_eq]; omega
    go_enter Tryz.func89, Tryz.ntmps89
    go_wp2_with fail
    apply share1 (F := HdAt w (hdCells (hdOf b)))
    · intro rest
      have hS : True := trivial
      have q0 := blk_new w (.cells hdZero 30)
      have k0 := (below_alloc w (.cells hdZero 30)).drew
      refine regionZ (by kernel_rfl) (fun _ => True) 16 ?_
      have Z0 : (w.alloc (.cells hdZero 30)).drew.heap[w.heap.size]? = some (.cells hdZero 30 (0, 0)) := q0
      have hsz : (w.alloc (.cells hdZero 30)).drew.heap.size = w.heap.size + 1 := by simp
      generalize (w.alloc (.cells hdZero 30)).drew = v0 at *
      refine anyZ_takeT (i := 0) (t := 10) (v := .string b) (T := ?_) (by go_simp; try with_reducible rfl) rfl rfl (by kernel_rfl) (by kernel_rfl) (by kernel_rfl) (by kernel_rfl) (fun _ _ _ h => h) (by kernel_rfl) ?_ hS ?_
      · intro w hSw; go_simp; try with_reducible rfl
      refine anyZ_takeT (i := 2) (t := 12) (v := .string b) (T := ?_) (by go_simp; try with_reducible rfl) rfl rfl (by kernel_rfl) (by kernel_rfl) (by kernel_rfl) (by kernel_rfl) (fun _ _ _ h => h) (by kernel_rfl) ?_ hS ?_
      · intro w hSw; go_simp; try with_reducible rfl
      refine anyZ_takeT (i := 3) (t := 13) (v := .string (b.extract 4 13)) (T := ?_) (by go_simp; try with_reducible rfl) rfl rfl (by kernel_rfl) (by kernel_rfl) (by kernel_rfl) (by kernel_rfl) (fun _ _ _ h => h) (by kernel_rfl) ?_ hS ?_
      · intro w hSw; go_simp; try with_reducible rfl
      refine anyZ_takeT (i := 5) (t := 15) (v := .string b) (T := ?_) (by go_simp; try with_reducible rfl) rfl rfl (by kernel_rfl) (by kernel_rfl) (by kernel_rfl) (by kernel_rfl) (fun _ _ _ h => h) (by kernel_rfl) ?_ hS ?_
      · intro w hSw; go_simp; try with_reducible rfl
      refine anyZ_takeT (i := 6) (t := 16) (v := .int .u8 (byteAt b 8)) (T := ?_) (by go_simp; try with_reducible rfl) rfl rfl (by kernel_rfl) (by kernel_rfl) (by kernel_rfl) (by kernel_rfl) (fun _ _ _ h => h) (by kernel_rfl) ?_ hS ?_
      · intro w hSw; go_simp; try with_reducible rfl
      refine anyZ_takeT (i := 7) (t := 17) (v := .int .i64 (byteAt b 8)) (T := ?_) (by go_simp; try with_reducible rfl) rfl rfl (by kernel_rfl) (by kernel_rfl) (by kernel_rfl) (by kernel_rfl) (fun _ _ _ h => h) (by kernel_rfl) ?_ hS ?_
      · intro w hSw; go_simp
      refine anyZ_takeT (i := 8) (t := 18) (v := .string b) (T := ?_) (by go_simp; try with_reducible rfl) rfl rfl (by kernel_rfl) (by kernel_rfl) (by kernel_rfl) (by kernel_rfl) (fun _ _ _ h => h) (by kernel_rfl) ?_ hS ?_
      · intro w hSw; go_simp; try with_reducible rfl
      refine anyZ_takeT (i := 9) (t := 19) (v := .int .u8 (byteAt b 9)) (T := ?_) (by go_simp; try with_reducible rfl) rfl rfl (by kernel_rfl) (by kernel_rfl) (by kernel_rfl) (by kernel_rfl) (fun _ _ _ h => h) (by kernel_rfl) ?_ hS ?_
      · intro w hSw; go_simp; try with_reducible rfl
      refine anyZ_takeT (i := 10) (t := 20) (v := .int .i64 (byteAt b 9)) (T := ?_) (by go_simp; try with_reducible rfl) rfl rfl (by kernel_rfl) (by kernel_rfl) (by kernel_rfl) (by kernel_rfl) (fun _ _ _ h => h) (by kernel_rfl) ?_ hS ?_
      · intro w hSw; go_simp
      refine anyZ_takeT (i := 11) (t := 21) (v := .string b) (T := ?_) (by go_simp; try with_reducible rfl) rfl rfl (by kernel_rfl) (by kernel_rfl) (by kernel_rfl) (by kernel_rfl) (fun _ _ _ h => h) (by kernel_rfl) ?_ hS ?_
      · intro w hSw; go_simp; try with_reducible rfl
      refine anyZ_takeT (i := 12) (t := 22) (v := .int .u8 (byteAt b 12)) (T := ?_) (by go_simp; try with_reducible rfl) rfl rfl (by kernel_rfl) (by kernel_rfl) (by kernel_rfl) (by kernel_rfl) (fun _ _ _ h => h) (by kernel_rfl) ?_ hS ?_
      · intro w hSw; go_simp; try with_reducible rfl
      refine anyZ_takeT (i := 13) (t := 23) (v := .bool (decide (byteAt b 12 = 1))) (T := ?_) (by go_simp; try with_reducible rfl) rfl rfl (by kernel_rfl) (by kernel_rfl) (by kernel_rfl) (by kernel_rfl) (fun _ _ _ h => h) (by kernel_rfl) ?_ hS ?_
      · intro w hSw; go_simp
      refine anyZ_two (i := 1) (j := 15) (by kernel_rfl) rfl rfl (fun K hK => ?_) (fun K hK => ?_)
      · go_simp
        refine (hf0 _).mono ?_
        rintro e v1 ⟨rfl, m1, rfl⟩
        refine hK _ _ (fun _ => trivial) ?_
        clear hK K
        have k1 := below_drewN k0 m1
        have Z1 : (v0.drewN m1).heap[w.heap.size]? = some (.cells hdZero 30 (0, 0)) := Z0
        have s1 : (v0.drewN m1).heap.size = w.heap.size + 1 := hsz
        generalize v0.drewN m1 = v1 at *
        refine anyZ_two (i := 4) (j := 15) (by kernel_rfl) rfl rfl (fun K hK => ?_) (fun K hK => ?_)
        · go_simp
          refine (hf4 _).mono ?_
          rintro e v' ⟨rfl, m', rfl⟩
          refine hK _ _ (fun _ => trivial) ?_
          clear hK K
          have k2 := below_drewN k1 m'
          have Z2 : (v1.drewN m').heap[w.heap.size]? = some (.cells hdZero 30 (0, 0)) := Z1
          have s2 : (v1.drewN m').heap.size = w.heap.size + 1 := s1
          generalize v1.drewN m' = v2 at *
          refine anyZ_takeT (i := 14) (t := 24) (v := .agg #[.int .i64 (fourAt b 0), .int .i64 (fourAt b 4), .int .i64 (byteAt b 9), .int .i64 (byteAt b 8), .bool (decide (byteAt b 12 = 1)), .slice none 0 0, .slice none 0 0]) (T := ?_) (by go_simp; try with_reducible rfl) rfl rfl (by kernel_rfl) (by kernel_rfl) (by kernel_rfl) (by kernel_rfl) (fun _ _ _ h => h) (by kernel_rfl) ?_ hS ?_
          · intro w hSw; go_simp; try rfl
          refine anyZ_one (i := 15) (by kernel_rfl) rfl (fun K hK => ?_)
          go_simp
          have ka := below_alloc v2 (.cells hdZero 30)
          have X3 := blk_new v2 (.cells hdZero 30)
          rw [s2] at X3
          have k3 := k2.trans (ka.mono (by omega))
          have Z3 := (ka.block _ (by omega)).trans Z2
          generalize v2.alloc (.cells hdZero 30) = v3 at *
          refine hK _ _ (fun _ => trivial) ?_
          clear hK K ka
          obtain ⟨y0, y1, y2, y3, y4, y5, y6, yf, yl⟩ := cells7H X3
          refine anyZ_one (i := 16) (by kernel_rfl) rfl (fun K hK => ?_)
          go_simp
          refine hK _ _ (fun h => absurd rfl h) ?_
          clear hK K
          refine anyZ_done (by kernel_rfl) ?_ _
          have hat : HdAt w (hdCells (hdOf b)) (set7 v3 (w.heap.size + 1) (.int .i64 (fourAt b 0)) (.int .i64 (fourAt b 4)) (.int .i64 (byteAt b 9)) (.int .i64 (byteAt b 8)) (.bool (decide (byteAt b 12 = 1))) (.slice none 0 0) (.slice none 0 0)) := ⟨set7_below k3 _ (by omega) .., (set7_far _ _ _ _ _ _ _ _ _ _ (by omega)).trans Z3, set7_row X3 ..⟩
          unfold set7 at hat
          revert hat
          generalize World.setCell _ _ _ = u
          intro hat
          have r := rest u hat
          clear hat
          exact r
        · go_simp
          have ka := below_alloc v1 (.cells hdZero 30)
          have X2 := blk_new v1 (.cells hdZero 30)
          rw [s1] at X2
          have k2 := k1.trans (ka.mono (by omega))
          have Z2 := (ka.block _ (by omega)).trans Z1
          generalize v1.alloc (.cells hdZero 30) = v2 at *
          refine hK _ _ (fun _ => trivial) ?_
          clear hK K ka
          refine anyZ_one (i := 4) (by kernel_rfl) rfl (fun K hK => ?_)
          go_simp
          refine (hf4 _).mono ?_
          rintro e v' ⟨rfl, m', rfl⟩
          refine hK _ _ (fun _ => trivial) ?_
          clear hK K
          have k3 := below_drewN k2 m'
          have Z3 : (v2.drewN m').heap[w.heap.size]? = some (.cells hdZero 30 (0, 0)) := Z2
          have X3 : (v2.drewN m').heap[w.heap.size + 1]? = some (.cells hdZero 30 (0, 0)) := X2
          generalize v2.drewN m' = v3 at *
          refine anyZ_takeT (i := 14) (t := 24) (v := .agg #[.int .i64 (fourAt b 0), .int .i64 (fourAt b 4), .int .i64 (byteAt b 9), .int .i64 (byteAt b 8), .bool (decide (byteAt b 12 = 1)), .slice none 0 0, .slice none 0 0]) (T := ?_) (by go_simp; try with_reducible rfl) rfl rfl (by kernel_rfl) (by kernel_rfl) (by kernel_rfl) (by kernel_rfl) (fun _ _ _ h => h) (by kernel_rfl) ?_ hS ?_
          · intro w hSw; go_simp; try rfl
          obtain ⟨y0, y1, y2, y3, y4, y5, y6, yf, yl⟩ := cells7H X3
          refine anyZ_one (i := 16) (by kernel_rfl) rfl (fun K hK => ?_)
          go_simp
          refine hK _ _ (fun h => absurd rfl h) ?_
          clear hK K
          refine anyZ_done (by kernel_rfl) ?_ _
          have hat : HdAt w (hdCells (hdOf b)) (set7 v3 (w.heap.size + 1) (.int .i64 (fourAt b 0)) (.int .i64 (fourAt b 4)) (.int .i64 (byteAt b 9)) (.int .i64 (byteAt b 8)) (.bool (decide (byteAt b 12 = 1))) (.slice none 0 0) (.slice none 0 0)) := ⟨set7_below k3 _ (by omega) .., (set7_far _ _ _ _ _ _ _ _ _ _ (by omega)).trans Z3, set7_row X3 ..⟩
          unfold set7 at hat
          revert hat
          generalize World.setCell _ _ _ = u
          intro hat
          have r := rest u hat
          clear hat
          exact r
      · go_simp
        have ka := below_alloc v0 (.cells hdZero 30)
        have X1 := blk_new v0 (.cells hdZero 30)
        rw [hsz] at X1
        have k1 := k0.trans (ka.mono (by omega))
        have Z1 := (ka.block _ (by omega)).trans Z0
        generalize v0.alloc (.cells hdZero 30) = v1 at *
        refine hK _ _ (fun _ => trivial) ?_
        clear hK K ka
        refine anyZ_one (i := 1) (by kernel_rfl) rfl (fun K hK => ?_)
        go_simp
        refine (hf0 _).mono ?_
        rintro e v' ⟨rfl, m', rfl⟩
        refine hK _ _ (fun _ => trivial) ?_
        clear hK K
        have k2 := below_drewN k1 m'
        have Z2 : (v1.drewN m').heap[w.heap.size]? = some (.cells hdZero 30 (0, 0)) := Z1
        have X2 : (v1.drewN m').heap[w.heap.size + 1]? = some (.cells hdZero 30 (0, 0)) := X1
        generalize v1.drewN m' = v2 at *
        refine anyZ_one (i := 4) (by kernel_rfl) rfl (fun K hK => ?_)
        go_simp
        refine (hf4 _).mono ?_
        rintro e v' ⟨rfl, m', rfl⟩
        refine hK _ _ (fun _ => trivial) ?_
        clear hK K
        have k3 := below_drewN k2 m'
        have Z3 : (v2.drewN m').heap[w.heap.size]? = some (.cells hdZero 30 (0, 0)) := Z2
        have X3 : (v2.drewN m').heap[w.heap.size + 1]? = some (.cells hdZero 30 (0, 0)) := X2
        generalize v2.drewN m' = v3 at *
        refine anyZ_takeT (i := 14) (t := 24) (v := .agg #[.int .i64 (fourAt b 0), .int .i64 (fourAt b 4), .int .i64 (byteAt b 9), .int .i64 (byteAt b 8), .bool (decide (byteAt b 12 = 1)), .slice none 0 0, .slice none 0 0]) (T := ?_) (by go_simp; try with_reducible rfl) rfl rfl (by kernel_rfl) (by kernel_rfl) (by kernel_rfl) (by kernel_rfl) (fun _ _ _ h => h) (by kernel_rfl) ?_ hS ?_
        · intro w hSw; go_simp; try rfl
        obtain ⟨y0, y1, y2, y3, y4, y5, y6, yf, yl⟩ := cells7H X3
        refine anyZ_one (i := 16) (by kernel_rfl) rfl (fun K hK => ?_)
        go_simp
        refine hK _ _ (fun h => absurd rfl h) ?_
        clear hK K
        refine anyZ_done (by kernel_rfl) ?_ _
        have hat : HdAt w (hdCells (hdOf b)) (set7 v3 (w.heap.size + 1) (.int .i64 (fourAt b 0)) (.int .i64 (fourAt b 4)) (.int .i64 (byteAt b 9)) (.int .i64 (byteAt b 8)) (.bool (decide (byteAt b 12 = 1))) (.slice none 0 0) (.slice none 0 0)) := ⟨set7_below k3 _ (by omega) .., (set7_far _ _ _ _ _ _ _ _ _ _ (by omega)).trans Z3, set7_row X3 ..⟩
        unfold set7 at hat
        revert hat
        generalize World.setCell _ _ _ = u
        intro hat
        have r := rest u hat
        clear hat
        exact r
    · intro u hu
      have hm : u.heap[w.heap.size + 1]? = some (.cells #[.int .i64 (fourAt b 0), .int .i64 (fourAt b 4), .int .i64 (byteAt b 9), .int .i64 (byteAt b 8), .bool (decide (byteAt b 12 = 1)), .slice none 0 0, .slice none 0 0] 30 (0, 0)) := hu.m
      have hz : u.heap[w.heap.size]? = some (.cells #[.int .i64 0, .int .i64 0, .int .i64 0, .int .i64 0, .bool false, .slice none 0 0, .slice none 0 0] 30 (0, 0)) := hu.z
      obtain ⟨y0, y1, y2, y3, y4, y5, y6, yf, yl⟩ := cells7H hm
      obtain ⟨z0, z1, z2, z3, z4, z5, z6, zf, zl⟩ := cells7H hz
      have h10 : (10 : Int) < (b.size : Int) := by omega
      have h11 : (11 : Int) < (b.size : Int) := by omega
      have g10 := byteAt_eq b 10 (by omega)
      have g11 := byteAt_eq b 11 (by omega)
      have hC := fun v => chan28 (byteAt b 9) (byteAt b 8) v
      have x10 : ((byteAt b 10 : Int) == 0) = decide (byteAt b 10 = 0) := by rw [Bool.eq_iff_iff, beq_iff_eq, decide_eq_true_eq]; omega
      have x11 : ((byteAt b 11 : Int) == 0) = decide (byteAt b 11 = 0) := by rw [Bool.eq_iff_iff, beq_iff_eq, decide_eq_true_eq]; omega
      have x13 : decide ((byteAt b 12 : Int) ≤ 1) = decide (byteAt b 12 ≤ 1) := by rw [Bool.eq_iff_iff, decide_eq_true_eq, decide_eq_true_eq]; omega
      have HOK : Hid (hdOk b = ((Pm.sideB (fourAt b 0) && Pm.sideB (fourAt b 4)) && ((decide (byteAt b 10 = 0) && (decide (byteAt b 11 = 0) && decide (byteAt b 12 ≤ 1))) && !(Pm.chan (byteAt b 9) (byteAt b 8) == 0)))) := by show _ = _; unfold hdOk; rw [decide_eq_true h13, Bool.true_and]
      have HM : Hid (_) := hm
      have HZ : Hid (_) := hz
      have HHD : Hid (hdOf b = ⟨fourAt b 0, fourAt b 4, byteAt b 9, byteAt b 8, decide (byteAt b 12 = 1)⟩) := rfl
      clear hf0 hf4 hm hz
      generalize hs1 : Pm.sideB (fourAt b 0) = s1 at *
      generalize hs2 : Pm.sideB (fourAt b 4) = s2 at *
      generalize decide (byteAt b 10 = 0) = c10 at *
      generalize decide (byteAt b 11 = 0) = c11 at *
      generalize decide (byteAt b 12 ≤ 1) = c12 at *
      generalize Pm.chan (byteAt b 9) (byteAt b 8) = CH at *
      generalize hch : (CH == 0) = ch at *
      generalize fourAt b 0 = A at *
      generalize fourAt b 4 = B at *
      rcases c10 with _ | _
      · rcases s1 with _ | _
        · go_wp2_with (go_at_call 55; refine (side29 _ _).mono ?_; rintro e w' ⟨rfl, rfl⟩)
          exact ⟨rfl, .no (by rw [HOK.out]; simp) hu.be⟩
        · rcases s2 with _ | _
          · go_wp2_with (go_at_call 55; refine (side29 _ _).mono ?_; rintro e w' ⟨rfl, rfl⟩)
            exact ⟨rfl, .no (by rw [HOK.out]; simp) hu.be⟩
          · go_wp2_with (go_at_call 55; refine (side29 _ _).mono ?_; rintro e w' ⟨rfl, rfl⟩)
            exact ⟨rfl, .no (by rw [HOK.out]; simp) hu.be⟩
      · rcases c11 with _ | _
        · rcases s1 with _ | _
          · go_wp2_with (go_at_call 55; refine (side29 _ _).mono ?_; rintro e w' ⟨rfl, rfl⟩)
            exact ⟨rfl, .no (by rw [HOK.out]; simp) hu.be⟩
          · rcases s2 with _ | _
            · go_wp2_with (go_at_call 55; refine (side29 _ _).mono ?_; rintro e w' ⟨rfl, rfl⟩)
              exact ⟨rfl, .no (by rw [HOK.out]; simp) hu.be⟩
            · go_wp2_with (go_at_call 55; refine (side29 _ _).mono ?_; rintro e w' ⟨rfl, rfl⟩)
              exact ⟨rfl, .no (by rw [HOK.out]; simp) hu.be⟩
        · rcases c12 with _ | _
          · rcases s1 with _ | _
            · go_wp2_with (go_at_call 55; refine (side29 _ _).mono ?_; rintro e w' ⟨rfl, rfl⟩)
              exact ⟨rfl, .no (by rw [HOK.out]; simp) hu.be⟩
            · rcases s2 with _ | _
              · go_wp2_with (go_at_call 55; refine (side29 _ _).mono ?_; rintro e w' ⟨rfl, rfl⟩)
                exact ⟨rfl, .no (by rw [HOK.out]; simp) hu.be⟩
              · go_wp2_with (go_at_call 55; refine (side29 _ _).mono ?_; rintro e w' ⟨rfl, rfl⟩)
                exact ⟨rfl, .no (by rw [HOK.out]; simp) hu.be⟩
          · rcases s1 with _ | _
            · go_wp2_with (go_at_call 55; refine (side29 _ _).mono ?_; rintro e w' ⟨rfl, rfl⟩)
              exact ⟨rfl, .no (by rw [HOK.out]; simp) hu.be⟩
            · rcases s2 with _ | _
              · go_wp2_with (go_at_call 55; refine (side29 _ _).mono ?_; rintro e w' ⟨rfl, rfl⟩)
                exact ⟨rfl, .no (by rw [HOK.out]; simp) hu.be⟩
              · rcases ch with _ | _
                · go_wp2_with (first | (go_at_call 55; refine (side29 _ _).mono ?_; rintro e w' ⟨rfl, rfl⟩) | (go_at_call 54; refine (hC _).mono ?_; rintro e w' ⟨rfl, rfl⟩))
                  have hend := set7_row HZ.out (.int .i64 A) (.int .i64 B) (.int .i64 (byteAt b 9)) (.int .i64 (byteAt b 8)) (.bool (decide (byteAt b 12 = 1))) (.slice none 0 0) (.slice none 0 0)
                  have hbe := set7_below hu.be w.heap.size (Nat.le_refl _) (.int .i64 A) (.int .i64 B) (.int .i64 (byteAt b 9)) (.int .i64 (byteAt b 8)) (.bool (decide (byteAt b 12 = 1))) (.slice none 0 0) (.slice none 0 0)
                  exact bodyPost_ret (v := .agg #[.int .i64 A, .int .i64 B, .int .i64 (byteAt b 9), .int .i64 (byteAt b 8), .bool (decide (byteAt b 12 = 1)), .slice none 0 0, .slice none 0 0]) (results_cell_row rfl _ _ w.heap.size 30 _ (0, 0) _ rfl hend Tryz.underlying30 rfl Tryz.infoImage) rfl (by
                    have := EndsH.ok (b := b) (w := w) (by rw [HOK.out]; rfl) hbe
                    rw [HHD.out] at this
                    exact this)
                · go_wp2_with (first | (go_at_call 55; refine (side29 _ _).mono ?_; rintro e w' ⟨rfl, rfl⟩) | (go_at_call 54; refine (hC _).mono ?_; rintro e w' ⟨rfl, rfl⟩))
                  exact ⟨rfl, .no (by rw [HOK.out]; simp) hu.be⟩
  · have HN : Hid (hdOk b = false) := by show _ = _; unfold hdOk; rw [decide_eq_false h13, Bool.false_and]
    have h13i : ((b.size : Int) == 13) = false := by rw [beq_eq_false_iff_ne]; omega
    go_enter Tryz.func89, Tryz.ntmps89
    go_wp2
    exact ⟨rfl, .no HN.out (below_alloc _ _)⟩
end Go.Proofs.YtmfijackgekioaaGreatDoor
