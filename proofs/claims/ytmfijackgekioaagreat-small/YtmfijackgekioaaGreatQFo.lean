import Derived.Test.YtmfijackgekioaaGreatQFbFl10
import Derived.Test.YtmfijackgekioaaGreatQUtFm2
import Derived.Test.YtmfijackgekioaaGreatQUpUs4

/-
  The tables for a tally: the program. For Deflates.
-/
namespace Go.Proofs.YtmfijackgekioaaGreat
open Go.RowKit

theorem share5 {P F : Nat → Nat → Nat → Nat → World → Prop} {G : Prop} (h1 : (∀ a b c d u, F a b c d u → P a b c d u) → G) (h2 : ∀ a b c d u, F a b c d u → P a b c d u) : G := h1 h2

/-- Before the lists are made. -/
structure TF (w : World) (Sy Di x : Nat) (w1 : World) : Prop where
  be : Below w.heap.size w w1
  t : w1.heap[w.heap.size]? = some (.cells #[.slice (some ⟨Sy, 0, none⟩) 286 286, .slice (some ⟨Di, 0, none⟩) 30 30, .int .i64 x] 105 (0, 0))
  r : w1.heap[w.heap.size + 1]? = some (.cells #[.slice none 0 0, .slice none 0 0, .slice none 0 0] 127 (0, 0))
theorem TF.next {w w1 w2 : World} {Sy Di x : Nat} (h : TF w Sy Di x w1) (k : Below w1.heap.size w1 w2) : TF w Sy Di x w2 :=
  ⟨h.be.trans (k.mono h.be.size), (k.block _ (lt_of_block h.t)).trans h.t, (k.block _ (lt_of_block h.r)).trans h.r⟩
theorem TF.lst {w w1 : World} {Sy Di x : Nat} (h : TF w Sy Di x w1) {g : Nat} {zs : List Int} (hz : Lst w g zs) : Lst w1 g zs := hz.keep h.be
theorem TF.cells {w w1 : World} {Sy Di x : Nat} (h : TF w Sy Di x w1) : w1.cell? ⟨w.heap.size, 0, none⟩ = some (.slice (some ⟨Sy, 0, none⟩) 286 286) ∧ w1.cell? ⟨w.heap.size, 1, none⟩ = some (.slice (some ⟨Di, 0, none⟩) 30 30) := ⟨(cells3 h.t).1, (cells3 h.t).2.1⟩

/-- Behind it: the box at A, the lists at G1 and G2. -/
structure TG (w : World) (Sy Di x : Nat) (sw dw : List Int) (A G1 G2 : Nat) (w1 : World) : Prop where
  f : TF w Sy Di x w1
  a : w1.heap[A]? = some (.cells #[.slice (some ⟨G1, 0, none⟩) 286 286, .slice (some ⟨G2, 0, none⟩) 30 30, .slice none 0 0] 127 (0, 0))
  ge : w.heap.size + 2 ≤ A
  l : ∃ ls ds, Lst w1 G1 ls ∧ Lst w1 G2 ds ∧ (∃ ws, TwoOk sw ws 286 ∧ 2 ≤ (heavy ws 286).length ∧ LensOk ws 286 15 ls) ∧ LensOk dw 30 15 ds

theorem three_set {w : World} {A : Nat} {a b c : Value} {t : TypeId} (h : w.heap[A]? = some (.cells #[a, b, c] t (0, 0))) (x y z : Value) : (((w.setCell ⟨A, 0, none⟩ x).setCell ⟨A, 1, none⟩ y).setCell ⟨A, 2, none⟩ z).heap[A]? = some (.cells #[x, y, z] t (0, 0)) :=
  (heap_setCell_same _ A 2 _ _ z ((heap_setCell_same _ A 1 _ _ y ((heap_setCell_same w A 0 _ _ x h).trans rfl)).trans rfl)).trans rfl

theorem tg_of {w v : World} {Sy Di x : Nat} {sw dw ls ds : List Int} {A G1 G2 : Nat} (t : TF w Sy Di x v) (a : v.heap[A]? = some (.cells #[.slice none 0 0, .slice none 0 0, .slice none 0 0] 127 (0, 0))) (ge : w.heap.size + 2 ≤ A) (h1 : Lst v G1 ls) (h2 : Lst v G2 ds)
    (hl : ∃ ws, TwoOk sw ws 286 ∧ 2 ≤ (heavy ws 286).length ∧ LensOk ws 286 15 ls) (hd : LensOk dw 30 15 ds) :
    TG w Sy Di x sw dw A G1 G2 (((v.setCell ⟨A, 0, none⟩ (.slice (some ⟨G1, 0, none⟩) 286 286)).setCell ⟨A, 1, none⟩ (.slice (some ⟨G2, 0, none⟩) 30 30)).setCell ⟨A, 2, none⟩ (.slice none 0 0)) := by
  have ne : ∀ k, k ≠ A → ∀ y1 y2 y3, (((v.setCell ⟨A, 0, none⟩ y1).setCell ⟨A, 1, none⟩ y2).setCell ⟨A, 2, none⟩ y3).heap[k]? = v.heap[k]? := fun k hk y1 y2 y3 =>
    (Below.heap_setCell _ ⟨A, 2, none⟩ _ _ hk).trans ((Below.heap_setCell _ ⟨A, 1, none⟩ _ _ hk).trans (Below.heap_setCell _ ⟨A, 0, none⟩ _ _ hk))
  have nl : ∀ g zs, Lst v g zs → g ≠ A := fun g zs hz e => by
    subst e
    rw [show v.heap[g]? = _ from hz] at a
    simp at a
  refine ⟨⟨((t.be.setCell (p := ⟨A, 0, none⟩) (by dsimp only; omega) _).setCell (p := ⟨A, 1, none⟩) (by dsimp only; omega) _).setCell (p := ⟨A, 2, none⟩) (by dsimp only; omega) _, (ne _ (by omega) _ _ _).trans t.t, (ne _ (by omega) _ _ _).trans t.r⟩, three_set a _ _ _, ge, ls, ds, (ne _ (nl _ _ h1) _ _ _).trans h1, (ne _ (nl _ _ h2) _ _ _).trans h2, hl, hd⟩

theorem tf_fin {w u7 : World} {Sy Di x A G1 G2 G3 : Nat} {sw dw ls ds nl ws wn : List Int} (hge : w.heap.size + 2 ≤ A) (hm : TwoOk sw ws 286 ∧ 2 ≤ (heavy ws 286).length ∧ LensOk ws 286 15 ls ∧ LensOk dw 30 15 ds)
    (hf : TF w Sy Di x u7 ∧ Lst u7 G1 ls ∧ Lst u7 G2 ds ∧ Lst u7 G3 nl ∧ TwoOk (ntal (E (toldL ls ds 286 30))) wn 19 ∧ 2 ≤ (heavy wn 19).length ∧ LensOk wn 19 7 nl ∧ u7.heap[A]? = some (.cells #[.slice (some ⟨G1, 0, none⟩) 286 286, .slice (some ⟨G2, 0, none⟩) 30 30, .slice none 0 0] 127 (0, 0))) (v0 v1 v2 v3 : Value) :
    Tabs ((((u7.setCell ⟨A, 2, none⟩ v0).setCell ⟨w.heap.size + 1, 0, none⟩ v1).setCell ⟨w.heap.size + 1, 1, none⟩ v2).setCell ⟨w.heap.size + 1, 2, none⟩ v3) G1 G2 G3 286 30 ls ds nl ∧ Made sw dw ls ds nl ∧ Below w.heap.size w ((((u7.setCell ⟨A, 2, none⟩ v0).setCell ⟨w.heap.size + 1, 0, none⟩ v1).setCell ⟨w.heap.size + 1, 1, none⟩ v2).setCell ⟨w.heap.size + 1, 2, none⟩ v3) := by
  obtain ⟨tf, h1, h2, h3, q1, q2, q3, ha⟩ := hf
  obtain ⟨m1, m2, m3, m4⟩ := hm
  have key : ∀ g zs, Lst u7 g zs → Lst ((((u7.setCell ⟨A, 2, none⟩ v0).setCell ⟨w.heap.size + 1, 0, none⟩ v1).setCell ⟨w.heap.size + 1, 1, none⟩ v2).setCell ⟨w.heap.size + 1, 2, none⟩ v3) g zs := fun g zs hz => by
    have n1 : g ≠ A := fun e => by
      subst e
      rw [show u7.heap[g]? = _ from hz] at ha
      simp at ha
    have n2 : g ≠ w.heap.size + 1 := fun e => by
      subst e
      have := tf.r
      rw [show u7.heap[w.heap.size + 1]? = _ from hz] at this
      simp at this
    exact (Below.heap_setCell _ ⟨w.heap.size + 1, 2, none⟩ _ _ n2).trans ((Below.heap_setCell _ ⟨w.heap.size + 1, 1, none⟩ _ _ n2).trans ((Below.heap_setCell _ ⟨w.heap.size + 1, 0, none⟩ _ _ n2).trans ((Below.heap_setCell _ ⟨A, 2, none⟩ _ _ n1).trans hz)))
  refine ⟨⟨key _ _ h1, key _ _ h2, key _ _ h3, m3.len, m4.len, q3.len, by omega, by omega, m3.rng, m4.rng, q3.rng, ?_⟩, ⟨⟨ws, m1, m2, m3⟩, m4, ⟨wn, q1, q2, q3⟩⟩, ?_⟩
  · rw [q3.len, q3.full q2]
    exact Nat.le_refl _
  · exact (((tf.be.setCell (p := ⟨A, 2, none⟩) (by dsimp only; omega) _).setCell (p := ⟨w.heap.size + 1, 0, none⟩) (by dsimp only; omega) _).setCell (p := ⟨w.heap.size + 1, 1, none⟩) (by dsimp only; omega) _).setCell (p := ⟨w.heap.size + 1, 2, none⟩) (by dsimp only; omega) _

set_option maxRecDepth 100000 in
set_option maxHeartbeats 4000000 in
theorem tablesFor100 (Sy Di : Nat) (x : Nat) (sw dw : List Int) (w : World) (hs : sw.length = 286) (hd : dw.length = 30) (hS : Lst w Sy sw) (hD : Lst w Di dw) (rs : ∀ j, 0 ≤ sw.getD j 0 ∧ sw.getD j 0 ≤ 1000000) (rd : ∀ j, 0 ≤ dw.getD j 0 ∧ dw.getD j 0 ≤ 1000000) :
    Calls Tryz.prog 101 #[tallyV Sy Di x] w fun e w' => ∃ G1 G2 G3 ls ds nl, e = .returned (tabsV (.slice (some ⟨G1, 0, none⟩) 286 286) (.slice (some ⟨G2, 0, none⟩) 30 30) (.slice (some ⟨G3, 0, none⟩) 19 19)) ∧ Tabs w' G1 G2 G3 286 30 ls ds nl ∧ Made sw dw ls ds nl ∧ Below w.heap.size w w' := by
  go_enter Tryz.func101, Tryz.ntmps101
  go_wp2_with fail
  apply share5 (F := fun A G1 G2 _ u => TG w Sy Di x sw dw A G1 G2 u)
  · intro rest
    have tv0 : TF w Sy Di x ((w.alloc (.cells #[.slice (some ⟨Sy, 0, none⟩) 286 286, .slice (some ⟨Di, 0, none⟩) 30 30, .int .i64 x] 105)).alloc (.cells #[.slice none 0 0, .slice none 0 0, .slice none 0 0] 127)).drew := by
      have q := blk_new (w.alloc (.cells #[.slice (some ⟨Sy, 0, none⟩) 286 286, .slice (some ⟨Di, 0, none⟩) 30 30, .int .i64 x] 105)) (.cells #[.slice none 0 0, .slice none 0 0, .slice none 0 0] 127)
      rw [World.size_alloc] at q
      exact ⟨(((Below.refl _ _).alloc (Nat.le_refl _) _).alloc (by simp) _).drew, blk_old (blk_new w _) _, q⟩
    have hS0 := tv0.cells
    refine regionZ (by kernel_rfl) (fun w' => w'.cell? ⟨w.heap.size, 0, none⟩ = some (.slice (some ⟨Sy, 0, none⟩) 286 286) ∧ w'.cell? ⟨w.heap.size, 1, none⟩ = some (.slice (some ⟨Di, 0, none⟩) 30 30)) 9 ?_
    generalize World.drew _ = v0 at tv0 hS0 ⊢
    refine anyZ_take (i := 0) (v := ?_) rfl (by kernel_rfl) (by kernel_rfl) (by kernel_rfl) (by kernel_rfl) (fun _ _ _ h => h) (by kernel_rfl) ?_ hS0 ?_
    rotate_left
    · intro w hSw; (try dsimp only at hSw); go_simp; try with_reducible rfl
    try simp only [Act.put]
    refine anyZ_take (i := 1) (v := ?_) rfl (by kernel_rfl) (by kernel_rfl) (by kernel_rfl) (by kernel_rfl) (fun _ _ _ h => h) (by kernel_rfl) ?_ hS0 ?_
    rotate_left
    · intro w hSw; (try dsimp only at hSw); go_simp; try with_reducible rfl
    try simp only [Act.put]
    refine anyZ_take (i := 4) (v := ?_) rfl (by kernel_rfl) (by kernel_rfl) (by kernel_rfl) (by kernel_rfl) (fun _ _ _ h => h) (by kernel_rfl) ?_ hS0 ?_
    rotate_left
    · intro w hSw; (try dsimp only at hSw); go_simp; try with_reducible rfl
    try simp only [Act.put]
    refine anyZ_take (i := 5) (v := ?_) rfl (by kernel_rfl) (by kernel_rfl) (by kernel_rfl) (by kernel_rfl) (fun _ _ _ h => h) (by kernel_rfl) ?_ hS0 ?_
    rotate_left
    · intro w hSw; (try dsimp only at hSw); go_simp; try with_reducible rfl
    try simp only [Act.put]
    refine anyZ_two (i := 2) (j := 8) (by kernel_rfl) rfl rfl (fun K hK => ?_) (fun K hK => ?_)
    · go_simp
      refine (atLeast113 sw 286 286 Sy v0 hs (by omega) (by omega) (tv0.lst hS) rs).mono ?_
      rintro e v1 ⟨ws, rfl, gv1, hw2, hw3, kv1⟩
      generalize hGa : v0.heap.size = Ga at gv1 ⊢
      have tv1 := tv0.next kv1
      refine hK _ _ (fun _ => tv1.cells) ?_
      clear hK K
      refine anyZ_two (i := 3) (j := 8) (by kernel_rfl) rfl rfl (fun K hK => ?_) (fun K hK => ?_)
      · go_simp
        refine (lengthsFor112 ws 286 15 286 (some ⟨Ga, 0, none⟩) v1 hw2.len (by omega) (by omega) (by omega) (by omega) gv1.ints (fun a e _ => by cases e; exact lt_of_block gv1) hw2.rng).mono ?_
        rintro e v2 ⟨ls, rfl, lv2, hl2, kv2⟩
        generalize hG1 : v1.heap.size = G1 at lv2 ⊢
        have tv2 := tv1.next kv2
        have gv2 := gv1.keep kv2
        refine hK _ _ (fun _ => tv2.cells) ?_
        clear hK K
        refine anyZ_two (i := 6) (j := 8) (by kernel_rfl) rfl rfl (fun K hK => ?_) (fun K hK => ?_)
        · go_simp
          refine (lengthsFor112 dw 30 15 30 (some ⟨Di, 0, none⟩) v2 hd (by omega) (by omega) (by omega) (by omega) (tv2.lst hD).ints (fun a e _ => by cases e; exact lt_of_block (tv2.lst hD)) rd).mono ?_
          rintro e v3 ⟨ds, rfl, dv3, hd2, kv3⟩
          generalize hG2 : v2.heap.size = G2 at dv3 ⊢
          have tv3 := tv2.next kv3
          have gv3 := gv2.keep kv3
          have lv3 := lv2.keep kv3
          refine hK _ _ (fun _ => tv3.cells) ?_
          clear hK K
          have hS3 := tv3.cells
          refine anyZ_take (i := 7) (v := ?_) rfl (by kernel_rfl) (by kernel_rfl) (by kernel_rfl) (by kernel_rfl) (fun _ _ _ h => h) (by kernel_rfl) ?_ hS3 ?_
          rotate_left
          · intro w hSw; (try dsimp only at hSw); go_simp; try with_reducible rfl
          try simp only [Act.put]
          refine anyZ_one (i := 8) (by kernel_rfl) rfl (fun K hK => ?_)
          go_simp
          have kv4 := below_alloc v3 (.cells #[.slice none 0 0, .slice none 0 0, .slice none 0 0] 127)
          have xv4 := blk_new v3 (.cells #[.slice none 0 0, .slice none 0 0, .slice none 0 0] 127)
          have hge : w.heap.size + 2 ≤ v3.heap.size := by have := lt_of_block tv3.r; omega
          generalize v3.alloc (.cells #[.slice none 0 0, .slice none 0 0, .slice none 0 0] 127) = v4 at *
          generalize hA : v3.heap.size = A at xv4 hge ⊢
          have tv4 := tv3.next kv4
          have gv4 := gv3.keep kv4
          have lv4 := lv3.keep kv4
          have dv4 := dv3.keep kv4
          refine hK _ _ (fun _ => tv4.cells) ?_
          clear hK K
          obtain ⟨x0, x1, x2, fzA, hlA⟩ := cells3 xv4
          refine anyZ_one (i := 9) (by kernel_rfl) rfl (fun K hK => ?_)
          go_simp
          refine hK _ _ (fun h => absurd rfl h) ?_
          clear hK K
          refine anyZ_done (by kernel_rfl) ?_ _
          have hg := tg_of (sw := sw) tv4 xv4 hge lv4 dv4 ⟨ws, hw2, hw3, hl2⟩ hd2
          generalize World.setCell _ _ _ = vz at hg ⊢
          exact rest A G1 G2 Ga vz hg
        · go_simp
          have kv3 := below_alloc v2 (.cells #[.slice none 0 0, .slice none 0 0, .slice none 0 0] 127)
          have xv3 := blk_new v2 (.cells #[.slice none 0 0, .slice none 0 0, .slice none 0 0] 127)
          have hge : w.heap.size + 2 ≤ v2.heap.size := by have := lt_of_block tv2.r; omega
          generalize v2.alloc (.cells #[.slice none 0 0, .slice none 0 0, .slice none 0 0] 127) = v3 at *
          generalize hA : v2.heap.size = A at xv3 hge ⊢
          have tv3 := tv2.next kv3
          have gv3 := gv2.keep kv3
          have lv3 := lv2.keep kv3
          refine hK _ _ (fun _ => tv3.cells) ?_
          clear hK K
          refine anyZ_one (i := 6) (by kernel_rfl) rfl (fun K hK => ?_)
          go_simp
          refine (lengthsFor112 dw 30 15 30 (some ⟨Di, 0, none⟩) v3 hd (by omega) (by omega) (by omega) (by omega) (tv3.lst hD).ints (fun a e _ => by cases e; exact lt_of_block (tv3.lst hD)) rd).mono ?_
          rintro e v4 ⟨ds, rfl, dv4, hd2, kv4⟩
          generalize hG2 : v3.heap.size = G2 at dv4 ⊢
          have tv4 := tv3.next kv4
          have xv4 := (kv4.block _ (lt_of_block xv3)).trans xv3
          have gv4 := gv3.keep kv4
          have lv4 := lv3.keep kv4
          refine hK _ _ (fun _ => tv4.cells) ?_
          clear hK K
          have hSv4 := tv4.cells
          refine anyZ_take (i := 7) (v := ?_) rfl (by kernel_rfl) (by kernel_rfl) (by kernel_rfl) (by kernel_rfl) (fun _ _ _ h => h) (by kernel_rfl) ?_ hSv4 ?_
          rotate_left
          · intro w hSw; (try dsimp only at hSw); go_simp; try with_reducible rfl
          try simp only [Act.put]
          obtain ⟨x0, x1, x2, fzA, hlA⟩ := cells3 xv4
          refine anyZ_one (i := 9) (by kernel_rfl) rfl (fun K hK => ?_)
          go_simp
          refine hK _ _ (fun h => absurd rfl h) ?_
          clear hK K
          refine anyZ_done (by kernel_rfl) ?_ _
          have hg := tg_of (sw := sw) tv4 xv4 hge lv4 dv4 ⟨ws, hw2, hw3, hl2⟩ hd2
          generalize World.setCell _ _ _ = vz at hg ⊢
          exact rest A G1 G2 Ga vz hg
      · go_simp
        have kv2 := below_alloc v1 (.cells #[.slice none 0 0, .slice none 0 0, .slice none 0 0] 127)
        have xv2 := blk_new v1 (.cells #[.slice none 0 0, .slice none 0 0, .slice none 0 0] 127)
        have hge : w.heap.size + 2 ≤ v1.heap.size := by have := lt_of_block tv1.r; omega
        generalize v1.alloc (.cells #[.slice none 0 0, .slice none 0 0, .slice none 0 0] 127) = v2 at *
        generalize hA : v1.heap.size = A at xv2 hge ⊢
        have tv2 := tv1.next kv2
        have gv2 := gv1.keep kv2
        refine hK _ _ (fun _ => tv2.cells) ?_
        clear hK K
        refine anyZ_one (i := 3) (by kernel_rfl) rfl (fun K hK => ?_)
        go_simp
        refine (lengthsFor112 ws 286 15 286 (some ⟨Ga, 0, none⟩) v2 hw2.len (by omega) (by omega) (by omega) (by omega) gv2.ints (fun a e _ => by cases e; exact lt_of_block gv2) hw2.rng).mono ?_
        rintro e v3 ⟨ls, rfl, lv3, hl2, kv3⟩
        generalize hG1 : v2.heap.size = G1 at lv3 ⊢
        have tv3 := tv2.next kv3
        have xv3 := (kv3.block _ (lt_of_block xv2)).trans xv2
        have gv3 := gv2.keep kv3
        refine hK _ _ (fun _ => tv3.cells) ?_
        clear hK K
        refine anyZ_one (i := 6) (by kernel_rfl) rfl (fun K hK => ?_)
        go_simp
        refine (lengthsFor112 dw 30 15 30 (some ⟨Di, 0, none⟩) v3 hd (by omega) (by omega) (by omega) (by omega) (tv3.lst hD).ints (fun a e _ => by cases e; exact lt_of_block (tv3.lst hD)) rd).mono ?_
        rintro e v4 ⟨ds, rfl, dv4, hd2, kv4⟩
        generalize hG2 : v3.heap.size = G2 at dv4 ⊢
        have tv4 := tv3.next kv4
        have xv4 := (kv4.block _ (lt_of_block xv3)).trans xv3
        have gv4 := gv3.keep kv4
        have lv4 := lv3.keep kv4
        refine hK _ _ (fun _ => tv4.cells) ?_
        clear hK K
        have hSv4 := tv4.cells
        refine anyZ_take (i := 7) (v := ?_) rfl (by kernel_rfl) (by kernel_rfl) (by kernel_rfl) (by kernel_rfl) (fun _ _ _ h => h) (by kernel_rfl) ?_ hSv4 ?_
        rotate_left
        · intro w hSw; (try dsimp only at hSw); go_simp; try with_reducible rfl
        try simp only [Act.put]
        obtain ⟨x0, x1, x2, fzA, hlA⟩ := cells3 xv4
        refine anyZ_one (i := 9) (by kernel_rfl) rfl (fun K hK => ?_)
        go_simp
        refine hK _ _ (fun h => absurd rfl h) ?_
        clear hK K
        refine anyZ_done (by kernel_rfl) ?_ _
        have hg := tg_of (sw := sw) tv4 xv4 hge lv4 dv4 ⟨ws, hw2, hw3, hl2⟩ hd2
        generalize World.setCell _ _ _ = vz at hg ⊢
        exact rest A G1 G2 Ga vz hg
    · go_simp
      have kv1 := below_alloc v0 (.cells #[.slice none 0 0, .slice none 0 0, .slice none 0 0] 127)
      have xv1 := blk_new v0 (.cells #[.slice none 0 0, .slice none 0 0, .slice none 0 0] 127)
      have hge : w.heap.size + 2 ≤ v0.heap.size := by have := lt_of_block tv0.r; omega
      generalize v0.alloc (.cells #[.slice none 0 0, .slice none 0 0, .slice none 0 0] 127) = v1 at *
      generalize hA : v0.heap.size = A at xv1 hge ⊢
      have tv1 := tv0.next kv1
      refine hK _ _ (fun _ => tv1.cells) ?_
      clear hK K
      refine anyZ_one (i := 2) (by kernel_rfl) rfl (fun K hK => ?_)
      go_simp
      refine (atLeast113 sw 286 286 Sy v1 hs (by omega) (by omega) (tv1.lst hS) rs).mono ?_
      rintro e v2 ⟨ws, rfl, gv2, hw2, hw3, kv2⟩
      generalize hGa : v1.heap.size = Ga at gv2 ⊢
      have tv2 := tv1.next kv2
      have xv2 := (kv2.block _ (lt_of_block xv1)).trans xv1
      refine hK _ _ (fun _ => tv2.cells) ?_
      clear hK K
      refine anyZ_one (i := 3) (by kernel_rfl) rfl (fun K hK => ?_)
      go_simp
      refine (lengthsFor112 ws 286 15 286 (some ⟨Ga, 0, none⟩) v2 hw2.len (by omega) (by omega) (by omega) (by omega) gv2.ints (fun a e _ => by cases e; exact lt_of_block gv2) hw2.rng).mono ?_
      rintro e v3 ⟨ls, rfl, lv3, hl2, kv3⟩
      generalize hG1 : v2.heap.size = G1 at lv3 ⊢
      have tv3 := tv2.next kv3
      have xv3 := (kv3.block _ (lt_of_block xv2)).trans xv2
      have gv3 := gv2.keep kv3
      refine hK _ _ (fun _ => tv3.cells) ?_
      clear hK K
      refine anyZ_one (i := 6) (by kernel_rfl) rfl (fun K hK => ?_)
      go_simp
      refine (lengthsFor112 dw 30 15 30 (some ⟨Di, 0, none⟩) v3 hd (by omega) (by omega) (by omega) (by omega) (tv3.lst hD).ints (fun a e _ => by cases e; exact lt_of_block (tv3.lst hD)) rd).mono ?_
      rintro e v4 ⟨ds, rfl, dv4, hd2, kv4⟩
      generalize hG2 : v3.heap.size = G2 at dv4 ⊢
      have tv4 := tv3.next kv4
      have xv4 := (kv4.block _ (lt_of_block xv3)).trans xv3
      have gv4 := gv3.keep kv4
      have lv4 := lv3.keep kv4
      refine hK _ _ (fun _ => tv4.cells) ?_
      clear hK K
      have hSv4 := tv4.cells
      refine anyZ_take (i := 7) (v := ?_) rfl (by kernel_rfl) (by kernel_rfl) (by kernel_rfl) (by kernel_rfl) (fun _ _ _ h => h) (by kernel_rfl) ?_ hSv4 ?_
      rotate_left
      · intro w hSw; (try dsimp only at hSw); go_simp; try with_reducible rfl
      try simp only [Act.put]
      obtain ⟨x0, x1, x2, fzA, hlA⟩ := cells3 xv4
      refine anyZ_one (i := 9) (by kernel_rfl) rfl (fun K hK => ?_)
      go_simp
      refine hK _ _ (fun h => absurd rfl h) ?_
      clear hK K
      refine anyZ_done (by kernel_rfl) ?_ _
      have hg := tg_of (sw := sw) tv4 xv4 hge lv4 dv4 ⟨ws, hw2, hw3, hl2⟩ hd2
      generalize World.setCell _ _ _ = vz at hg ⊢
      exact rest A G1 G2 Ga vz hg
  · intro A G1 G2 Ga u hg
    obtain ⟨tf, ha, hge, ls, ds, hL1, hL2, ⟨ws, hw2, hw3, hl2⟩, hd2⟩ := hg
    obtain ⟨Z, hZ⟩ : ∃ Z : List Value, Z = List.replicate 19 (.int .i64 0) := ⟨_, rfl⟩
    have hmk : ∀ u : World, (Instr.makeSlice 39 (.int .i64 19) (.int .i64 19)).run Tryz.prog u = .ok (.slice (some ⟨u.heap.size, 0, none⟩) 19 19) (u.alloc (.cells Z.toArray 3)) := fun u => make_n 19 (by omega) Z hZ u
    have HZ : Hid (Z = vals (ntal [])) := by show _ = _; rw [hZ]; rfl
    clear hZ
    have HM : Hid (TwoOk sw ws 286 ∧ 2 ≤ (heavy ws 286).length ∧ LensOk ws 286 15 ls ∧ LensOk dw 30 15 ds) := ⟨hw2, hw3, hl2, hd2⟩
    have l1 := hl2.len
    have l2 := hd2.len
    have hti := toldL_ints ls ds 286 30 (fun j => (hl2.rng j).1) (fun j => (hd2.rng j).1)
    have htl := toldL_length ls ds 286 30 l1 l2
    have hte := toldL_le ls ds 286 30 (fun j => (hl2.rng j).2) (fun j => (hd2.rng j).2)
    have a1 := trimF_le ls 257 286
    have b1 := trimF_le ds 1 30
    have htn : Hid ((toldL ls ds 286 30).length ≤ 600) := by show _ ≤ _; omega
    have hft := fun (v : World) (i1 : Lst v G1 ls) (i2 : Lst v G2 ds) => told115 ls ds G1 G2 286 30 none 0 0 v l1 l2 (by omega) (by omega) (by omega) (by omega) i1 i2
    rw [← hti, ← htl] at hft
    clear hti htl a1 b1 hw2 hw3 hl2 hd2
    go_wp2_with fail
    refine (order85 _).mono ?_
    rintro e u1 ⟨O, rfl, _, _, _, hb1⟩
    have tf1 := tf.next hb1
    have ha1 := (hb1.block _ (lt_of_block ha)).trans ha
    have hL11 := hL1.keep hb1
    have hL21 := hL2.keep hb1
    clear tf ha hL1 hL2 hb1
    obtain ⟨x0, x1, x2, fzA, hlA⟩ := cells3 ha1
    go_wp2_with fail
    have k3 : Below u1.heap.size u1 ((u1.alloc (.cells Z.toArray 3)).alloc (.cells #[.slice (some ⟨u1.heap.size, 0, none⟩) 19 19] 39)) := (below_alloc u1 _).alloc (by simp) _
    have zb : ((u1.alloc (.cells Z.toArray 3)).alloc (.cells #[.slice (some ⟨u1.heap.size, 0, none⟩) 19 19] 39)).heap[u1.heap.size]? = some (.cells Z.toArray 3 (0, 0)) := blk_old (blk_new u1 _) _
    have wb := blk_new (u1.alloc (.cells Z.toArray 3)) (.cells #[.slice (some ⟨u1.heap.size, 0, none⟩) 19 19] 39)
    rw [World.size_alloc] at wb
    generalize hu3 : (u1.alloc (.cells Z.toArray 3)).alloc (.cells #[.slice (some ⟨u1.heap.size, 0, none⟩) 19 19] 39) = u3 at *
    have hl3 := lt_of_block wb
    refine (hft u3 (hL11.keep k3) (hL21.keep k3)).mono ?_
    rintro e u4 ⟨v4, rfl, ho4, hb4⟩
    obtain ⟨ta, tc, rfl, ht4⟩ := own_told (B := u1.heap.size) ho4 rfl (by omega)
    have ni : NInv (u1.heap.size + 1) u1.heap.size ta (toldL ls ds 286 30) u1.heap.size u4 u4 [] := by
      refine ⟨(hb4.block _ hl3).trans wb, ?_, Below.refl _ _, ht4, by omega, Nat.le_refl _⟩
      rw [HZ.out] at zb
      exact (hb4.block _ (by omega)).trans zb
    have hls := lens_counted (u1.heap.size + 1) u1.heap.size ta tc (toldL ls ds 286 30) u1.heap.size u4 u4 ni hte htn.out
    have hb14 : Below u1.heap.size u1 u4 := k3.trans (hb4.mono (by omega))
    have hEl : Hid ((E (toldL ls ds 286 30)).length ≤ 600) := Nat.le_trans (E_length _ hte) htn.out
    clear x0 x1 x2 fzA ni ht4 ho4 hb4 zb wb k3 hft hmk HZ hu3 hl3
    go_wp2_with fail
    refine hls.mono ?_
    rintro e u5 ⟨rfl, h5⟩
    have hb15 : Below u1.heap.size u1 u5 := hb14.trans h5.be
    have hrg : ∀ j, 0 ≤ (ntal (E (toldL ls ds 286 30))).getD j 0 ∧ (ntal (E (toldL ls ds 286 30))).getD j 0 ≤ 1000000 := fun j => by
      have := ntal_range (E (toldL ls ds 286 30)) j
      have := hEl.out
      omega
    have hat := atLeast113 (ntal (E (toldL ls ds 286 30))) 19 19 u1.heap.size u5 (ntal_length _) (by omega) (by omega) h5.n hrg
    have c5 := (one_cell h5.box).1
    have tf5 := tf1.next hb15
    have ha5 := (hb15.block _ hlA).trans ha1
    have hL15 := hL11.keep hb15
    have hL25 := hL21.keep hb15
    clear h5 hrg hls hb14 hb15 tf1 ha1 hL11 hL21 hlA
    go_wp2_with fail
    refine hat.mono ?_
    rintro e u6 ⟨wn, rfl, g6, hq2, hq3, hb6⟩
    clear hat c5
    go_wp2_with fail
    refine (lengthsFor112 wn 19 7 19 (some ⟨u5.heap.size, 0, none⟩) u6 hq2.len (by omega) (by omega) (by omega) (by omega) g6.ints (fun a e _ => by cases e; exact lt_of_block g6) hq2.rng).mono ?_
    rintro e u7 ⟨nl, rfl, n7, hn2, hb7⟩
    have hb57 : Below u5.heap.size u5 u7 := hb6.trans (hb7.mono hb6.size)
    have tf7 := tf5.next hb57
    have ha7 := (hb57.block _ (lt_of_block ha5)).trans ha5
    have hL17 := hL15.keep hb57
    have hL27 := hL25.keep hb57
    obtain ⟨x0, x1, x2, fzA, hlA⟩ := cells3 ha7
    obtain ⟨y0, y1, y2, fzR, hlR⟩ := cells3 tf7.r
    generalize u6.heap.size = G3 at *
    have HF : Hid (TF w Sy Di x u7 ∧ Lst u7 G1 ls ∧ Lst u7 G2 ds ∧ Lst u7 G3 nl ∧ TwoOk (ntal (E (toldL ls ds 286 30))) wn 19 ∧ 2 ≤ (heavy wn 19).length ∧ LensOk wn 19 7 nl ∧ u7.heap[A]? = some (.cells #[.slice (some ⟨G1, 0, none⟩) 286 286, .slice (some ⟨G2, 0, none⟩) 30 30, .slice none 0 0] 127 (0, 0))) := ⟨tf7, hL17, hL27, n7, hq2, hq3, hn2, ha7⟩
    clear tf7 hL17 hL27 n7 hq2 hq3 hn2 ha7 tf5 ha5 hL15 hL25 g6 hb6 hb7 hb57 l1 l2 hte
    go_wp2
    refine bodyPost_ret (v := tabsV (.slice (some ⟨G1, 0, none⟩) 286 286) (.slice (some ⟨G2, 0, none⟩) 30 30) (.slice (some ⟨G3, 0, none⟩) 19 19)) ?_ rfl ⟨G1, G2, G3, ls, ds, nl, rfl, ?_⟩
    · simp [results, Tryz.results101, go_sem, y0, y1, y2]
    · exact tf_fin (by omega) HM.out HF.out _ _ _ _
end Go.Proofs.YtmfijackgekioaaGreat
