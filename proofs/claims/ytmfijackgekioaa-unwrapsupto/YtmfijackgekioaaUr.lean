/-
  The table of the codes of lengths, by the program.
-/
import Derived.Test.YtmfijackgekioaaUp
import Derived.Laws.Tables
import Derived.Laws.Rows
namespace Go.Proofs.Ytmfijackgekioaa
open Go.RowKit Go.Maps

abbrev ordA : Array Value := #[.int .i64 16, .int .i64 17, .int .i64 18, .int .i64 0, .int .i64 8, .int .i64 7, .int .i64 9, .int .i64 6, .int .i64 10, .int .i64 5, .int .i64 11, .int .i64 4, .int .i64 12, .int .i64 3, .int .i64 13, .int .i64 2, .int .i64 14, .int .i64 1, .int .i64 15]
theorem ordA_at (i : Nat) (h : i < 19) : ordA[i]? = some (.int .i64 ((Rf.order.getD i 0 : Nat) : Int)) := by
  match i, h with
  | 0, _ => rfl | 1, _ => rfl | 2, _ => rfl | 3, _ => rfl | 4, _ => rfl | 5, _ => rfl | 6, _ => rfl | 7, _ => rfl | 8, _ => rfl | 9, _ => rfl | 10, _ => rfl | 11, _ => rfl | 12, _ => rfl | 13, _ => rfl | 14, _ => rfl | 15, _ => rfl | 16, _ => rfl | 17, _ => rfl | 18, _ => rfl
  | n + 19, h => omega

abbrev zero19 : Array Value := #[.int .i64 0, .int .i64 0, .int .i64 0, .int .i64 0, .int .i64 0, .int .i64 0, .int .i64 0, .int .i64 0, .int .i64 0, .int .i64 0, .int .i64 0, .int .i64 0, .int .i64 0, .int .i64 0, .int .i64 0, .int .i64 0, .int .i64 0, .int .i64 0, .int .i64 0]
theorem info19 : (Try.prog.info? 120).map (·.size) = some 19 := by kernel_rfl

set_option maxRecDepth 100000 in
set_option maxHeartbeats 1000000 in
theorem order85 (w : World) : Calls Try.prog 85 #[] w fun e w' => ∃ O : Array Value, e = .returned (.agg O) ∧ O.size = 19 ∧ (∀ i, i < 19 → O[i]? = some (.int .i64 ((Rf.order.getD i 0 : Nat) : Int))) ∧ O.all (·.oneCell') = true ∧ Below w.heap.size w w' := by
  go_enter Try.func85, Try.ntmps85
  go_wp2_with (first | (refine wpList_build rfl 120 _ rfl (by kernel_rfl) ?_) | (refine wpList_store_row rfl 120 _ _ rfl w.heap.size ordA rfl (by kernel_rfl) 120 zero19 (blk_new w _) info19 rfl (by kernel_rfl) ?_))
  exact bodyPost_ret (v := .agg ordA) (results_cell_row rfl _ _ w.heap.size 120 ordA (0, 0) _ rfl (setRow_heap _ w.heap.size _ _ 120 _ (blk_new w _)) Try.underlying120 rfl info19) rfl
    ⟨ordA, rfl, rfl, ordA_at, by kernel_rfl, below_setRow ((Below.refl _ _).alloc (Nat.le_refl _) _) (Nat.le_refl _) _⟩

set_option maxRecDepth 100000 in
set_option maxHeartbeats 4000000 in
theorem table70 (s : ByteArray) (R : Nat) (st : Rf.St) (w : World) (hr : Rd w R s st.pos) (hs : s.size ≤ 1048576) (hp : st.pos ≤ 8 * s.size) (hb : st.bad = false) (Q : List Int × Rf.St) (hQ : Q = Rf.lenF (lw s) ((Rf.take (lw s) st 4).1.toNat + 4) 0 (List.replicate 19 0) (Rf.take (lw s) st 4).2) :
    Calls Try.prog 70 #[.pointer (some ⟨R, 0, none⟩)] w fun e w' =>
      (∃ M sh lo, Q.2.bad = false ∧ Rf.full Q.1 = true ∧ e = .returned (tabV M sh lo) ∧ Tab w' M sh lo Q.1 ∧ Rd w' R s Q.2.pos ∧ w.heap.size ≤ M ∧ Kp (· = R) w w') ∨
      ((Q.2.bad = true ∨ Rf.full Q.1 = false) ∧ e = dies 6 ∧ Kp (· = R) w w') := by
  obtain ⟨Z, hZ⟩ : ∃ Z : List Value, Z = List.replicate 19 (.int .i64 0) := ⟨_, rfl⟩
  have hmk : ∀ u : World, (Instr.makeSlice 27 (.int .i64 19) (.int .i64 19)).run Try.prog u = .ok (.slice (some ⟨u.heap.size, 0, none⟩) 19 19) (u.alloc (.cells Z.toArray 3)) := fun u => make_n 19 (by omega) Z hZ u
  have HZ : Hid (Z = vals (List.replicate 19 0)) := by show _ = _; rw [hZ, vals_replicate]
  have hltR := lt_of_block hr
  clear hZ
  go_enter Try.func70, Try.ntmps70
  go_wp2_with fail
  refine (order85 _).mono ?_
  rintro e w1 ⟨O, rfl, hO1, hO2, hO3, b1⟩
  simp only [World.size_alloc] at b1
  have hsz1 := b1.size
  simp only [World.size_alloc] at hsz1
  have hi19 : (Try.prog.info? 120).map (·.size) = some O.size := by rw [hO1]; exact info19
  go_wp2_with (refine wpList_store_row rfl 120 _ _ rfl w1.heap.size O rfl (by rfl) 120 zero19 (blk_new w1 _) hi19 hO1.symm hO3 ?_)
  have hOb : (((w1.alloc (.cells zero19 120)).setRow w1.heap.size O).alloc (.cells Z.toArray 3)).heap[w1.heap.size]? = some (.cells O 120 (0, 0)) := blk_old (setRow_heap _ w1.heap.size _ _ 120 _ (blk_new w1 _)) _
  have hsr : ((w1.alloc (.cells zero19 120)).setRow w1.heap.size O).heap.size = w1.heap.size + 1 := by simp [World.setRow]
  have hGb : Lst (((w1.alloc (.cells zero19 120)).setRow w1.heap.size O).alloc (.cells Z.toArray 3)) (w1.heap.size + 1) (List.replicate 19 0) := by
    have h9 := blk_new ((w1.alloc (.cells zero19 120)).setRow w1.heap.size O) (.cells Z.toArray 3)
    rw [hsr] at h9
    rw [HZ.out] at h9 ⊢
    exact h9
  have hall : ∀ k, k < w1.heap.size → (((w1.alloc (.cells zero19 120)).setRow w1.heap.size O).alloc (.cells Z.toArray 3)).heap[k]? = w1.heap[k]? := fun k hk =>
    (Below.heap_alloc _ _ _ (by rw [hsr]; omega)).trans ((setRow_other _ w1.heap.size k O (by omega)).trans (Below.heap_alloc w1 _ k hk))
  have hRb := (hall w.heap.size (by omega)).trans ((b1.block _ (by omega)).trans (blk_new w (.cells #[.map none, .int .u16 0, .int .u16 0] 71)))
  have hk2 : Kp (· = R) w (((w1.alloc (.cells zero19 120)).setRow w1.heap.size O).alloc (.cells Z.toArray 3)) :=
    ⟨b1.os, b1.tape, b1.output, by simp [World.setRow]; omega, fun k hk _ => (hall k (by omega)).trans ((b1.block k (by omega)).trans (Below.heap_alloc w _ k hk))⟩
  have hr2 : Rd (((w1.alloc (.cells zero19 120)).setRow w1.heap.size O).alloc (.cells Z.toArray 3)) R s st.pos := (hall R (by omega)).trans ((b1.block R (by omega)).trans (blk_old hr _))
  have hB : w.heap.size + 1 ≤ w1.heap.size := hsz1
  generalize ((w1.alloc (.cells zero19 120)).setRow w1.heap.size O).alloc (.cells Z.toArray 3) = W2 at *
  generalize w1.heap.size = B at *
  clear b1 hsr hall hmk HZ hi19 hO1 hO3 hsz1
  refine (number37 4 s R st _ hr2 hs hp hb (by omega)).mono ?_
  have g1 := Rf.take_range (lw_bits s) st 4
  have p1 := Rf.take_pos (lw s) st 4 (by rw [lw_length]; exact hp)
  have hbd := Rf.take_bad (lw s) st 4
  generalize Rf.take (lw s) st 4 = A at *
  obtain ⟨a, st1⟩ := A
  simp only at *
  rw [lw_length] at p1
  rintro e w3 (⟨q1, rfl, r3, k3⟩ | ⟨q1, rfl, k3⟩)
  case inr =>
    go_wp2
    have hbad : Q.2.bad = true := by
      rw [hQ]
      cases a.toNat + 4 with
      | zero => exact q1
      | succ n => rw [Rf.lenF, if_pos q1]; exact q1
    exact ⟨rfl, .inr ⟨.inl hbad, rfl, hk2.trans k3⟩⟩
  case inl =>
  obtain ⟨k, rfl⟩ : ∃ k : Nat, a = (k : Int) := ⟨a.toNat, by omega⟩
  have hk16 : k ≤ 15 := by have := g1.2; omega
  have HQ : Hid (Q = Rf.lenF (lw s) (k + 4) 0 (List.replicate 19 0) st1) := by show _ = _; rw [hQ]; rfl
  have hOb3 := (k3.block B (lt_of_block hOb) (by omega)).trans hOb
  have hGb3 : Lst w3 (B + 1) (List.replicate 19 0) := (k3.block (B + 1) (lt_of_block hGb) (by omega)).trans hGb
  have hRb3 := (k3.block w.heap.size (lt_of_block hRb) (by omega)).trans hRb
  have hk3 := hk2.trans k3
  clear k3 hk2 hOb hGb hRb hr2 hQ g1 hbd
  go_wp2
  go_loopw [13] (fun v wr => ∃ (i : Nat) (ls : List Int) (st' : Rf.St), i ≤ k + 4 ∧ v = .int .i64 i ∧ ls.length = 19 ∧ Hid (Q = Rf.lenF (lw s) (k + 4 - i) i ls st') ∧ Hid (Rf.Within ls 7) ∧ Rd wr R s st'.pos ∧ Hid (st'.bad = false) ∧ st'.pos ≤ 8 * s.size ∧
      Lst wr (B + 1) ls ∧ wr.heap[B]? = some (.cells O 120 (0, 0)) ∧ wr.heap[w.heap.size]? = some (.cells #[.map none, .int .u16 0, .int .u16 0] 71 (0, 0)) ∧ Kp (· = R) w wr) (fun v _ => k + 4 - (intOf v).toNat)
  case atStart => exact ⟨0, List.replicate 19 0, st1, Nat.zero_le _, rfl, by simp, HQ, Rf.within_replicate 19 7 (by omega), r3, q1, p1, hGb3, hOb3, hRb3, hk3⟩
  case round =>
    clear HQ r3 q1 p1 hGb3 hOb3 hRb3 hk3
    obtain ⟨i, ls, st', hi, rfl, hl19, HQ, HW, r4, HBD, p4, hG, hOb, hRb, hk4⟩ := hrel
    by_cases hlt : i < k + 4
    · obtain ⟨p, hpp⟩ : ∃ p : Nat, p = Rf.order.getD i 0 := ⟨_, rfl⟩
      have hp19 : p < 19 := by rw [hpp]; exact Rf.order_lt i
      have co : wr.cell? ⟨B, i, none⟩ = some (.int .i64 (p : Int)) := (cell_of_row _ _ _ _ _ _ hOb).trans ((hO2 i (by omega)).trans (by rw [hpp]))
      obtain ⟨x0, cg⟩ : ∃ x0, wr.cell? ⟨B + 1, p, none⟩ = some (.int .i64 x0) := ⟨_, hG.cell p (by omega)⟩
      have hnum := fun W h => number37 3 s R st' W h hs p4 HBD.out (by omega)
      have g2 := Rf.take_range (lw_bits s) st' 3
      have p5 := Rf.take_pos (lw s) st' 3 (by rw [lw_length]; exact p4)
      rw [lw_length] at p5
      have HQ2 : Hid (Q = Rf.lenF (lw s) (k + 4 - (i + 1)) (i + 1) (ls.set p (Rf.take (lw s) st' 3).1) (Rf.take (lw s) st' 3).2) := by show _ = _; rw [HQ.out, show k + 4 - i = (k + 4 - (i + 1)) + 1 by omega, Rf.lenF, if_neg (by rw [HBD.out]; decide), hpp]
      generalize Rf.take (lw s) st' 3 = A at *
      obtain ⟨x, st2⟩ := A
      simp only at hnum g2 p5 HQ2
      have hltB := lt_of_block hOb
      have hltG := lt_of_block hG
      have j1 : (i : Int) < 19 := by omega
      have j2 : (p : Int) < 19 := by omega
      clear hpp
      go_wp2
      have hS : wr.drew.cell? ⟨B, i, none⟩ = some (.int .i64 (p : Int)) := co
      refine regionZ (by kernel_rfl) (fun w' => w'.cell? ⟨B, i, none⟩ = some (.int .i64 (p : Int))) 99 ?_
      refine anyZ_take (i := 0) (v := ?_) rfl (by kernel_rfl) (by kernel_rfl) (by kernel_rfl) (by kernel_rfl) (fun _ _ _ h => h) (by rfl) ?_ hS ?_
      rotate_left
      · intro w hSw; (try dsimp only at hSw); go_simp; try with_reducible rfl
      try simp only [Act.put]
      refine anyZ_take (i := 1) (v := ?_) rfl (by kernel_rfl) (by kernel_rfl) (by kernel_rfl) (by kernel_rfl) (fun _ _ _ h => h) (by rfl) ?_ hS ?_
      rotate_left
      · intro w hSw; (try dsimp only at hSw); go_simp; try with_reducible rfl
      try simp only [Act.put]
      refine anyZ_take (i := 2) (v := ?_) rfl (by kernel_rfl) (by kernel_rfl) (by kernel_rfl) (by kernel_rfl) (fun _ _ _ h => h) (by rfl) ?_ hS ?_
      rotate_left
      · intro w hSw; (try dsimp only at hSw); go_simp; try with_reducible rfl
      try simp only [Act.put]
      refine anyZ_take (i := 3) (v := ?_) rfl (by kernel_rfl) (by kernel_rfl) (by kernel_rfl) (by kernel_rfl) (fun _ _ _ h => h) (by rfl) ?_ hS ?_
      rotate_left
      · intro w hSw; (try dsimp only at hSw); go_simp; try with_reducible rfl
      try simp only [Act.put]
      refine anyZ_take (i := 4) (v := ?_) rfl (by kernel_rfl) (by kernel_rfl) (by kernel_rfl) (by kernel_rfl) (fun _ _ _ h => h) (by rfl) ?_ hS ?_
      rotate_left
      · intro w hSw; (try dsimp only at hSw); go_simp; try with_reducible rfl
      try simp only [Act.put]
      refine anyZ_one (i := 5) (by kernel_rfl) rfl (fun K hK => ?_)
      go_simp
      refine (hnum wr.drew r4).mono ?_
      rintro e w5 (⟨q2, rfl, r5, k5⟩ | ⟨q2, rfl, k5⟩)
      case inr =>
        have hbad : Q.2.bad = true := by
          rw [HQ2.out]
          cases k + 4 - (i + 1) with
          | zero => exact q2
          | succ n => rw [Rf.lenF, if_pos q2]; exact q2
        exact ⟨rfl, .inr ⟨.inl hbad, rfl, hk4.drew.trans k5⟩⟩
      case inl =>
      have hOb5 : w5.heap[B]? = some (.cells O 120 (0, 0)) := (k5.block B hltB (by omega)).trans hOb
      have hG5 : Lst w5 (B + 1) ls := (k5.block (B + 1) hltG (by omega)).trans hG
      have hRb5 : w5.heap[w.heap.size]? = some (.cells #[.map none, .int .u16 0, .int .u16 0] 71 (0, 0)) := (k5.block w.heap.size (lt_of_block hRb) (by omega)).trans hRb
      have hk5 := hk4.drew.trans k5
      have hS5 : w5.cell? ⟨B, i, none⟩ = some (.int .i64 (p : Int)) := (k5.cell (p := ⟨B, i, none⟩) hltB (show ¬ B = R by omega)).trans co
      obtain ⟨x1, cg5⟩ : ∃ x0, w5.cell? ⟨B + 1, p, none⟩ = some (.int .i64 x0) := ⟨_, hG5.cell p (by omega)⟩
      have fg5 : w5.frozen? ⟨B + 1, p, none⟩ = false := frozen_of_row w5 _ _ _ _ hG5
      have HW2 : Hid (Rf.Within (ls.set p x) 7) := Rf.within_set HW.out p x ⟨g2.1, by omega⟩
      clear hk4 k5 hOb hG hRb r4 HQ HBD cg co hnum
      refine hK _ _ (fun _ => hS5) ?_
      clear hK K
      refine anyZ_one (i := 6) (by kernel_rfl) rfl (fun K hK => ?_)
      go_simp
      refine hK _ _ (fun _ => hS5) ?_
      clear hK K
      refine anyZ_one (i := 7) (by kernel_rfl) rfl (fun K hK => ?_)
      go_simp
      have kS : Kp (· = B + 1) w5 (w5.setCell ⟨B + 1, p, none⟩ (.int .i64 x)) := (Kp.refl (· = B + 1) w5).setCell (p := ⟨B + 1, p, none⟩) (.inl rfl) _
      refine hK _ _ (fun _ => (kS.cell (p := ⟨B, i, none⟩) (lt_of_block hOb5) (show ¬ B = B + 1 by omega)).trans hS5) ?_
      clear hK K
      refine anyZ_done (by kernel_rfl) ?_ _
      have R6 : Lst (w5.setCell ⟨B + 1, p, none⟩ (.int .i64 x)) (B + 1) (ls.set p x) ∧ (w5.setCell ⟨B + 1, p, none⟩ (.int .i64 x)).heap[B]? = some (.cells O 120 (0, 0)) ∧ (w5.setCell ⟨B + 1, p, none⟩ (.int .i64 x)).heap[w.heap.size]? = some (.cells #[.map none, .int .u16 0, .int .u16 0] 71 (0, 0)) ∧
          Kp (· = R) w (w5.setCell ⟨B + 1, p, none⟩ (.int .i64 x)) ∧ Rd (w5.setCell ⟨B + 1, p, none⟩ (.int .i64 x)) R s st2.pos :=
        ⟨hG5.set p x, (kS.block B (lt_of_block hOb5) (by omega)).trans hOb5, (kS.block _ (lt_of_block hRb5) (by omega)).trans hRb5, hk5.setCell (p := ⟨B + 1, p, none⟩) (.inr (by show w.heap.size ≤ B + 1; omega)) _, r5.kept kS (by omega)⟩
      clear kS hk5 hOb5 hG5 hRb5 r5 cg5 fg5 hS hS5
      go_wp2
      go_roundw
      case rel => exact ⟨i + 1, ls.set p x, st2, by omega, by go_num, by simp [hl19], HQ2, HW2, R6.2.2.2.2, q2, p5, R6.1, R6.2.1, R6.2.2.1, R6.2.2.2.1⟩
      case measure => simp [intOf]; omega
    · have hik : i = k + 4 := by omega
      subst hik
      have HE : Hid (Q = (ls, st')) := by show _ = _; rw [HQ.out, Nat.sub_self]; rfl
      have hint := hG.ints
      have h15 : ∀ j, ls.getD j 0 ≤ 15 := fun j => by have := (HW.out j).2; omega
      obtain ⟨t0, t1, t2, tz, tlt⟩ := tcells hRb
      go_wp2_with fail
      refine (full71 (some ⟨B + 1, 0, none⟩) 19 ls 19 _ hl19 (by omega) hint h15).mono ?_
      rintro e w5 ⟨rfl, rfl⟩
      cases hfl : Rf.full ls
      · go_wp2
        exact ⟨rfl, .inr ⟨.inr (by rw [HE.out]; exact hfl), rfl, hk4⟩⟩
      · have hfs : Rf.fs ls ls.length ≤ 32768 := by have h9 : decide (Rf.fs ls ls.length = 32768) = true := hfl; have := of_decide_eq_true h9; omega
        go_wp2_with fail
        refine (newTable59 (some ⟨B + 1, 0, none⟩) 19 ls 19 _ hl19 (by omega) hint (fun a e _ => by cases e; exact lt_of_block hG) h15 hfs).mono ?_
        rintro e w6 ⟨M, sh, lo, rfl, T6, hM, b6⟩
        have hRb6 := (b6.block _ tlt).trans hRb
        obtain ⟨u0, u1, u2, uz, ult⟩ := tcells hRb6
        have hk6 : Kp (· = R) w w6 := hk4.trans ⟨b6.os, b6.tape, b6.output, b6.size, fun k hk _ => b6.block k hk⟩
        have r6 : Rd w6 R s st'.pos := (b6.block R (lt_of_block r4)).trans r4
        have HT6 : Hid (Tab w6 M sh lo ls ∧ w.heap.size + 1 ≤ M) := ⟨T6, by omega⟩
        clear b6 T6 hRb hk4 t0 t1 t2 tz r4 hint hG hOb
        go_wp2
        have hkT : ∀ u v x : Value, Kp (· = w.heap.size) w6 (((w6.setCell ⟨w.heap.size, 0, none⟩ u).setCell ⟨w.heap.size, 1, none⟩ v).setCell ⟨w.heap.size, 2, none⟩ x) := fun u v x =>
          (((Kp.refl (· = w.heap.size) w6).setCell (p := ⟨w.heap.size, 0, none⟩) (.inl rfl) u).setCell (p := ⟨w.heap.size, 1, none⟩) (.inl rfl) v).setCell (p := ⟨w.heap.size, 2, none⟩) (.inl rfl) x
        exact bodyPost_ret (v := tabV M sh lo) (by simp [results, Try.results70, go_sem, u0, u1, u2]) rfl
          (.inl ⟨M, sh, lo, by rw [HE.out]; exact HBD.out, by rw [HE.out]; exact hfl, rfl, by rw [HE.out]; exact HT6.out.1.kept (hkT _ _ _) (by have := HT6.out.2; omega), by rw [HE.out]; exact r6.kept (hkT _ _ _) (by omega), by have := HT6.out.2; omega, hk6.then (hkT _ _ _) (fun i h e => by omega)⟩)

end Go.Proofs.Ytmfijackgekioaa
