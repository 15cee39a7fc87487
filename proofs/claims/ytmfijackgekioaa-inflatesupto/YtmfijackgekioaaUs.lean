/-
  The lengths of a block of kind 2, by the program.
-/
import Derived.Test.YtmfijackgekioaaUr
import Derived.Test.YtmfijackgekioaaRh
import Derived.Test.YtmfijackgekioaaRx
namespace Go.Proofs.Ytmfijackgekioaa
open Go.RowKit Go.Maps

/-- What stands beside the list under way. -/
structure Sl (w wr : World) (s : ByteArray) (R pos M sh lo : Nat) (ls : List Int) : Prop where
  kp : Kp (· = R) w wr
  bx : wr.heap[w.heap.size]? = some (.cells #[.map (some M), .int .u16 sh, .int .u16 lo] 71 (0, 0))
  tb : Tab wr M sh lo ls
  rd : Rd wr R s pos
theorem Sl.read {w wr w' : World} {s : ByteArray} {R pos q M sh lo : Nat} {ls : List Int} (h : Sl w wr s R pos M sh lo ls) (hR : R < w.heap.size) (hM : M ≠ R) (k : Kp (· = R) wr w') (r : Rd w' R s q) : Sl w w' s R q M sh lo ls :=
  ⟨h.kp.trans k, (k.block _ (lt_of_block h.bx) (by omega)).trans h.bx, h.tb.kept k hM, r⟩
theorem Sl.drew {w wr : World} {s : ByteArray} {R pos M sh lo : Nat} {ls : List Int} (h : Sl w wr s R pos M sh lo ls) : Sl w wr.drew s R pos M sh lo ls := ⟨h.kp.drew, h.bx, h.tb, h.rd⟩
theorem Sl.grow {w wr w' : World} {s : ByteArray} {R pos M sh lo : Nat} {ls : List Int} {v : Value} {n : Nat} {xs : List Value} (h : Sl w wr s R pos M sh lo ls) (hR : R < w.heap.size) (hM : M < w.heap.size) (o : Obj)
    (hown : wr.ownsRow (w.heap.size + 1) 3 1 v n xs) (hg : (wr.alloc o).grownBy w' v.ownBlock) : Sl w w' s R pos M sh lo ls := by
  have hsz := h.kp.size
  have hb : ∀ k, k ≤ w.heap.size → k < wr.heap.size → w'.heap[k]? = wr.heap[k]? := fun k hk h2 => (hg.block k (by simp; omega) (fun e => by have := (hown.lt k e.symm).1; omega)).trans (Below.heap_alloc wr o k h2)
  refine ⟨(h.kp.alloc o).grown hg (fun k e => .inr (by have := (hown.lt k e).1; omega)), (hb _ (Nat.le_refl _) (lt_of_block h.bx)).trans h.bx, h.tb.of (hb M (by omega) h.tb.lt), (hb R (by omega) (lt_of_block h.rd)).trans h.rd⟩

theorem lsF_done (L ls cd : List Int) (n f : Nat) (out : List Int) (st : Rf.St) (h : n ≤ out.length) : Rf.lsF L ls cd n f out st = (out, st) := by
  cases f with
  | zero => rfl
  | succ f => rw [Rf.lsF, if_pos (.inl h)]
theorem listed_bad {L ls : List Int} {n : Nat} {st : Rf.St} {RES : List Int × Rf.St} (h : Rf.listed L ls n st = if RES.1.length = n then RES else (RES.1, { RES.2 with bad := true })) (hb : RES.2.bad = true ∨ RES.1.length ≠ n) : (Rf.listed L ls n st).2.bad = true := by
  rw [h]
  split
  · rcases hb with hb | hb
    · exact hb
    · rename_i e; exact absurd e hb
  · rfl
theorem listed_len {L ls : List Int} {n : Nat} {st : Rf.St} (h : (Rf.listed L ls n st).2.bad = false) : (Rf.listed L ls n st).1.length = n := by
  have e : Rf.listed L ls n st = if (Rf.lsF L ls (Rf.codes ls) n (n + 1) [] st).1.length = n then Rf.lsF L ls (Rf.codes ls) n (n + 1) [] st else ((Rf.lsF L ls (Rf.codes ls) n (n + 1) [] st).1, { (Rf.lsF L ls (Rf.codes ls) n (n + 1) [] st).2 with bad := true }) := rfl
  by_cases hl : (Rf.lsF L ls (Rf.codes ls) n (n + 1) [] st).1.length = n
  · rw [e, if_pos hl]; exact hl
  · rw [e, if_neg hl] at h; cases h

theorem make_cap (n : Nat) (hn : n ≤ 320) (Z : List Value) (hZ : Z = List.replicate n (.int .i64 0)) (u : World) :
    (Instr.makeSlice 27 (.int .i64 0) (.int .i64 (n : Int))).run Try.prog u = .ok (.slice (some ⟨u.heap.size, 0, none⟩) 0 n) (u.alloc (.cells Z.toArray 3)) := by
  obtain ⟨i0, hi, hz0, hz1, hz2⟩ := info_parts Try.info3
  have h := run_make (P := Try.prog) u 27 3 i0 (.int .i64 0) Try.underlying27 hi hz0 .i64 .i64 0 (n : Int) (by omega) (by omega) (by rw [hz2]; omega) (by omega)
  have e2 : (madeCells #[Value.int .i64 0] n) = Z.toArray := by rw [hZ, ← toList_madeCells_one]
  simpa [hz1, Value.cells, e2] using h

set_option maxRecDepth 100000 in
set_option maxHeartbeats 16000000 in
theorem lens69 (N : Nat) (s : ByteArray) (R M sh lo : Nat) (ls : List Int) (st : Rf.St) (w : World) (hr : Rd w R s st.pos) (hT : Tab w M sh lo ls) (hMR : M ≠ R) (hl19 : ls.length = 19) (hN : N ≤ 320) (hs : s.size ≤ 1048576) (hp : st.pos ≤ 8 * s.size) (hb : st.bad = false) :
    Calls Try.prog 69 #[.pointer (some ⟨R, 0, none⟩), tabV M sh lo, .int .i64 N] w fun e w' =>
      ((Rf.listed (lw s) ls N st).2.bad = false ∧ (∃ v, e = .returned v ∧ w'.ownsRow (w.heap.size + 1) 3 1 v N (vals (Rf.listed (lw s) ls N st).1)) ∧ Rd w' R s (Rf.listed (lw s) ls N st).2.pos ∧ Kp (· = R) w w') ∨
      ((Rf.listed (lw s) ls N st).2.bad = true ∧ e = dies 6 ∧ Kp (· = R) w w') := by
  obtain ⟨i0, hi, hz0, hz1, hz2⟩ := info_parts Try.info3
  obtain ⟨Z, hZ⟩ : ∃ Z : List Value, Z = List.replicate N (.int .i64 0) := ⟨_, rfl⟩
  have hmk := make_cap N hN Z hZ
  have hZs : Z.toArray.size = N * 1 := by rw [hZ]; simp
  have hltR := lt_of_block hr
  have hltM := hT.lt
  obtain ⟨RES, hRES⟩ : ∃ RES, RES = Rf.lsF (lw s) ls (Rf.codes ls) N (N + 1) [] st := ⟨_, rfl⟩
  obtain ⟨LI, hLI⟩ : ∃ LI, LI = Rf.listed (lw s) ls N st := ⟨_, rfl⟩
  have hlen := @listed_len (lw s) ls N st
  have hbadl := fun hh => @listed_bad (lw s) ls N st RES (by rw [hRES]; rfl) hh
  have hgood : RES.2.bad = false → RES.1.length = N → LI = RES := fun _ h2 => by rw [hLI]; show (if (Rf.lsF (lw s) ls (Rf.codes ls) N (N + 1) [] st).1.length = N then _ else _) = _; rw [← hRES, if_pos h2]
  rw [← hLI] at hbadl ⊢
  have HBL : Hid (RES.2.bad = true ∨ RES.1.length ≠ N → LI.2.bad = true) := hbadl
  have HGD : Hid (RES.2.bad = false → RES.1.length = N → LI = RES) := hgood
  have S0 : Sl w ((w.alloc (.cells #[.map (some M), .int .u16 sh, .int .u16 lo] 71)).alloc (.cells Z.toArray 3)) s R st.pos M sh lo ls :=
    ⟨((Kp.refl _ w).alloc _).alloc _, blk_old (blk_new w _) _, hT.kept (((Kp.refl (fun _ => False) w).alloc _).alloc _) id, blk_old (blk_old hr _) _⟩
  have O0 : ((w.alloc (.cells #[.map (some M), .int .u16 sh, .int .u16 lo] 71)).alloc (.cells Z.toArray 3)).ownsRow (w.heap.size + 1) 3 1 (.slice (some ⟨w.heap.size + 1, 0, none⟩) 0 N) 0 (vals []) := by
    have h9 := World.ownsRow_made (base := w.heap.size + 1) (e := 3) (size := 1) (w.alloc (.cells #[.map (some M), .int .u16 sh, .int .u16 lo] 71)) Z.toArray N (by simp) (by unfold maxLen; omega) hZs
    rw [World.size_alloc] at h9
    exact h9
  have HR0 : Hid (RES = Rf.lsF (lw s) ls (Rf.codes ls) N (N + 1) [] st) := hRES
  clear hRES hLI hlen hbadl hgood hZ hZs hr hT
  obtain ⟨cd, hcd⟩ : ∃ cd, cd = Rf.codes ls := ⟨_, rfl⟩
  rw [← hcd] at HR0
  have HCD : Hid (cd = Rf.codes ls) := hcd
  clear hcd
  go_enter Try.func69, Try.ntmps69
  go_wp2
  go_loopw [7] (fun v wr => ∃ (f : Nat) (out : List Int) (st' : Rf.St), wr.ownsRow (w.heap.size + 1) 3 1 v out.length (vals out) ∧ out.length ≤ N ∧ Sl w wr s R st'.pos M sh lo ls ∧ Hid (st'.bad = false) ∧ st'.pos ≤ 8 * s.size ∧ Hid (RES = Rf.lsF (lw s) ls cd N f out st') ∧ N + 1 ≤ f + out.length) (fun v _ => N - lenV v)
  case atStart => exact ⟨N + 1, [], st, O0, Nat.zero_le _, S0, hb, hp, HR0, by simp⟩
  case round =>
    clear O0 S0 HR0 hmk hb
    obtain ⟨f, out, st', hown, hol, S1, HBD, hp1, HF, hfu⟩ := hrel
    by_cases hdone : out.length = N
    · have HE : Hid (LI = (out, st')) := by
        have e : RES = (out, st') := by rw [HF.out]; exact lsF_done _ _ _ _ _ _ _ (by omega)
        show _ = _
        rw [HGD.out (by rw [e]; exact HBD.out) (by rw [e]; exact hdone), e]
      obtain ⟨oa, oc, rfl⟩ := own_slice hown
      have hge : ¬ ((out.length : Int) < (N : Int)) := by omega
      have hge2 : (N : Int) ≤ (out.length : Int) := by omega
      have HO : Hid (wr.ownsRow (w.heap.size + 1) 3 1 (.slice oa out.length oc) N (vals out)) := by
        have h9 := hown
        rw [hdone] at h9 ⊢
        exact h9
      clear hdone hown
      go_wp2
      go_ret
      exact .inl ⟨by rw [HE.out]; exact HBD.out, ⟨_, rfl, by rw [HE.out]; exact HO.out⟩, by rw [HE.out]; exact S1.rd, S1.kp⟩
    · have hlt : out.length < N := by omega
      have hlt' : (out.length : Int) < (N : Int) := by omega
      obtain ⟨f, rfl⟩ : ∃ g, f = g + 1 := ⟨f - 1, by omega⟩
      have HF1 : Hid (RES = _) := HF.out.trans (by rw [Rf.lsF, if_neg (by rw [HBD.out]; simp; omega)])
      obtain ⟨oa, oc, rfl⟩ := own_slice hown
      obtain ⟨t0, t1, t2, tz, tlt⟩ := tcells S1.bx
      have hsr := Rf.symbol_range (lw s) ls cd st'
      have hsl : (Rf.symbol (lw s) ls cd st').2.pos ≤ (lw s).length := Rf.symF_le (lw s) ls cd 15 0 0 st' (by rw [lw_length]; exact hp1)
      rw [lw_length] at hsl
      have hrd : Calls Try.prog 65 #[tabV M sh lo, .pointer (some ⟨R, 0, none⟩)] wr fun e w' =>
        ((Rf.symbol (lw s) ls cd st').2.bad = false ∧ e = .returned (.int .i64 (Rf.symbol (lw s) ls cd st').1) ∧ Rd w' R s (Rf.symbol (lw s) ls cd st').2.pos ∧ Kp (· = R) wr w') ∨
        ((Rf.symbol (lw s) ls cd st').2.bad = true ∧ e = dies 6 ∧ Kp (· = R) wr w') := by rw [HCD.out]; exact read65 M sh lo ls s R st' wr S1.tb S1.rd hMR hs hp1 HBD.out
      generalize Rf.symbol (lw s) ls cd st' = SY at *
      obtain ⟨x, st2⟩ := SY
      simp only at hsr hsl hrd HF1
      clear HF
      go_wp2_with fail
      refine hrd.mono ?_
      rintro e w2 (⟨q1, rfl, r2, k2⟩ | ⟨q1, rfl, k2⟩)
      case inr =>
        go_wp2
        exact ⟨rfl, .inr ⟨HBL.out (.inl (by rw [HF1.out, if_pos q1]; exact q1)), rfl, S1.kp.trans k2⟩⟩
      case inl =>
      rw [if_neg (by rw [q1]; decide)] at HF1
      have S2 := S1.read hltR hMR k2 r2
      have O2 : w2.ownsRow (w.heap.size + 1) 3 1 (.slice oa out.length oc) out.length (vals out) := own_blk hown (fun g hg => k2.block g (hown.lt g hg).2 (fun e => by have := (hown.lt g hg).1; omega))
      have hx0 := hsr.1
      have hx19 : x < 19 := by have := hsr.2 q1; omega
      have HQ1 : Hid (st2.bad = false) := q1
      clear hrd hsr S1 hown k2 r2 t0 t1 t2 tz tlt q1 HBD hp1
      by_cases h16 : x < 16
      · rw [if_pos h16] at HF1
        have HX : Hid (RES = Rf.lsF (lw s) ls cd N f (out ++ List.replicate 1 x) st2) := HF1.out
        have HQ3 := HQ1
        have hp3 := hsl
        have S3 := S2
        have O3 := O2
        have n16 : ¬ x = 16 := by omega
        have n17 : ¬ x = 17 := by omega
        have n18 : ¬ x = 18 := by omega
        have b16 : (x == 16) = false := by simp; omega
        have b17 : (x == 17) = false := by simp; omega
        have b18 : (x == 18) = false := by simp; omega
        clear S2 O2 HF1
        by_cases hov : 1 ≤ N - out.length
        · have hov1 : ¬ ((N : Int) - (out.length : Int) < (1 : Int)) := by omega
          have hov2 : (1 : Int) ≤ (N : Int) - (out.length : Int) := by omega
          have hd : decide ((N : Int) - (out.length : Int) < (1 : Int)) = false := by simp; omega
          go_wp2
          go_loopw [7, 55] (fun v i wr => ∃ j : Nat, j ≤ 1 ∧ i = .int .i64 j ∧ wr.ownsRow (w.heap.size + 1) 3 1 v (out.length + j) (vals (out ++ List.replicate j x)) ∧ Sl w wr s R st2.pos M sh lo ls) (fun _ i _ => 1 - (intOf i).toNat)
          case atStart => exact ⟨0, Nat.zero_le _, rfl, by simpa using O3, S3⟩
          case round =>
            clear S3 O3
            obtain ⟨j, hj, rfl, hown, S4⟩ := hrel
            by_cases hjt : j < 1
            · have hjt' : (j : Int) < (1 : Int) := by omega
              go_wp2_with (at_builtin; refine wpList_append_own _ rfl _ _ 27 rfl (w.heap.size + 1) 3 i0 (.int .i64 0) 1 8 Try.underlying27 hi hz0 hz1 hz2 rfl (by decide) _ _ _ rfl (hown.alloc _) ⟨wr.heap.size, 0, none⟩ 1 1 [.int .i64 x] rfl rfl (cell_one_new _ _ _) (by intro u hu; simp at hu; subst hu; rfl) (by unfold maxLen; omega) (by omega) (by have := S4.kp.size; have := lt_of_block S4.bx; simp; omega) ?_; intro v' w5 hown' hgrow _)
              have R5 : w5.ownsRow (w.heap.size + 1) 3 1 v' (out.length + (j + 1)) (vals (out ++ List.replicate (j + 1) x)) ∧ Sl w w5 s R st2.pos M sh lo ls := by
                refine ⟨?_, S4.grow hltR hltM _ hown hgrow⟩
                rw [vals_snoc]
                exact hown'
              clear hown' hgrow hown S4
              go_wp2
              go_roundw
              case rel => exact ⟨j + 1, by omega, by go_num, R5.1, R5.2⟩
              case measure => simp [intOf]; omega
            · have hjt2 : j = 1 := by omega
              subst hjt2
              have hjn : ¬ (((1 : Nat) : Int) < (1 : Int)) := by omega
              obtain ⟨oa5, oc5, rfl⟩ := own_slice hown
              have O5 : Hid (wr.ownsRow (w.heap.size + 1) 3 1 (.slice oa5 (out.length + (1)) oc5) (out ++ List.replicate (1) x).length (vals (out ++ List.replicate (1) x))) := by
                show wr.ownsRow _ _ _ _ _ _
                rw [List.length_append, List.length_replicate]
                exact hown
              clear hown
              go_wp2
              go_roundw
              case rel => exact ⟨f, out ++ List.replicate (1) x, st2, O5.out, by rw [List.length_append, List.length_replicate]; omega, S4, HQ3, hp3, HX, by rw [List.length_append, List.length_replicate]; omega⟩
              case measure => simp [lenV] <;> omega
        · exact absurd (show 1 ≤ N - out.length by omega) hov
      · rw [if_neg h16] at HF1
        by_cases e16 : x = 16
        · rw [if_pos e16] at HF1
          subst e16
          by_cases hnil : out = []
          · rw [if_pos hnil] at HF1
            have hn0 : out.length = 0 := by rw [hnil]; rfl
            have hn1 : (out.length : Int) = 0 := by omega
            go_wp2
            exact ⟨rfl, .inr ⟨HBL.out (.inl (by rw [HF1.out])), rfl, S2.kp⟩⟩
          · rw [if_neg hnil] at HF1
            have hpos : 0 < out.length := List.length_pos_iff.2 hnil
            have hn1 : ¬ (out.length : Int) = 0 := by omega
            have bn : ((out.length : Int) == 0) = false := by simp; exact hnil
            obtain ⟨g, oc', hv, hgb⟩ := own_some O2 hpos
            cases hv
            obtain ⟨y, hy⟩ : ∃ y : Int, y = out.getD (out.length - 1) 0 := ⟨_, rfl⟩
            obtain ⟨q, hq⟩ : ∃ q : Nat, q = out.length - 1 := ⟨_, rfl⟩
            have hcell : w2.cell? ⟨g, q, none⟩ = some (.int .i64 y) := (O2.cellAt q (by omega)).trans (by rw [hy, hq]; simp [vals, List.getD, List.getElem?_eq_getElem (show out.length - 1 < out.length by omega)])
            rw [← hy] at HF1
            have hnum := fun W h => number37 2 s R st2 W h hs hsl HQ1.out (by omega)
            have g2 := Rf.take_range (lw_bits s) st2 2
            have p2 := Rf.take_pos (lw s) st2 2 (by rw [lw_length]; exact hsl)
            rw [lw_length] at p2
            generalize Rf.take (lw s) st2 2 = A at *
            obtain ⟨t, st3⟩ := A
            simp only at hnum g2 p2 HF1
            obtain ⟨t, rfl⟩ : ∃ u : Nat, t = (u : Int) := ⟨t.toNat, by omega⟩
            have ht : t < 4 := by have := g2.2; omega
            have HX : Hid (RES = Rf.lsF (lw s) ls cd N f (out ++ List.replicate (3 + t) y) st3) := by show _ = _; rw [HF1.out]; rfl
            have j1 : (0 : Int) ≤ (out.length : Int) - 1 := by omega
            have j2 : (out.length : Int) - 1 < (out.length : Int) := by omega
            have wrp : IntKind.i64.wrap ((out.length : Int) - 1) = (q : Int) := by rw [IntWalk.i64_in _ (by omega)]; omega
            have j4 : (q : Int) < (out.length : Int) := by omega
            have wr3 : IntKind.i64.wrap (3 + (t : Int)) = 3 + (t : Int) := IntWalk.i64_in _ (by omega)
            have hltg := (O2.lt g rfl).2
            have hgR : g ≠ R := by omega
            clear HF1 g2 hy hq
            go_wp2
            have hS : w2.drew.cell? ⟨g, q, none⟩ = some (.int .i64 y) := hcell
            refine regionZ (by kernel_rfl) (fun w' => w'.cell? ⟨g, q, none⟩ = some (.int .i64 y)) 99 ?_
            refine anyZ_take (i := 0) (v := ?_) rfl (by kernel_rfl) (by kernel_rfl) (by kernel_rfl) (by kernel_rfl) (fun _ _ _ h => h) (by rfl) ?_ hS ?_
            rotate_left
            · intro w hSw; (try dsimp only at hSw); go_simp; try with_reducible rfl
            try simp only [Act.put]
            refine anyZ_take (i := 1) (v := ?_) rfl (by kernel_rfl) (by kernel_rfl) (by kernel_rfl) (by kernel_rfl) (fun _ _ _ h => h) (by rfl) ?_ hS ?_
            rotate_left
            · intro w hSw; (try dsimp only at hSw); go_simp; try with_reducible rfl
            try simp only [Act.put]
            refine anyZ_take (i := 2) (v := ?_) rfl (by kernel_rfl) (by kernel_rfl) (by kernel_rfl) (by kernel_rfl) (fun _ _ _ h => h) (by rfl) ?_ hS ?_
            rotate_left
            · intro w hSw; (try dsimp only at hSw); go_simp; try with_reducible rfl
            try simp only [Act.put]
            refine anyZ_take (i := 3) (v := ?_) rfl (by kernel_rfl) (by kernel_rfl) (by kernel_rfl) (by kernel_rfl) (fun _ _ _ h => h) (by rfl) ?_ hS ?_
            rotate_left
            · intro w hSw; (try dsimp only at hSw); go_simp; try with_reducible rfl
            try simp only [Act.put]
            refine anyZ_take (i := 4) (v := ?_) rfl (by kernel_rfl) (by kernel_rfl) (by kernel_rfl) (by kernel_rfl) (fun _ _ _ h => h) (by rfl) ?_ hS ?_
            rotate_left
            · intro w hSw; (try dsimp only at hSw); go_simp; try with_reducible rfl
            try simp only [Act.put]
            refine anyZ_take (i := 5) (v := ?_) rfl (by kernel_rfl) (by kernel_rfl) (by kernel_rfl) (by kernel_rfl) (fun _ _ _ h => h) (by rfl) ?_ hS ?_
            rotate_left
            · intro w hSw; (try dsimp only at hSw); go_simp; try with_reducible rfl
            try simp only [Act.put]
            refine anyZ_take (i := 6) (v := ?_) rfl (by kernel_rfl) (by kernel_rfl) (by kernel_rfl) (by kernel_rfl) (fun _ _ _ h => h) (by rfl) ?_ hS ?_
            rotate_left
            · intro w hSw; (try dsimp only at hSw); go_simp; try with_reducible rfl
            try simp only [Act.put]
            refine anyZ_one (i := 7) (by kernel_rfl) rfl (fun K hK => ?_)
            go_simp
            refine (hnum w2.drew S2.rd).mono ?_
            rintro e w3 (⟨q2, rfl, r3, k3⟩ | ⟨q2, rfl, k3⟩)
            case inr =>
              have e : RES.2.bad = true := by
                rw [HX.out]
                cases f with
                | zero => exact q2
                | succ f => rw [Rf.lsF, if_pos (.inr q2)]; exact q2
              exact ⟨rfl, .inr ⟨HBL.out (.inl e), rfl, S2.kp.drew.trans k3⟩⟩
            case inl =>
            have hS3 : w3.cell? ⟨g, q, none⟩ = some (.int .i64 y) := (k3.cell (p := ⟨g, q, none⟩) hltg hgR).trans hcell
            have S3 := S2.drew.read hltR hMR k3 r3
            have O3 : w3.ownsRow (w.heap.size + 1) 3 1 (.slice (some ⟨g, 0, none⟩) out.length oc) out.length (vals out) := own_blk O2 (fun g' hg => k3.block g' (O2.lt g' hg).2 (fun e => by have := (O2.lt g' hg).1; omega))
            have HQ3 : Hid (st3.bad = false) := q2
            have hp3 := p2
            refine hK _ _ (fun _ => hS3) ?_
            clear hK K
            refine anyZ_take (i := 8) (v := ?_) rfl (by kernel_rfl) (by kernel_rfl) (by kernel_rfl) (by kernel_rfl) (fun _ _ _ h => h) (by rfl) ?_ hS3 ?_
            rotate_left
            · intro w hSw; (try dsimp only at hSw); go_simp; try with_reducible rfl
            try simp only [Act.put]
            refine anyZ_one (i := 9) (by kernel_rfl) rfl (fun K hK => ?_)
            go_simp
            refine hK _ _ (fun _ => hS3) ?_
            clear hK K
            refine anyZ_one (i := 10) (by kernel_rfl) rfl (fun K hK => ?_)
            go_simp
            refine hK _ _ (fun _ => hS3) ?_
            clear hK K
            refine anyZ_done (by kernel_rfl) ?_ _
            clear S2 O2 k3 r3 hnum q2 p2 hS hS3 hcell wrp j1 j2 j4
            by_cases hov : 3 + t ≤ N - out.length
            · have hov1 : ¬ ((N : Int) - (out.length : Int) < (3 + (t : Int))) := by omega
              have hov2 : (3 + (t : Int)) ≤ (N : Int) - (out.length : Int) := by omega
              have hd : decide ((N : Int) - (out.length : Int) < (3 + (t : Int))) = false := by simp; omega
              go_wp2
              go_loopw [7, 55] (fun v i wr => ∃ j : Nat, j ≤ 3 + t ∧ i = .int .i64 j ∧ wr.ownsRow (w.heap.size + 1) 3 1 v (out.length + j) (vals (out ++ List.replicate j y)) ∧ Sl w wr s R st3.pos M sh lo ls) (fun _ i _ => 3 + t - (intOf i).toNat)
              case atStart => exact ⟨0, Nat.zero_le _, rfl, by simpa using O3, S3⟩
              case round =>
                clear S3 O3
                obtain ⟨j, hj, rfl, hown, S4⟩ := hrel
                by_cases hjt : j < 3 + t
                · have hjt' : (j : Int) < (3 + (t : Int)) := by omega
                  go_wp2_with (at_builtin; refine wpList_append_own _ rfl _ _ 27 rfl (w.heap.size + 1) 3 i0 (.int .i64 0) 1 8 Try.underlying27 hi hz0 hz1 hz2 rfl (by decide) _ _ _ rfl (hown.alloc _) ⟨wr.heap.size, 0, none⟩ 1 1 [.int .i64 y] rfl rfl (cell_one_new _ _ _) (by intro u hu; simp at hu; subst hu; rfl) (by unfold maxLen; omega) (by omega) (by have := S4.kp.size; have := lt_of_block S4.bx; simp; omega) ?_; intro v' w5 hown' hgrow _)
                  have R5 : w5.ownsRow (w.heap.size + 1) 3 1 v' (out.length + (j + 1)) (vals (out ++ List.replicate (j + 1) y)) ∧ Sl w w5 s R st3.pos M sh lo ls := by
                    refine ⟨?_, S4.grow hltR hltM _ hown hgrow⟩
                    rw [vals_snoc]
                    exact hown'
                  clear hown' hgrow hown S4
                  go_wp2
                  go_roundw
                  case rel => exact ⟨j + 1, by omega, by go_num, R5.1, R5.2⟩
                  case measure => simp [intOf]; omega
                · have hjt2 : j = 3 + t := by omega
                  subst hjt2
                  have hjn : ¬ (((3 + t : Nat) : Int) < (3 + (t : Int))) := by omega
                  obtain ⟨oa5, oc5, rfl⟩ := own_slice hown
                  have O5 : Hid (wr.ownsRow (w.heap.size + 1) 3 1 (.slice oa5 (out.length + (3 + t)) oc5) (out ++ List.replicate (3 + t) y).length (vals (out ++ List.replicate (3 + t) y))) := by
                    show wr.ownsRow _ _ _ _ _ _
                    rw [List.length_append, List.length_replicate]
                    exact hown
                  clear hown
                  go_wp2
                  go_roundw
                  case rel => exact ⟨f, out ++ List.replicate (3 + t) y, st3, O5.out, by rw [List.length_append, List.length_replicate]; omega, S4, HQ3, hp3, HX, by rw [List.length_append, List.length_replicate]; omega⟩
                  case measure => simp [lenV] <;> omega
            · have hov1 : (N : Int) - (out.length : Int) < (3 + (t : Int)) := by omega
              go_wp2
              have e : RES = (out ++ List.replicate (3 + t) y, st3) := by rw [HX.out]; exact lsF_done _ _ _ _ _ _ _ (by rw [List.length_append, List.length_replicate]; omega)
              exact ⟨rfl, .inr ⟨HBL.out (.inr (by rw [e]; simp; omega)), rfl, S3.kp⟩⟩
        · rw [if_neg e16] at HF1
          by_cases e17 : x = 17
          · rw [if_pos e17] at HF1
            subst e17
            have hnum := number37 3 s R st2 w2 S2.rd hs hsl HQ1.out (by omega)
            have g2 := Rf.take_range (lw_bits s) st2 3
            have p2 := Rf.take_pos (lw s) st2 3 (by rw [lw_length]; exact hsl)
            rw [lw_length] at p2
            generalize Rf.take (lw s) st2 3 = A at *
            obtain ⟨t, st3⟩ := A
            simp only at hnum g2 p2 HF1
            obtain ⟨t, rfl⟩ : ∃ u : Nat, t = (u : Int) := ⟨t.toNat, by omega⟩
            have ht : t < 8 := by have := g2.2; omega
            have HX : Hid (RES = Rf.lsF (lw s) ls cd N f (out ++ List.replicate (3 + t) 0) st3) := by show _ = _; rw [HF1.out]; rfl
            clear HF1 g2
            go_wp2_with fail
            refine hnum.mono ?_
            rintro e w3 (⟨q2, rfl, r3, k3⟩ | ⟨q2, rfl, k3⟩)
            case inr =>
              go_wp2
              have e : RES.2.bad = true := by
                rw [HX.out]
                cases f with
                | zero => exact q2
                | succ f => rw [Rf.lsF, if_pos (.inr q2)]; exact q2
              exact ⟨rfl, .inr ⟨HBL.out (.inl e), rfl, S2.kp.trans k3⟩⟩
            case inl =>
            have S3 := S2.read hltR hMR k3 r3
            have O3 : w3.ownsRow (w.heap.size + 1) 3 1 (.slice oa out.length oc) out.length (vals out) := own_blk O2 (fun g hg => k3.block g (O2.lt g hg).2 (fun e => by have := (O2.lt g hg).1; omega))
            have HQ3 : Hid (st3.bad = false) := q2
            have hp3 := p2
            clear S2 O2 k3 r3 hnum q2 p2
            by_cases hov : 3 + t ≤ N - out.length
            · have hov1 : ¬ ((N : Int) - (out.length : Int) < (3 + (t : Int))) := by omega
              have hov2 : (3 + (t : Int)) ≤ (N : Int) - (out.length : Int) := by omega
              have hd : decide ((N : Int) - (out.length : Int) < (3 + (t : Int))) = false := by simp; omega
              go_wp2
              go_loopw [7, 55] (fun v i wr => ∃ j : Nat, j ≤ 3 + t ∧ i = .int .i64 j ∧ wr.ownsRow (w.heap.size + 1) 3 1 v (out.length + j) (vals (out ++ List.replicate j 0)) ∧ Sl w wr s R st3.pos M sh lo ls) (fun _ i _ => 3 + t - (intOf i).toNat)
              case atStart => exact ⟨0, Nat.zero_le _, rfl, by simpa using O3, S3⟩
              case round =>
                clear S3 O3
                obtain ⟨j, hj, rfl, hown, S4⟩ := hrel
                by_cases hjt : j < 3 + t
                · have hjt' : (j : Int) < (3 + (t : Int)) := by omega
                  go_wp2_with (at_builtin; refine wpList_append_own _ rfl _ _ 27 rfl (w.heap.size + 1) 3 i0 (.int .i64 0) 1 8 Try.underlying27 hi hz0 hz1 hz2 rfl (by decide) _ _ _ rfl (hown.alloc _) ⟨wr.heap.size, 0, none⟩ 1 1 [.int .i64 0] rfl rfl (cell_one_new _ _ _) (by intro u hu; simp at hu; subst hu; rfl) (by unfold maxLen; omega) (by omega) (by have := S4.kp.size; have := lt_of_block S4.bx; simp; omega) ?_; intro v' w5 hown' hgrow _)
                  have R5 : w5.ownsRow (w.heap.size + 1) 3 1 v' (out.length + (j + 1)) (vals (out ++ List.replicate (j + 1) 0)) ∧ Sl w w5 s R st3.pos M sh lo ls := by
                    refine ⟨?_, S4.grow hltR hltM _ hown hgrow⟩
                    rw [vals_snoc]
                    exact hown'
                  clear hown' hgrow hown S4
                  go_wp2
                  go_roundw
                  case rel => exact ⟨j + 1, by omega, by go_num, R5.1, R5.2⟩
                  case measure => simp [intOf]; omega
                · have hjt2 : j = 3 + t := by omega
                  subst hjt2
                  have hjn : ¬ (((3 + t : Nat) : Int) < (3 + (t : Int))) := by omega
                  obtain ⟨oa5, oc5, rfl⟩ := own_slice hown
                  have O5 : Hid (wr.ownsRow (w.heap.size + 1) 3 1 (.slice oa5 (out.length + (3 + t)) oc5) (out ++ List.replicate (3 + t) 0).length (vals (out ++ List.replicate (3 + t) 0))) := by
                    show wr.ownsRow _ _ _ _ _ _
                    rw [List.length_append, List.length_replicate]
                    exact hown
                  clear hown
                  go_wp2
                  go_roundw
                  case rel => exact ⟨f, out ++ List.replicate (3 + t) 0, st3, O5.out, by rw [List.length_append, List.length_replicate]; omega, S4, HQ3, hp3, HX, by rw [List.length_append, List.length_replicate]; omega⟩
                  case measure => simp [lenV] <;> omega
            · have hov1 : (N : Int) - (out.length : Int) < (3 + (t : Int)) := by omega
              go_wp2
              have e : RES = (out ++ List.replicate (3 + t) 0, st3) := by rw [HX.out]; exact lsF_done _ _ _ _ _ _ _ (by rw [List.length_append, List.length_replicate]; omega)
              exact ⟨rfl, .inr ⟨HBL.out (.inr (by rw [e]; simp; omega)), rfl, S3.kp⟩⟩
          · rw [if_neg e17] at HF1
            have e18 : x = 18 := by omega
            subst e18
            have hnum := number37 7 s R st2 w2 S2.rd hs hsl HQ1.out (by omega)
            have g2 := Rf.take_range (lw_bits s) st2 7
            have p2 := Rf.take_pos (lw s) st2 7 (by rw [lw_length]; exact hsl)
            rw [lw_length] at p2
            generalize Rf.take (lw s) st2 7 = A at *
            obtain ⟨t, st3⟩ := A
            simp only at hnum g2 p2 HF1
            obtain ⟨t, rfl⟩ : ∃ u : Nat, t = (u : Int) := ⟨t.toNat, by omega⟩
            have ht : t < 128 := by have := g2.2; omega
            have HX : Hid (RES = Rf.lsF (lw s) ls cd N f (out ++ List.replicate (11 + t) 0) st3) := by show _ = _; rw [HF1.out]; rfl
            clear HF1 g2
            go_wp2_with fail
            refine hnum.mono ?_
            rintro e w3 (⟨q2, rfl, r3, k3⟩ | ⟨q2, rfl, k3⟩)
            case inr =>
              go_wp2
              have e : RES.2.bad = true := by
                rw [HX.out]
                cases f with
                | zero => exact q2
                | succ f => rw [Rf.lsF, if_pos (.inr q2)]; exact q2
              exact ⟨rfl, .inr ⟨HBL.out (.inl e), rfl, S2.kp.trans k3⟩⟩
            case inl =>
            have S3 := S2.read hltR hMR k3 r3
            have O3 : w3.ownsRow (w.heap.size + 1) 3 1 (.slice oa out.length oc) out.length (vals out) := own_blk O2 (fun g hg => k3.block g (O2.lt g hg).2 (fun e => by have := (O2.lt g hg).1; omega))
            have HQ3 : Hid (st3.bad = false) := q2
            have hp3 := p2
            clear S2 O2 k3 r3 hnum q2 p2
            by_cases hov : 11 + t ≤ N - out.length
            · have hov1 : ¬ ((N : Int) - (out.length : Int) < (11 + (t : Int))) := by omega
              have hov2 : (11 + (t : Int)) ≤ (N : Int) - (out.length : Int) := by omega
              have hd : decide ((N : Int) - (out.length : Int) < (11 + (t : Int))) = false := by simp; omega
              go_wp2
              go_loopw [7, 55] (fun v i wr => ∃ j : Nat, j ≤ 11 + t ∧ i = .int .i64 j ∧ wr.ownsRow (w.heap.size + 1) 3 1 v (out.length + j) (vals (out ++ List.replicate j 0)) ∧ Sl w wr s R st3.pos M sh lo ls) (fun _ i _ => 11 + t - (intOf i).toNat)
              case atStart => exact ⟨0, Nat.zero_le _, rfl, by simpa using O3, S3⟩
              case round =>
                clear S3 O3
                obtain ⟨j, hj, rfl, hown, S4⟩ := hrel
                by_cases hjt : j < 11 + t
                · have hjt' : (j : Int) < (11 + (t : Int)) := by omega
                  go_wp2_with (at_builtin; refine wpList_append_own _ rfl _ _ 27 rfl (w.heap.size + 1) 3 i0 (.int .i64 0) 1 8 Try.underlying27 hi hz0 hz1 hz2 rfl (by decide) _ _ _ rfl (hown.alloc _) ⟨wr.heap.size, 0, none⟩ 1 1 [.int .i64 0] rfl rfl (cell_one_new _ _ _) (by intro u hu; simp at hu; subst hu; rfl) (by unfold maxLen; omega) (by omega) (by have := S4.kp.size; have := lt_of_block S4.bx; simp; omega) ?_; intro v' w5 hown' hgrow _)
                  have R5 : w5.ownsRow (w.heap.size + 1) 3 1 v' (out.length + (j + 1)) (vals (out ++ List.replicate (j + 1) 0)) ∧ Sl w w5 s R st3.pos M sh lo ls := by
                    refine ⟨?_, S4.grow hltR hltM _ hown hgrow⟩
                    rw [vals_snoc]
                    exact hown'
                  clear hown' hgrow hown S4
                  go_wp2
                  go_roundw
                  case rel => exact ⟨j + 1, by omega, by go_num, R5.1, R5.2⟩
                  case measure => simp [intOf]; omega
                · have hjt2 : j = 11 + t := by omega
                  subst hjt2
                  have hjn : ¬ (((11 + t : Nat) : Int) < (11 + (t : Int))) := by omega
                  obtain ⟨oa5, oc5, rfl⟩ := own_slice hown
                  have O5 : Hid (wr.ownsRow (w.heap.size + 1) 3 1 (.slice oa5 (out.length + (11 + t)) oc5) (out ++ List.replicate (11 + t) 0).length (vals (out ++ List.replicate (11 + t) 0))) := by
                    show wr.ownsRow _ _ _ _ _ _
                    rw [List.length_append, List.length_replicate]
                    exact hown
                  clear hown
                  go_wp2
                  go_roundw
                  case rel => exact ⟨f, out ++ List.replicate (11 + t) 0, st3, O5.out, by rw [List.length_append, List.length_replicate]; omega, S4, HQ3, hp3, HX, by rw [List.length_append, List.length_replicate]; omega⟩
                  case measure => simp [lenV] <;> omega
            · have hov1 : (N : Int) - (out.length : Int) < (11 + (t : Int)) := by omega
              go_wp2
              have e : RES = (out ++ List.replicate (11 + t) 0, st3) := by rw [HX.out]; exact lsF_done _ _ _ _ _ _ _ (by rw [List.length_append, List.length_replicate]; omega)
              exact ⟨rfl, .inr ⟨HBL.out (.inr (by rw [e]; simp; omega)), rfl, S3.kp⟩⟩
end Go.Proofs.Ytmfijackgekioaa
