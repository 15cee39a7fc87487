import Derived.Test.YtmfijackgekioaaGreatDoorQUg

/-
  A code is read by a table.
-/
namespace Go.Proofs.YtmfijackgekioaaGreatDoor
open Go.RowKit Go.Maps

/-- The length of the code that is being read, in its variable. -/
def lenW (C : Nat) (w : World) : Nat := match w.cell? ⟨C, 1, none⟩ with | some (.int _ n) => n.toNat | _ => 0
theorem lenW_eq {w : World} {C : Nat} {k : IntKind} {n : Nat} (h : w.cell? ⟨C, 1, none⟩ = some (.int k (n : Int))) : lenW C w = n := by unfold lenW; rw [h]; simp

theorem Kp.two {R C : Nat} {a b : World} {x y : Value} {t : TypeId} (h : Kp (· = R) a b) (hne : C ≠ R) (hC : a.heap[C]? = some (.cells #[x, y] t (0, 0))) :
    b.cell? ⟨C, 0, none⟩ = some x ∧ b.cell? ⟨C, 1, none⟩ = some y ∧ (∀ j, b.frozen? ⟨C, j, none⟩ = false) ∧ C < b.heap.size ∧ Hid (b.heap[C]? = some (.cells #[x, y] t (0, 0))) := by
  have h2 := (h.block C (lt_of_block hC) hne).trans hC
  obtain ⟨a, b, c, d⟩ := ccells h2
  exact ⟨a, b, c, d, h2⟩

theorem held_look {D : DataW Unit} {ls : List Int} {sh lo : Nat} (h : Held D ls 15 0 sh lo) (a l : Nat) (ha : a < 65536) (hl1 : 1 ≤ l) (hl : l ≤ 15) :
    (∃ j : Nat, Rf.find ls (Rf.codes ls) (l : Int) (a : Int) = some j ∧ j < ls.length ∧ Maps.has D (kl a l) = true ∧ D.atKey (kl a l) (.lit (.int .i64 0)) = .lit (.int .i64 (j : Int))) ∨
    (Rf.find ls (Rf.codes ls) (l : Int) (a : Int) = none ∧ Maps.has D (kl a l) = false) := by
  cases hf : Rf.find ls (Rf.codes ls) (l : Int) (a : Int) with
  | none => exact .inr ⟨rfl, h.none a l ha (by omega) fun j hj hlj hcj => Rf.find_none hf j hj.1 ⟨hlj, hcj⟩⟩
  | some j =>
    obtain ⟨h1, h2, h3⟩ := Rf.find_some hf
    have := h.some j a l ha (by omega) ⟨h1, by omega, .inl (by omega)⟩ h2 h3
    exact .inl ⟨j, rfl, h1, this.1, this.2⟩
theorem held_under {D : DataW Unit} {ls : List Int} {sh lo : Nat} (h : Held D ls 15 0 sh lo) (l : Nat) (hl1 : 1 ≤ l) (hl : l < sh) (v : Int) : Rf.find ls (Rf.codes ls) (l : Int) v = none := by
  cases hf : Rf.find ls (Rf.codes ls) (l : Int) v with
  | none => rfl
  | some j =>
    obtain ⟨h1, h2, h3⟩ := Rf.find_some hf
    have h15 := h.sh15
    have hd : Done ls 15 0 j := ⟨h1, by omega, .inl (by omega)⟩
    by_cases e : Maps.size D = 0
    · exact absurd hd (h.empty e j)
    · have := h.short e j hd
      omega
theorem held_over {D : DataW Unit} {ls : List Int} {sh lo : Nat} (h : Held D ls 15 0 sh lo) (hw : ∀ j, ls.getD j 0 ≤ 15) (j : Nat) (hj : j < ls.length) : ls.getD j 0 ≤ (lo : Int) := by
  by_cases e : 0 < ls.getD j 0
  · exact h.long j ⟨hj, e, .inl (hw j)⟩
  · omega

theorem symF_step (L ls cd : List Int) (f n : Nat) (v : Int) (st : Rf.St) (hb : st.bad = false) (hp : st.pos < L.length) :
    Rf.symF L ls cd (f + 1) n v st = match Rf.find ls cd ((n : Int) + 1) (2 * v + L.getD st.pos 0) with
      | some i => ((i : Int), { st with pos := st.pos + 1 })
      | none => Rf.symF L ls cd f (n + 1) (2 * v + L.getD st.pos 0) { st with pos := st.pos + 1 } := by
  have e : Rf.take L st 1 = (L.getD st.pos 0, { st with pos := st.pos + 1 }) := by
    rw [Rf.take, if_neg (by omega)]
    simp [Rf.bv]
  rw [Rf.symF, e]
  simp only
  rw [if_neg (by rw [hb]; decide)]
  cases Rf.find ls cd ((n : Int) + 1) (2 * v + L.getD st.pos 0) <;> rfl
theorem symF_stop (L ls cd : List Int) (f n : Nat) (v : Int) (st : Rf.St) (hp : L.length ≤ st.pos) : (Rf.symF L ls cd f n v st).2.bad = true := by
  cases f with
  | zero => rfl
  | succ f =>
    have e : (Rf.take L st 1) = (0, { st with bad := true }) := by rw [Rf.take, if_pos (by omega)]
    rw [Rf.symF, e]
    simp

theorem Kp.three {R C : Nat} {a b : World} {x y z : Value} {t : TypeId} (h : Kp (· = R) a b) (hne : C ≠ R) (hC : a.heap[C]? = some (.cells #[x, y, z] t (0, 0))) :
    b.cell? ⟨C, 0, none⟩ = some x ∧ b.cell? ⟨C, 1, none⟩ = some y ∧ b.cell? ⟨C, 2, none⟩ = some z ∧ Hid (b.heap[C]? = some (.cells #[x, y, z] t (0, 0))) := by
  have h2 := (h.block C (lt_of_block hC) hne).trans hC
  obtain ⟨a, b, c, d⟩ := tcells h2
  exact ⟨a, b, c, h2⟩
theorem ownsMap_kept {w w' : World} {M q : Nat} {D : DataW Unit} (h : w.ownsMap Tryz.prog 230 (plainElem Tryz.prog 3) M q D) (hb : w'.heap[M]? = w.heap[M]?) : w'.ownsMap Tryz.prog 230 (plainElem Tryz.prog 3) M q D := by
  obtain ⟨es, clock, h1, r⟩ := h
  exact ⟨es, clock, hb.trans h1, r⟩

theorem u16_or_bit (v x : Nat) (hv : 2 * v < 65536) (hx : x ≤ 1) : bits .or .u16 ((v : Int) * 2) (x : Int) = 2 * (v : Int) + (x : Int) := by
  have key : (BitVec.ofInt 16 ((v : Int) * 2) ||| BitVec.ofInt 16 (x : Int)).toNat = 2 * v + x := by
    rw [BitVec.toNat_or, BitVec.toNat_ofInt, BitVec.toNat_ofInt]
    have t1 : (((v : Int) * 2) % ((2 ^ 16 : Nat) : Int)).toNat = 2 * v := by omega
    have t2 : ((x : Int) % ((2 ^ 16 : Nat) : Int)).toNat = x := by omega
    rw [t1, t2]
    have h1 := Nat.two_pow_add_eq_or_of_lt (i := 1) (b := x) (by omega) v
    rw [Nat.pow_one] at h1
    omega
  show IntKind.u16.wrap ((BitVec.ofInt 16 ((v : Int) * 2) ||| BitVec.ofInt 16 (x : Int)).toNat : Nat) = _
  rw [key, IntKind.wrap_u16]
  omega

set_option maxRecDepth 100000 in
set_option maxHeartbeats 4000000 in
theorem read65 (M sh lo : Nat) (ls : List Int) (s : ByteArray) (R : Nat) (st : Rf.St) (w : World) (hT : Tab w M sh lo ls) (hr : Rd w R s st.pos) (hMR : M ≠ R) (hs : s.size ≤ 5000000) (hp : st.pos ≤ 8 * s.size) (hb : st.bad = false) :
    Calls Tryz.prog 162 #[tabV M sh lo, .pointer (some ⟨R, 0, none⟩)] w fun e w' =>
      ((Rf.symbol (lw s) ls (Rf.codes ls) st).2.bad = false ∧ e = .returned (.int .i64 (Rf.symbol (lw s) ls (Rf.codes ls) st).1) ∧ Rd w' R s (Rf.symbol (lw s) ls (Rf.codes ls) st).2.pos ∧ Kp (· = R) w w') ∨
      ((Rf.symbol (lw s) ls (Rf.codes ls) st).2.bad = true ∧ e = dies 6 ∧ Kp (· = R) w w') := by
  obtain ⟨q, D, hM, hH, hw⟩ := hT
  have hltM := hM.lt
  have hltR := lt_of_block hr
  have hlo := hH.lo15
  have hsh := hH.sh15
  obtain ⟨RES, hRES⟩ : ∃ RES, RES = Rf.symbol (lw s) ls (Rf.codes ls) st := ⟨_, rfl⟩
  rw [← hRES]
  go_enter Tryz.func162, Tryz.ntmps162
  go_wp2
  go_loopw [9] (fun _ wr => ∃ (n v : Nat) (st' : Rf.St), n ≤ lo ∧ v < 2 ^ n ∧ Hid (wr.heap[w.heap.size + 1]? = some (.cells #[.int .u16 v, .int .u16 n] 230 (0, 0))) ∧ Hid (wr.heap[w.heap.size]? = some (.cells #[.map (some M), .int .u16 sh, .int .u16 lo] 164 (0, 0))) ∧
      Rd wr R s st'.pos ∧ Kp (· = R) w wr ∧ Hid (RES = Rf.symF (lw s) ls (Rf.codes ls) (15 - n) n v st') ∧ Hid (st'.bad = false) ∧ st'.pos ≤ 8 * s.size) (fun _ wr => lo - lenW (w.heap.size + 1) wr)
  case atStart =>
    have hk2 : Kp (· = R) w ((w.alloc (.cells #[.map (some M), .int .u16 sh, .int .u16 lo] 164)).alloc (.cells #[.int .u16 0, .int .u16 0] 230)) := ((Kp.refl (· = R) w).alloc _).alloc _
    exact ⟨0, 0, st, Nat.zero_le _, by omega, by have h := blk_new (w.alloc (.cells #[.map (some M), .int .u16 sh, .int .u16 lo] 164)) (.cells #[.int .u16 0, .int .u16 0] 230); rw [World.size_alloc] at h; exact h, blk_old (blk_new w _) _, blk_old (blk_old hr _) _, hk2, hRES, hb, hp⟩
  case round =>
    obtain ⟨n, v, st', hn, hv, HC, HB, hr2, hkp, HS, HBD, hp2⟩ := hrel
    obtain ⟨c0, c1, fz, hltc⟩ := ccells HC.out
    obtain ⟨b0, b1, b2, bz, hltb⟩ := tcells HB.out
    have hCR : w.heap.size + 1 ≠ R := by omega
    by_cases hlt : n < lo
    · by_cases hbit : st'.pos < 8 * s.size
      · have hv2 : v < 2 ^ 14 := Nat.lt_of_lt_of_le hv (Nat.pow_le_pow_right (by omega) (by omega))
        have HST := symF_step (lw s) ls (Rf.codes ls) (14 - n) n v st' HBD.out (by rw [lw_length]; exact hbit)
        rw [show 14 - n + 1 = 15 - n by omega, ← HS.out] at HST
        obtain ⟨x, hx⟩ : ∃ x : Nat, bt s st'.pos = (x : Int) := ⟨(bt s st'.pos).toNat, by have := bt_range s st'.pos; omega⟩
        have hx1 : x ≤ 1 := by have := bt_range s st'.pos; omega
        have hbc : ∀ W, Rd W R s st'.pos → _ := fun W h => bit_yes s R st'.pos W h hs hbit
        rw [hx] at hbc
        have HX : Hid (RES = _) := HST
        rw [show (lw s).getD st'.pos 0 = (x : Int) from hx] at HX
        have uo := u16_or_bit v x (by omega) hx1
        have u1 : IntKind.u16.wrap ((v : Int) * 2) = (v : Int) * 2 := by rw [IntKind.wrap_u16]; omega
        have u2 : IntKind.u16.wrap (x : Int) = (x : Int) := by rw [IntKind.wrap_u16]; omega
        have u3 : IntKind.u16.wrap ((n : Int) + 1) = (n : Int) + 1 := by rw [IntKind.wrap_u16]; omega
        have HV : Hid (2 * v + x < 2 ^ (n + 1)) := by show _ < _; rw [Nat.pow_succ]; omega
        clear HST hx HS hRES
        go_wp2
        go_region_with ((go_at_call 159; refine (hbc _ ?_).mono ?_; exact hr2; rintro e w3 ⟨rfl, hr3, hk3⟩; obtain ⟨z0, z1, z2, z3, Z4⟩ := hk3.two (C := w.heap.size + 1) hCR HC.out))
        all_goals
          obtain ⟨y0, y1, y2, Y3⟩ := hk3.three (C := w.heap.size) (by omega) HB.out
          have hk4 := hkp.drew.trans hk3
          have HW : Hid (∀ a b : Value, ((w3.setCell ⟨w.heap.size + 1, 0, none⟩ a).setCell ⟨w.heap.size + 1, 1, none⟩ b).heap[w.heap.size + 1]? = some (.cells #[a, b] 230 (0, 0)) ∧
              ((w3.setCell ⟨w.heap.size + 1, 0, none⟩ a).setCell ⟨w.heap.size + 1, 1, none⟩ b).heap[w.heap.size]? = some (.cells #[.map (some M), .int .u16 sh, .int .u16 lo] 164 (0, 0)) ∧
              Rd ((w3.setCell ⟨w.heap.size + 1, 0, none⟩ a).setCell ⟨w.heap.size + 1, 1, none⟩ b) R s (st'.pos + 1) ∧ Kp (· = R) w ((w3.setCell ⟨w.heap.size + 1, 0, none⟩ a).setCell ⟨w.heap.size + 1, 1, none⟩ b) ∧
              ((w3.setCell ⟨w.heap.size + 1, 0, none⟩ a).setCell ⟨w.heap.size + 1, 1, none⟩ b).ownsMap Tryz.prog 230 (plainElem Tryz.prog 3) M q D) := fun a b => by
            have hk5 : Kp (· = w.heap.size + 1) w3 ((w3.setCell ⟨w.heap.size + 1, 0, none⟩ a).setCell ⟨w.heap.size + 1, 1, none⟩ b) := ((Kp.refl (· = w.heap.size + 1) w3).setCell (p := ⟨w.heap.size + 1, 0, none⟩) (.inl rfl) a).setCell (p := ⟨w.heap.size + 1, 1, none⟩) (.inl rfl) b
            have hk6 := (hk4.setCell (p := ⟨w.heap.size + 1, 0, none⟩) (.inr (Nat.le_succ _)) a).setCell (p := ⟨w.heap.size + 1, 1, none⟩) (.inr (Nat.le_succ _)) b
            exact ⟨cset1 (cset0 Z4.out a) b, (hk5.block _ (by omega) (by omega)).trans Y3.out, hr3.kept hk5 (Ne.symm hCR), hk6, ownsMap_kept hM (hk6.block M hltM hMR)⟩
          clear hkp hk3 hk4 hr2 hr3
          by_cases hs2 : n + 1 < sh
          · have HF := held_under hH (n + 1) (by omega) hs2 (2 * (v : Int) + (x : Int))
            rw [show ((n + 1 : Nat) : Int) = (n : Int) + 1 by omega] at HF
            rw [HF] at HX
            have HX2 : Hid (RES = Rf.symF (lw s) ls (Rf.codes ls) (15 - (n + 1)) (n + 1) ((2 * v + x : Nat) : Int) { st' with pos := st'.pos + 1 }) := by show _ = _; rw [show ((2 * v + x : Nat) : Int) = 2 * (v : Int) + (x : Int) by omega, show 15 - (n + 1) = 14 - n by omega]; exact HX.out
            clear HF HX
            go_wp2
            go_roundw
            case rel => exact ⟨n + 1, 2 * v + x, { st' with pos := st'.pos + 1 }, by omega, HV.out, (HW.out _ _).1, (HW.out _ _).2.1, (HW.out _ _).2.2.1, (HW.out _ _).2.2.2.1, HX2.out, HBD.out, hbit⟩
            case measure => rw [lenW_eq c1, lenW_eq (n := n + 1) (by rw [show ((n + 1 : Nat) : Int) = (n : Int) + 1 by omega]; exact (ccells (HW.out _ _).1).2.1)]; omega
          · have hkey := hkl (2 * v + x) (n + 1) (by omega) (by omega)
            have hlook := held_look hH (2 * v + x) (n + 1) (by omega) (by omega) (by omega)
            rw [show ((n + 1 : Nat) : Int) = (n : Int) + 1 by omega, show ((2 * v + x : Nat) : Int) = 2 * (v : Int) + (x : Int) by omega] at hlook
            rw [codeV, show ((n + 1 : Nat) : Int) = (n : Int) + 1 by omega, show ((2 * v + x : Nat) : Int) = 2 * (v : Int) + (x : Int) by omega] at hkey
            rcases hlook with ⟨j, hf, hjl, hhas, hat0⟩ | ⟨hf, hhas⟩
            · rw [hf] at HX
              have HX2 : Hid (RES = _) := HX.out
              have HAT : Hid (D.atKey (kl (2 * v + x) (n + 1)) (.lit (.int .i64 0)) = .lit (.int .i64 (j : Int))) := hat0
              clear hf HX hat0
              go_wp2_with (at_lookup; refine wpList_lookup_own_ok_int _ rfl _ _ 161 rfl 230 3 .i64 codeKeyed Tryz.underlying161 Tryz.underlying3 (zero3 _) M q D rfl (HW.out _ _).2.2.2.2 _ _ rfl hkey ?_; intro c hat hwc; have HCJ : Hid (c = (j : Int)) := by (have h9 := hat.symm.trans HAT.out; simp only [DataW.lit.injEq, Lit.int.injEq, true_and] at h9; exact h9))
              go_ret
              exact .inl ⟨by rw [HX2.out]; exact HBD.out, ret_int (by rw [HX2.out, HCJ.out]), by rw [HX2.out]; exact (HW.out _ _).2.2.1, (HW.out _ _).2.2.2.1⟩
            · rw [hf] at HX
              have HX2 : Hid (RES = Rf.symF (lw s) ls (Rf.codes ls) (15 - (n + 1)) (n + 1) ((2 * v + x : Nat) : Int) { st' with pos := st'.pos + 1 }) := by show _ = _; rw [show ((2 * v + x : Nat) : Int) = 2 * (v : Int) + (x : Int) by omega, show 15 - (n + 1) = 14 - n by omega]; exact HX.out
              clear hf HX
              go_wp2_with (at_lookup; refine wpList_lookup_own_ok_int _ rfl _ _ 161 rfl 230 3 .i64 codeKeyed Tryz.underlying161 Tryz.underlying3 (zero3 _) M q D rfl (HW.out _ _).2.2.2.2 _ _ rfl hkey ?_; intro c hat hwc; clear hat hwc)
              go_roundw
              case rel => exact ⟨n + 1, 2 * v + x, { st' with pos := st'.pos + 1 }, by omega, HV.out, (HW.out _ _).1, (HW.out _ _).2.1, (HW.out _ _).2.2.1, (HW.out _ _).2.2.2.1, HX2.out, HBD.out, hbit⟩
              case measure => rw [lenW_eq c1, lenW_eq (n := n + 1) (by rw [show ((n + 1 : Nat) : Int) = (n : Int) + 1 by omega]; exact (ccells (HW.out _ _).1).2.1)]; omega
      · have HN : Hid (RES.2.bad = true) := by show _ = _; rw [HS.out]; exact symF_stop _ _ _ _ _ _ _ (by rw [lw_length]; omega)
        go_wp2
        refine wp_region_held_drew (S := fun w' => w'.cell? ⟨w.heap.size + 1, 0, none⟩ = some (.int .u16 v) ∧ w'.cell? ⟨w.heap.size + 1, 1, none⟩ = some (.int .u16 n)) (by kernel_rfl) ⟨c0, c1⟩ (fun hHeld => ?_)
        refine wpAnyH_take (i := 0) (v := ?_) rfl (by kernel_rfl) (by kernel_rfl) (by kernel_rfl) (fun _ _ _ h => h) (Or.inl ⟨by rfl, ?_⟩) (by assumption) ?_
        rotate_left
        · intro w hSw; (try dsimp only at hSw); go_simp; try with_reducible rfl
        try simp only [Act.put]
        refine wpAnyH_take (i := 1) (v := ?_) rfl (by kernel_rfl) (by kernel_rfl) (by kernel_rfl) (fun _ _ _ h => h) (Or.inl ⟨by rfl, ?_⟩) (by assumption) ?_
        rotate_left
        · intro w hSw; (try dsimp only at hSw); go_simp; try with_reducible rfl
        try simp only [Act.put]
        refine wpAnyH_take (i := 2) (v := ?_) rfl (by kernel_rfl) (by kernel_rfl) (by kernel_rfl) (fun _ _ _ h => h) (Or.inl ⟨by rfl, ?_⟩) (by assumption) ?_
        rotate_left
        · intro w hSw; (try dsimp only at hSw); go_simp; try with_reducible rfl
        try simp only [Act.put]
        refine wpAnyH_take (i := 3) (v := ?_) rfl (by kernel_rfl) (by kernel_rfl) (by kernel_rfl) (fun _ _ _ h => h) (Or.inl ⟨by rfl, ?_⟩) (by assumption) ?_
        rotate_left
        · intro w hSw; (try dsimp only at hSw); go_simp; try with_reducible rfl
        try simp only [Act.put]
        refine wpAnyH_take (i := 7) (v := ?_) rfl (by kernel_rfl) (by kernel_rfl) (by kernel_rfl) (fun _ _ _ h => h) (Or.inl ⟨by rfl, ?_⟩) (by assumption) ?_
        rotate_left
        · intro w hSw; (try dsimp only at hSw); go_simp; try with_reducible rfl
        try simp only [Act.put]
        refine wpAnyH_take (i := 8) (v := ?_) rfl (by kernel_rfl) (by kernel_rfl) (by kernel_rfl) (fun _ _ _ h => h) (Or.inl ⟨by rfl, ?_⟩) (by assumption) ?_
        rotate_left
        · intro w hSw; (try dsimp only at hSw); go_simp; try with_reducible rfl
        try simp only [Act.put]
        refine wpAnyH_take (i := 9) (v := ?_) rfl (by kernel_rfl) (by kernel_rfl) (by kernel_rfl) (fun _ _ _ h => h) (Or.inl ⟨by rfl, ?_⟩) (by assumption) ?_
        rotate_left
        · intro w hSw; (try dsimp only at hSw); go_simp; try with_reducible rfl
        try simp only [Act.put]
        refine wpAnyH_ready (rs := [4]) (by kernel_rfl) (by simp) (AllReadyH.cons rfl (fun K hK => ?_) AllReadyH.nil)
        go_simp
        refine (bit_no s R st'.pos _ ?_ hs (by omega)).mono ?_
        · exact hr2
        rintro e w3 ⟨rfl, hk3⟩
        exact ⟨rfl, .inr ⟨HN.out, rfl, hkp.drew.trans hk3⟩⟩
    · go_wp2
      exact ⟨rfl, .inr ⟨by rw [HS.out]; exact Rf.symF_none (lw s) ls _ lo (held_over hH hw) _ n _ _ (by omega), rfl, hkp⟩⟩

end Go.Proofs.YtmfijackgekioaaGreatDoor
