/-
  Symbols up to a block's end, by the program: the walk.
-/
import Derived.Test.YtmfijackgekioaaUp
import Derived.Test.YtmfijackgekioaaRt
namespace Go.Proofs.Ytmfijackgekioaa
open Go.RowKit Go.Maps

set_option maxRecDepth 100000 in
set_option maxHeartbeats 8000000 in
theorem syms39 (s : ByteArray) (R : Nat) (limit : Int) (M1 s1 l1 M2 s2 l2 : Nat) (ls farP far : List Int) (st : Rf.St) (ov : Value) (w : World) (h : Pg w s R limit st ov) (hT1 : Tab w M1 s1 l1 ls) (hT2 : Tab w M2 s2 l2 farP) (m1 : R + 5 < M1) (m2 : R + 5 < M2)
    (hal : Alike s farP far) (hout : Hid (st.out.length ≤ 258 * st.pos)) :
    Calls Try.prog 39 #[.pointer (some ⟨R, 0, none⟩), btV M1 s1 l1 M2 s2 l2, sinkV R] w fun e w' => Ends s R limit w (Rf.symbols (lw s) limit ls far st) e w' := by
  have hs := h.hs
  have hlt := h.lt
  obtain ⟨F, hF⟩ : ∃ F, F = Rf.symbols (lw s) limit ls far st := ⟨_, rfl⟩
  rw [← hF]
  have HF : Hid (F = Rf.symsF (lw s) limit ls (Rf.codes ls) far (Rf.codes far) (8 * s.size + 2) st) := by show _ = _; rw [hF, Rf.symbols, lw_length]
  have P0 := (h.alloc (.cells (btC M1 s1 l1 M2 s2 l2) 73)).alloc (.cells (sinkC R) 61)
  have F0 := ((FrP.refl R w).alloc (by omega) (.cells (btC M1 s1 l1 M2 s2 l2) 73)).alloc (by simp; omega) (.cells (sinkC R) 61)
  have hk0 : Kp (fun _ => False) w ((w.alloc (.cells (btC M1 s1 l1 M2 s2 l2) 73)).alloc (.cells (sinkC R) 61)) := ((Kp.refl _ w).alloc _).alloc _
  have S0 : Sd ((w.alloc (.cells (btC M1 s1 l1 M2 s2 l2) 73)).alloc (.cells (sinkC R) 61)) R w.heap.size M1 s1 l1 M2 s2 l2 ls farP :=
    ⟨hT1.kept hk0 id, hT2.kept hk0 id, m1, m2, hlt, blk_old (blk_new w _) _, by have h9 := blk_new (w.alloc (.cells (btC M1 s1 l1 M2 s2 l2) 73)) (.cells (sinkC R) 61); rw [World.size_alloc] at h9; exact h9⟩
  clear hk0 hF hT1 hT2
  go_enter Try.func39, Try.ntmps39
  go_wp2
  go_loopw [9] (fun _ wr => ∃ (f : Nat) (st' : Rf.St) (ov' : Value), Pg wr s R limit st' ov' ∧ FrP R w wr ∧ Sd wr R w.heap.size M1 s1 l1 M2 s2 l2 ls farP ∧ Hid (F = Rf.symsF (lw s) limit ls (Rf.codes ls) far (Rf.codes far) f st') ∧ 8 * s.size + 2 ≤ f + st'.pos ∧ Hid (st'.out.length ≤ 258 * st'.pos)) (fun _ wr => 8 * s.size - posR R wr)
  case atStart => exact ⟨8 * s.size + 2, st, ov, P0, F0, S0, HF, by omega, hout⟩
  case round =>
    clear P0 F0 S0 HF h hout
    obtain ⟨f, st', ov', h, F1, S1, HF, hfu, HO⟩ := hrel
    have hp := h.hp
    obtain ⟨f, rfl⟩ : ∃ g, f = g + 1 := ⟨f - 1, by omega⟩
    have hst := symsF_step (lw s) limit ls (Rf.codes ls) far (Rf.codes far) f st'
    have hrg := Rf.symbol_range (lw s) ls (Rf.codes ls) st'
    have ho1 := Rf.symbol_out (lw s) ls (Rf.codes ls) st'
    have hmp := Rf.symbol_pos (lw s) ls (Rf.codes ls) st'
    have hpl := Rf.symF_le (lw s) ls (Rf.codes ls) 15 0 0 st' (by rw [lw_length]; exact hp)
    have hrd := read65 M1 s1 l1 ls s R st' wr S1.t1 h.rd (by omega) hs hp h.nb
    have hpl' : (Rf.symbol (lw s) ls (Rf.codes ls) st').2.pos ≤ (lw s).length := hpl
    clear hpl
    generalize hX : Rf.symbol (lw s) ls (Rf.codes ls) st' = X at *
    obtain ⟨x, st1⟩ := X
    simp only at hst hrg ho1 hmp hpl' hrd
    have HST := hst st1 x h.nb h.nf rfl
    rw [← HF.out] at HST
    have HS : Hid (F = _) := HST
    rw [lw_length] at hpl'
    obtain ⟨d0, d1, d2, d3, d4, d5, dz, dlt⟩ := cells6 S1.bx
    obtain ⟨e0, e1, e2, ez, elt⟩ := tcells S1.sx
    have hposW := hidden h.rd.posR
    clear hst HST hX
    go_wp2_with fail
    refine hrd.mono ?_
    rintro e w2 (⟨q1, rfl, r2, k2⟩ | ⟨q1, rfl, k2⟩)
    case inr =>
      go_wp2
      have HE : F = st1 := by rw [HS.out, if_pos (.inl q1)]
      exact ⟨rfl, ends_bad (by rw [HE]; exact q1) (by rw [HE]; exact ho1.2.2.trans h.nf) (F1.below.trans (k2.below (by have := h.lt; omega) (fun k _ h => by omega)))⟩
    case inl =>
    have h2 : Pg w2 s R limit st1 ov' := h.read k2 r2 hpl' ho1.1 q1 (ho1.2.2.trans h.nf)
    have F2 := F1.trans (FrP.ofKp (by have := h.lt; omega) k2)
    have S2 := S1.read k2
    have hx0 := hrg.1
    have hmp1 := hmp q1
    have HO1 : Hid (st1.out.length + 258 ≤ 258 * st1.pos) := by have := HO.out; show _ ≤ _; rw [ho1.1]; omega
    obtain ⟨e0', e1', e2', ez', elt'⟩ := tcells S2.sx
    clear k2 r2 h F1 S1 HO HF hrd hmp hrg ho1 d0 d1 d2 d3 d4 d5 dz dlt e0 e1 e2 ez elt
    by_cases hx256 : x = 256
    · have HE : Hid (F = st1) := by show _ = _; rw [HS.out, if_pos (.inr hx256)]
      subst hx256
      go_wp2
      go_end0
      exact .inl ⟨by rw [HE.out]; exact q1, by rw [HE.out]; exact h2.nf, rfl, ⟨ov', by rw [HE.out]; exact h2⟩, F2⟩
    · rw [if_neg (by rw [q1]; simp; exact hx256)] at HS
      by_cases hxl : x < 256
      · rw [if_pos hxl] at HS
        obtain ⟨y, hy⟩ : ∃ y : UInt8, y = UInt8.ofNat x.toNat := ⟨_, rfl⟩
        have hyx : (y.toNat : Int) = x := by rw [hy]; simp; omega
        rw [← hy] at HS
        have wu : IntKind.u8.wrap x = (y.toNat : Int) := by rw [IntKind.wrap_u8, hyx]; omega
        have HL3 : Hid (st1.out.length ≤ 3000000000) := by have := HO1.out; show _ ≤ _; omega
        have HS1 : Hid (F = _) := HS.out
        clear hy hyx HS
        go_wp2_with fail
        refine (put56 y s R limit st1 ov' _ h2 HL3).mono ?_
        rintro e w3 (⟨q3, rfl, ⟨ov3, h3⟩, F3⟩ | ⟨q3, rfl, F3⟩)
        case inr =>
          go_wp2
          have HE : F = { st1 with full := true } := by rw [HS1.out, q3]; simp only [Bool.false_eq_true, if_false]; exact symsF_stop _ _ _ _ _ _ _ _ (by simp)
          exact ⟨rfl, .inr ⟨by rw [HE]; simp, by rw [HE]; rfl, F2.below.trans F3⟩⟩
        case inl =>
        have HS2 : Hid (F = Rf.symsF (lw s) limit ls (Rf.codes ls) far (Rf.codes far) f { st1 with out := st1.out ++ [y] }) := by show _ = _; rw [HS1.out, q3]; rfl
        have S3 := S2.kept F3
        have F4 := F2.trans F3
        clear q3 HS1 h2 F2 S2 F3 e0' e1' e2' ez' elt' wu
        go_wp2
        go_roundw
        case rel => exact ⟨f, _, ov3, h3, F4, S3, HS2, by show _ ≤ f + st1.pos; omega, by show _ ≤ _; rw [List.length_append]; have := HO1.out; simp; omega⟩
        case measure => rw [h3.rd.posR, hposW.out]; show 8 * s.size - st1.pos < _; omega
      · rw [if_neg hxl] at HS
        by_cases hxg : 285 < x
        · rw [if_pos hxg] at HS
          have HE : Hid (F = { st1 with bad := true }) := by show _ = _; rw [HS.out]; exact symsF_stop _ _ _ _ _ _ _ _ (by simp)
          go_wp2
          exact ⟨rfl, ends_bad (by rw [HE.out]) (by rw [HE.out]; exact h2.nf) F2.below⟩
        · rw [if_neg hxg] at HS
          have hx257 : 257 ≤ x := by omega
          have hxle : x ≤ 285 := by omega
          have hLo := Rf.lenOf_le (lw_bits s) (x - 257).toNat (by omega) st1
          have hLp : (Rf.lenOf (lw s) (x - 257).toNat st1).2.pos ≤ 8 * s.size ∧ (Rf.lenOf (lw s) (x - 257).toNat st1).2.full = st1.full := by
            rw [lenOf_eq (lw s) x hx257 hxle st1 (by rw [lw_length]; exact hpl')]
            have h9 := Rf.take_pos (lw s) st1 (le' x) (by rw [lw_length]; exact hpl')
            rw [lw_length] at h9
            exact ⟨h9, (Rf.take_out (lw s) st1 (le' x)).2.2⟩
          have hwl := wlen66 x s R st1 w2 hx257 hxle h2.rd hs h2.hp q1
          have hco := copied_of (lw s) limit (x - 257).toNat far (Rf.codes far) st1
          generalize Rf.lenOf (lw s) (x - 257).toNat st1 = LN at *
          obtain ⟨N, st2⟩ := LN
          simp only at hLo hLp hwl hco
          have hc2 := hco st2 (Rf.symbol (lw s) far (Rf.codes far) st2).2 (Rf.distOf (lw s) (Rf.symbol (lw s) far (Rf.codes far) st2).1.toNat (Rf.symbol (lw s) far (Rf.codes far) st2).2).2 N (Rf.distOf (lw s) (Rf.symbol (lw s) far (Rf.codes far) st2).1.toNat (Rf.symbol (lw s) far (Rf.codes far) st2).2).1 (Rf.symbol (lw s) far (Rf.codes far) st2).1 rfl rfl rfl
          clear hco
          have halk := hal st2
          have hsr := Rf.symbol_range (lw s) far (Rf.codes far) st2
          have hso := Rf.symbol_out (lw s) far (Rf.codes far) st2
          have hsm := Rf.symbol_mono (lw s) far (Rf.codes far) st2
          have hsl : (Rf.symbol (lw s) far (Rf.codes far) st2).2.pos ≤ (lw s).length := Rf.symF_le (lw s) far (Rf.codes far) 15 0 0 st2 (by rw [lw_length]; exact hLp.1)
          rw [lw_length] at hsl
          generalize Rf.symbol (lw s) far (Rf.codes far) st2 = SY at *
          obtain ⟨j, st3⟩ := SY
          simp only at halk hsr hso hsm hsl hc2
          have HC : Hid (Rf.copied (lw s) limit (x - 257).toNat far (Rf.codes far) st1 = _) := hc2
          clear hc2
          go_wp2_with fail
          refine hwl.mono ?_
          rintro e w3 (⟨a1, rfl, r3, k3⟩ | ⟨a1, rfl, k3⟩)
          case inr =>
            go_wp2
            have HE : F = st2 := by rw [HS.out, HC.out, if_pos a1]; exact symsF_stop _ _ _ _ _ _ _ _ (by rw [a1]; rfl)
            exact ⟨rfl, ends_bad (by rw [HE]; exact a1) (by rw [HE]; exact hLp.2.trans h2.nf) (F2.below.trans (k3.below (by have := h2.lt; omega) (fun k _ h => by omega)))⟩
          case inl =>
          rw [if_neg (by rw [a1]; decide)] at HC
          have h3 : Pg w3 s R limit st2 ov' := h2.read k3 r3 hLp.1 hLo.2.2 a1 (hLp.2.trans h2.nf)
          have F3 := F2.trans (FrP.ofKp (by have := h2.lt; omega) k3)
          have S3 := S2.read k3
          have hrd2 := read65 M2 s2 l2 farP s R st2 w3 S3.t2 h3.rd (by omega) hs h3.hp a1
          have hal1 := halk a1 h3.hp
          obtain ⟨d0, d1, d2, d3, d4, d5, dz, dlt⟩ := cells6 S3.bx
          have HHL : Hid (N ≤ 258 ∧ st1.pos ≤ st2.pos ∧ st2.out = st1.out) := hLo
          clear k3 r3 h2 F2 S2 halk hwl hLo hLp e0' e1' e2' ez' elt'
          generalize Rf.symbol (lw s) farP (Rf.codes farP) st2 = SP at *
          obtain ⟨jp, stp⟩ := SP
          simp only at hrd2 hal1
          go_wp2_with fail
          refine hrd2.mono ?_
          rintro e w4 (⟨b1, rfl, r4, k4⟩ | ⟨b1, rfl, k4⟩)
          case inr =>
            go_wp2
            have h9 := hal1.2 b1
            have HE : F = { st3 with bad := true } := by rw [HS.out, HC.out, if_pos h9]; exact symsF_stop _ _ _ _ _ _ _ _ (by simp)
            exact ⟨rfl, ends_bad (by rw [HE]) (by rw [HE]; exact hso.2.2.trans h3.nf) (F3.below.trans (k4.below (by have := h3.lt; omega) (fun k _ h => by omega)))⟩
          case inl =>
          obtain ⟨hje, hj29⟩ := hal1.1 b1
          cases hje
          have h4 : Pg w4 s R limit st3 ov' := h3.read k4 r4 hsl hso.1 b1 (hso.2.2.trans h3.nf)
          have F4 := F3.trans (FrP.ofKp (by have := h3.lt; omega) k4)
          have S4 := S3.read k4
          rw [if_neg (by rw [b1]; simp; exact hj29)] at HC
          have hj0 := hsr.1
          have hDr := dist_range s j hj0 hj29 st3 hsl
          have hDl := Rf.distOf_le (lw s) j.toNat st3
          have hDp : (Rf.distOf (lw s) j.toNat st3).2.pos ≤ 8 * s.size ∧ (Rf.distOf (lw s) j.toNat st3).2.full = st3.full := by
            rw [distOf_eq (lw s) j hj0 st3 (by rw [lw_length]; exact hsl)]
            have h9 := Rf.take_pos (lw s) st3 (de j) (by rw [lw_length]; exact hsl)
            rw [lw_length] at h9
            exact ⟨h9, (Rf.take_out (lw s) st3 (de j)).2.2⟩
          have hwd := wdist66 j s R st3 w4 hj0 hj29 h4.rd hs h4.hp b1
          have HSO : Hid (st3.out = st2.out ∧ st2.pos ≤ st3.pos) := ⟨hso.1, hsm⟩
          generalize Rf.distOf (lw s) j.toNat st3 = DD at *
          obtain ⟨D, st4⟩ := DD
          simp only at hDr hDl hDp hwd HC
          clear k4 r4 h3 F3 S3 hal1 hrd2 hso hsm hsr d0 d1 d2 d3 d4 d5 dz dlt
          go_wp2_with fail
          refine hwd.mono ?_
          rintro e w5 (⟨c1, rfl, r5, k5⟩ | ⟨c1, rfl, k5⟩)
          case inr =>
            go_wp2
            have HE : F = { st4 with bad := true } := by rw [HS.out, HC.out, if_pos (.inl c1)]; exact symsF_stop _ _ _ _ _ _ _ _ (by simp)
            exact ⟨rfl, ends_bad (by rw [HE]) (by rw [HE]; exact hDp.2.trans h4.nf) (F4.below.trans (k5.below (by have := h4.lt; omega) (fun k _ h => by omega)))⟩
          case inl =>
          have h5 : Pg w5 s R limit st4 ov' := h4.read k5 r5 hDp.1 hDl.2 c1 (hDp.2.trans h4.nf)
          have F5 := F4.trans (FrP.ofKp (by have := h4.lt; omega) k5)
          have S5 := S4.read k5
          have HOO : Hid (st4.out.length + 258 ≤ 258 * st4.pos ∧ st1.pos ≤ st4.pos) := by
            have a := HO1.out; have b := HHL.out; have c := HSO.out; have d := hDl
            show _ ∧ _
            rw [d.2, c.1, b.2.2]
            omega
          have HL3 : Hid (st4.out.length ≤ 3000000000) := by have := HOO.out.1; have := hDp.1; show _ ≤ _; omega
          have hN := HHL.out.1
          obtain ⟨e0, e1, e2, ez, elt⟩ := tcells S5.sx
          clear k5 r5 h4 F4 S4 hwd hDl
          go_wp2_with fail
          refine (again57 N D s R limit st4 ov' _ h5 HL3 hN hDr.1 hDr.2).mono ?_
          rintro e w6 (⟨g1, g2, rfl, ⟨ov6, h6⟩, F6⟩ | ⟨g1, g2, rfl, F6⟩ | ⟨g1, rfl, F6⟩)
          · have HS2 : Hid (F = Rf.symsF (lw s) limit ls (Rf.codes ls) far (Rf.codes far) f { st4 with out := Rf.cpF D N st4.out }) := by
              show _ = _; rw [HS.out, HC.out, if_neg (by rw [c1]; simp; omega), g2]; rfl
            have S6 := S5.kept F6
            have F7 := F5.trans F6
            clear g2 HC HS h5 F5 S5 F6 e0 e1 e2 ez elt
            go_wp2
            go_roundw
            case rel => exact ⟨f, _, ov6, h6, F7, S6, HS2, by show _ ≤ f + st4.pos; have := HOO.out.2; omega, by show (Rf.cpF D N st4.out).length ≤ 258 * st4.pos; rw [Rf.cpF_length]; have := HOO.out.1; omega⟩
            case measure => rw [h6.rd.posR, hposW.out]; show 8 * s.size - st4.pos < _; have := HOO.out.2; omega
          · go_wp2
            have HE : F = { st4 with full := true } := by rw [HS.out, HC.out, if_neg (by rw [c1]; simp; omega), g2]; simp only [Bool.false_eq_true, if_false]; exact symsF_stop _ _ _ _ _ _ _ _ (by simp)
            exact ⟨rfl, .inr ⟨by rw [HE]; simp, by rw [HE]; rfl, F5.below.trans F6⟩⟩
          · go_wp2
            have HE : F = { st4 with bad := true } := by rw [HS.out, HC.out, if_pos (.inr g1)]; exact symsF_stop _ _ _ _ _ _ _ _ (by simp)
            exact ⟨rfl, ends_bad (by rw [HE]) (by rw [HE]; exact h5.nf) (F5.below.trans F6)⟩

end Go.Proofs.Ytmfijackgekioaa
