import Derived.Test.YtmfijackgekioaaGreatDoorQRh
import Derived.Deep.RegionHeld3
import Derived.Deep.AppendLies
import Derived.Deep.DeepCutAuto
import Derived.Deep.CutBlock
import Derived.Deep.RegionLaw

namespace Go.Proofs.YtmfijackgekioaaGreatDoor
open Go.RowKit

/- The head of a copy: its length. -/
theorem pow5 (e : Nat) (h : e ≤ 13) : (1 : Int) ≤ 2 ^ e ∧ (2 : Int) ^ e ≤ 8192 := by
  have h1 : (2 : Nat) ^ 0 ≤ 2 ^ e := Nat.pow_le_pow_right (by omega) (by omega)
  have h2 : (2 : Nat) ^ e ≤ 2 ^ 13 := Nat.pow_le_pow_right (by omega) (by omega)
  have e' : ((2 : Int) ^ e) = ((2 ^ e : Nat) : Int) := by simp
  rw [e']
  omega

theorem int_eq {a b : Int} (h : a = b) : Value.int .i64 a = Value.int .i64 b := by rw [h]
theorem len_small : ∀ i : Nat, i < 28 → 8 ≤ i → (4 + i % 4) * 2 ^ (i / 4 - 1) + 2 ^ (i / 4 - 1) ≤ 256 := by decide +kernel
theorem dist_small : ∀ j : Nat, j < 30 → 4 ≤ j → (2 + j % 2) * 2 ^ (j / 2 - 1) + 2 ^ (j / 2 - 1) ≤ 32768 := by decide +kernel
theorem pow_cast (e : Nat) : ((2 : Int) ^ e) = ((2 ^ e : Nat) : Int) := by simp

set_option maxRecDepth 100000 in
set_option maxHeartbeats 16000000 in
theorem copied46 (a1 a2 : Option Addr) (c1 c2 n i B : Nat) (far cd L : List Int) (ao : Option Addr) (cap : Nat) (limit : Int) (st : Rf.St) (ov kv : Value) (w : World) (hr : Rep w B L ao cap limit st ov kv)
    (hi28 : i ≤ 28) (hl1 : far.length = n) (hl2 : cd.length = n) (hn : n ≤ 320) (hA1 : Apart w B a1 far) (hA2 : Apart w B a2 cd) (hout : Hid (st.out.length ≤ 11000000000)) (_hnb : st.bad = false) :
    Calls Tryz.prog 113 #[.pointer (some ⟨B, 0, none⟩), .int .i64 ((i : Int) + 257), .slice a1 n c1, .slice a2 n c2] w
      fun e w' => e = .returned (.tuple #[]) ∧ (∃ ov', Rep w' B L ao cap limit (Rf.copied L limit i far cd st) ov' kv) ∧ Fr B w w' := by
  obtain ⟨i0, hi, hz0, hz1, hz2⟩ := info_parts Tryz.info5
  obtain ⟨c0, c1', c2', c3, c4, c5, c6, fz⟩ := hr.cells
  have hbits := hr.hb
  have hlt := hr.lt
  have hinv : Hid ((Rf.lenOf L i st).2.out = st.out) := by
    show _ = _; unfold Rf.lenOf; repeat' split
    all_goals first | rfl | exact (Rf.take_out L st _).1
  rw [_hnb] at c3
  go_enter Tryz.func113, Tryz.ntmps113
  go_upto_block 0 with fail
  go_cut [9] (fun s9 wc => ∃ (N : Nat) (st1 : Rf.St), s9 = .int .i64 N ∧ N ≤ 258 ∧ Rep wc B L ao cap limit st1 ov kv ∧ Kp (· = B) w wc ∧ Hid (Rf.lenOf L i st = (N, st1)))
  case first =>
    rcases (show i = 28 ∨ (8 ≤ i ∧ i ≠ 28) ∨ i < 8 by omega) with h | ⟨h, hne⟩ | h
    · have hne' : ((i : Int) == 28) = true := beq_iff_eq.2 (by omega)
      have HL : Hid (Rf.lenOf L i st = (258, st)) := by subst h; rfl
      clear h
      go_wp2_with fail
      go_meet
      case rel => exact ⟨258, st, rfl, by omega, hr, Kp.refl _ _, HL⟩
    · have HL : Hid (Rf.lenOf L i st = ((4 + i % 4) * 2 ^ (i / 4 - 1) + 3 + (Rf.take L st (i / 4 - 1)).1.toNat, (Rf.take L st (i / 4 - 1)).2)) := by show _ = _; rw [Rf.lenOf, if_neg hne, if_pos h]
      have hne' : ((i : Int) == 28) = false := beq_eq_false_iff_ne.2 (by omega)
      go_wp2_with fail
      rw [show ((i : Int) / 4 - 1) = ((i / 4 - 1 : Nat) : Int) by omega]
      refine (take23 (i / 4 - 1) B L ao cap limit st ov kv _ hr (by omega)).mono ?_
      rintro e w1 ⟨rfl, r1, k1⟩
      have htr := Rf.take_range hbits st (i / 4 - 1)
      have hsm := len_small i (by omega) h
      have hp2 : 1 ≤ 2 ^ (i / 4 - 1) := Nat.one_le_two_pow
      obtain ⟨M, hM⟩ : ∃ M : Nat, M = (4 + i % 4) * 2 ^ (i / 4 - 1) := ⟨_, rfl⟩
      have HM : Hid (((4 + (i : Int) % 4) * 2 ^ (i / 4 - 1)) = (M : Int)) := by show _ = _; rw [hM]; simp
      rw [pow_cast] at htr
      rw [← hM] at HL hsm
      generalize Rf.take L st (i / 4 - 1) = TK at *
      obtain ⟨x, st1⟩ := TK
      simp only at r1 htr HL ⊢
      obtain ⟨t, rfl⟩ := Int.eq_ofNat_of_zero_le htr.1
      rw [Int.toNat_natCast] at HL
      have hx : M + t ≤ 255 := by omega
      clear hM hsm htr hp2
      go_wp2_with fail
      go_meet
      case rel =>
        refine ⟨M + 3 + t, st1, int_eq ?_, by omega, r1, k1, HL⟩
        rw [HM.out, IntWalk.wrap64_in (M : Int) (by omega), IntWalk.wrap64_in ((M : Int) + 3) (by omega), IntWalk.wrap64_in ((M : Int) + 3 + t) (by omega)]
        omega
    · have HL : Hid (Rf.lenOf L i st = (i + 3, st)) := by show _ = _; rw [Rf.lenOf, if_neg (by omega), if_neg (by omega)]
      have hne' : ((i : Int) == 28) = false := beq_eq_false_iff_ne.2 (by omega)
      go_wp2_with fail
      go_meet
      case rel => exact ⟨i + 3, st, by go_num, by omega, hr, Kp.refl _ _, HL⟩
  case rest =>
    obtain ⟨N, st1, rfl, hN, r1, k1, HL⟩ := hcut
    clear c0 c1' c2' c3 c4 c5 c6 fz
    obtain ⟨d0, d1, d2, d3, d4, d5, d6, fz⟩ := r1.cells
    have HO1 : Hid (st1.out.length ≤ 11000000000) := by
      have h1 := hinv.out; rw [HL.out] at h1
      show _ ≤ _; rw [show st1.out = st.out from h1]; exact hout.out
    obtain ⟨CP, hCP⟩ : ∃ CP, CP = Rf.copied L limit i far cd st := ⟨_, rfl⟩
    have HQ : Hid (Rf.copied L limit i far cd st = CP) := hCP.symm
    unfold Rf.copied at hCP
    rw [HL.out] at hCP
    simp only at hCP
    have HP : Hid (CP = _) := hCP
    clear hCP HL hinv hr hout
    have A1 := hA1.later k1
    have A2 := hA2.later k1
    clear hA1 hA2
    cases hb1 : st1.bad
    · rw [hb1] at d3
      rw [hb1] at HP
      simp only [Bool.false_eq_true, if_false] at HP
      go_wp2_with fail
      refine (symbol45 a1 a2 c1 c2 n B far cd L ao cap limit st1 ov kv _ r1 hl1 hl2 hn A1 A2).mono ?_
      rintro e w2 ⟨rfl, r2, k2⟩
      have kp2 := k1.trans k2
      have hsr := Rf.symbol_range L far cd st1
      have hso := (Rf.symbol_out L far cd st1).1
      have HO2 : Hid ((Rf.symbol L far cd st1).2.out.length ≤ 11000000000) := by show _ ≤ _; rw [hso]; exact HO1.out
      clear d0 d1 d2 d3 d4 d5 d6 fz r1 k1 k2 A1 A2 HO1 hso
      generalize Rf.symbol L far cd st1 = SY at *
      obtain ⟨j, st2⟩ := SY
      simp only at r2 hsr HP HO2 ⊢
      obtain ⟨d0, d1, d2, d3, d4, d5, d6, fz⟩ := r2.cells
      by_cases hbj : st2.bad = true ∨ 29 < j
      · rw [if_pos hbj] at HP
        have HR : Hid (Rep (w2.setCell ⟨B, 3, none⟩ (.bool true)) B L ao cap limit { st2 with bad := true } ov kv) := r2.set 3 (.bool true) _ rfl rfl rfl r2.hpos
        cases hb2 : st2.bad
        · rw [hb2] at d3 hbj
          have hj29 : 29 < j := by simpa using hbj
          go_wp2
          exact bodyPost_ret (results_none rfl _ _ _) rfl ⟨rfl, ⟨ov, by rw [HQ.out, HP.out]; exact HR.out⟩, Fr.ofKp (Nat.le_of_lt hlt) (kp2.set1 _ _)⟩
        · rw [hb2] at d3
          go_wp2
          exact bodyPost_ret (results_none rfl _ _ _) rfl ⟨rfl, ⟨ov, by rw [HQ.out, HP.out]; exact HR.out⟩, Fr.ofKp (Nat.le_of_lt hlt) (kp2.set1 _ _)⟩
      · rw [if_neg hbj] at HP
        have hb2 : st2.bad = false := by cases h : st2.bad <;> simp_all
        have hj29 : j ≤ 29 := by omega
        rw [hb2] at d3
        obtain ⟨jn, rfl⟩ := Int.eq_ofNat_of_zero_le hsr.1
        rw [Int.toNat_natCast] at HP
        clear hbj hsr
        go_upto_if 64 with fail
        go_cut [13] (fun s13 wc => ∃ (D : Nat) (st3 : Rf.St), s13 = .int .i64 D ∧ (1 ≤ D ∧ D ≤ 32768) ∧ Rep wc B L ao cap limit st3 ov kv ∧ Kp (· = B) w wc ∧ Hid (Rf.distOf L jn st2 = (D, st3)))
        case first =>
          by_cases h4 : 4 ≤ jn
          · have HD : Hid (Rf.distOf L jn st2 = ((2 + jn % 2) * 2 ^ (jn / 2 - 1) + 1 + (Rf.take L st2 (jn / 2 - 1)).1.toNat, (Rf.take L st2 (jn / 2 - 1)).2)) := by show _ = _; rw [Rf.distOf, if_pos h4]
            go_wp2_with fail
            rw [show ((jn : Int) / 2 - 1) = ((jn / 2 - 1 : Nat) : Int) by omega]
            refine (take23 (jn / 2 - 1) B L ao cap limit st2 ov kv _ r2 (by omega)).mono ?_
            rintro e w3 ⟨rfl, r3, k3⟩
            have htr := Rf.take_range hbits st2 (jn / 2 - 1)
            have hsm := dist_small jn (by omega) h4
            have hp2 : 1 ≤ 2 ^ (jn / 2 - 1) := Nat.one_le_two_pow
            obtain ⟨M, hM⟩ : ∃ M : Nat, M = (2 + jn % 2) * 2 ^ (jn / 2 - 1) := ⟨_, rfl⟩
            have HM : Hid (((2 + (jn : Int) % 2) * 2 ^ (jn / 2 - 1)) = (M : Int)) := by show _ = _; rw [hM]; simp
            rw [pow_cast] at htr
            rw [← hM] at HD hsm
            generalize Rf.take L st2 (jn / 2 - 1) = TK at *
            obtain ⟨x, st3⟩ := TK
            simp only at r3 htr HD ⊢
            obtain ⟨t, rfl⟩ := Int.eq_ofNat_of_zero_le htr.1
            rw [Int.toNat_natCast] at HD
            have hx : M + t ≤ 32767 := by omega
            have kp3 := kp2.trans k3
            clear hM hsm htr hp2
            go_wp2_with fail
            go_meet
            case rel =>
              refine ⟨M + 1 + t, st3, int_eq ?_, by omega, r3, kp3, HD⟩
              rw [HM.out, IntWalk.wrap64_in (M : Int) (by omega), IntWalk.wrap64_in ((M : Int) + 1) (by omega), IntWalk.wrap64_in ((M : Int) + 1 + t) (by omega)]
              omega
          · have HD : Hid (Rf.distOf L jn st2 = (jn + 1, st2)) := by show _ = _; rw [Rf.distOf, if_neg h4]
            go_wp2_with fail
            go_meet
            case rel => exact ⟨jn + 1, st2, int_eq (by omega), by omega, r2, kp2, HD⟩
        case rest =>
          have hdo : Hid ((Rf.distOf L jn st2).2.out = st2.out) := by
            show _ = _; unfold Rf.distOf; split
            · exact (Rf.take_out L st2 _).1
            · rfl
          obtain ⟨D, st3, rfl, hD, r3, kp3, HD⟩ := hcut
          have HO3 : Hid (st3.out.length ≤ 11000000000) := by
            have h1 := hdo.out; rw [HD.out] at h1
            show _ ≤ _; rw [show st3.out = st2.out from h1]; exact HO2.out
          rw [HD.out] at HP
          simp only at HP
          clear d0 d1 d2 d3 d4 d5 d6 fz r2 kp2 HO2 HD hdo
          obtain ⟨d0, d1, d2, d3, d4, d5, d6, fz⟩ := r3.cells
          obtain ⟨oa, oc, rfl⟩ := own_slice r3.ho
          by_cases hbd : st3.bad = true ∨ st3.out.length < D
          · rw [if_pos hbd] at HP
            have HR : Hid (Rep (wc.setCell ⟨B, 3, none⟩ (.bool true)) B L ao cap limit { st3 with bad := true } (.slice oa st3.out.length oc) kv) := r3.set 3 (.bool true) _ rfl rfl rfl r3.hpos
            cases hb3 : st3.bad
            · rw [hb3] at d3 hbd
              have hDl : st3.out.length < D := by simpa using hbd
              go_wp2
              exact bodyPost_ret (results_none rfl _ _ _) rfl ⟨rfl, ⟨_, by rw [HQ.out, HP.out]; exact HR.out⟩, Fr.ofKp (Nat.le_of_lt hlt) (kp3.set1 _ _)⟩
            · rw [hb3] at d3
              go_wp2
              exact bodyPost_ret (results_none rfl _ _ _) rfl ⟨rfl, ⟨_, by rw [HQ.out, HP.out]; exact HR.out⟩, Fr.ofKp (Nat.le_of_lt hlt) (kp3.set1 _ _)⟩
          · rw [if_neg hbd] at HP
            have hb3 : st3.bad = false := by cases h : st3.bad <;> simp_all
            have hDl : D ≤ st3.out.length := by omega
            rw [hb3] at d3
            clear hbd
            go_wp2_with fail
            refine (room43 N B L ao cap limit st3 _ kv _ r3 (by omega) (by have := HO3.out; omega)).mono ?_
            rintro e w4 ⟨rfl, r4, k4⟩
            have hro := Rf.room_out limit st3 N
            have HO4 : Hid ((Rf.room limit st3 N).2.out.length ≤ 11000000000 ∧ D ≤ (Rf.room limit st3 N).2.out.length) := by show _ ∧ _; rw [hro.1]; exact ⟨HO3.out, hDl⟩
            have f4 := Fr.ofKp (Nat.le_of_lt hlt) (kp3.trans k4)
            clear d0 d1 d2 d3 d4 d5 d6 fz r3 kp3 k4 HO3 hDl hro
            generalize Rf.room limit st3 N = RM at *
            obtain ⟨ok, st4⟩ := RM
            simp only at r4 HP HO4 ⊢
            cases ok
            · simp only [Bool.false_eq_true, if_false] at HP
              go_wp2
              go_loopw [17] (fun i wr => i = .int .i64 0 ∧ wr = w4) (fun _ _ => 0)
              case atStart => exact ⟨rfl, rfl⟩
              case round =>
                obtain ⟨rfl, rfl⟩ := hrel
                go_wp2
                all_goals go_end0
                all_goals exact ⟨rfl, ⟨_, by rw [HQ.out, HP.out]; exact r4⟩, f4⟩
            · simp only [if_true] at HP
              go_wp2
              go_loopw [17] (fun i wr => ∃ (k : Nat) (o : List UInt8) (ov' : Value), k ≤ N ∧ i = .int .i64 k ∧ Rep wr B L ao cap limit { st4 with out := o } ov' kv ∧ Fr B w wr ∧ Hid (Rf.cpF D (N - k) o = Rf.cpF D N st4.out) ∧ Hid (D ≤ o.length ∧ o.length ≤ 11000000000 + k)) (fun i _ => N - (intOf i).toNat)
              case atStart => exact ⟨0, st4.out, _, Nat.zero_le _, rfl, r4, f4, rfl, ⟨HO4.out.2, HO4.out.1⟩⟩
              case round =>
                clear r4 f4 HO4
                obtain ⟨k, o, ov', hk, rfl, r5, f5, HC, HO5⟩ := hrel
                by_cases hkN : k < N
                · obtain ⟨g, oc', rfl, hBg⟩ := own_some r5.ho (show 0 < o.length by have := HO5.out; omega)
                  obtain ⟨d0, d1, d2, d3, d4, d5, d6, fz⟩ := r5.cells
                  obtain ⟨c, hc⟩ : ∃ c : UInt8, c = o.getD (o.length - D) 0 := ⟨_, rfl⟩
                  have hcell : wr.cell? ⟨g, o.length - D, none⟩ = some (.int .u8 c.toNat) := (r5.ho.cellAt (o.length - D) (by have := HO5.out; show _ < o.length * 1; omega)).trans (by rw [hc]; have := HO5.out; simp [List.getD, List.getElem?_eq_getElem (show o.length - D < o.length by omega)])
                  have HC2 : Hid (Rf.cpF D (N - (k + 1)) (o ++ [c]) = Rf.cpF D N st4.out) := by show _ = _; rw [← HC.out, show N - k = (N - (k + 1)) + 1 by omega, Rf.cpF, hc]
                  have HB : Hid (o.length + 1 ≤ maxLen ∧ (o.length + 1) * 1 ≤ 140737488355328) := by have := HO5.out; show _ ∧ _; unfold maxLen; omega
                  have HO6 : Hid (D ≤ (o ++ [c]).length ∧ (o ++ [c]).length ≤ 11000000000 + (k + 1)) := by have := HO5.out; show _ ∧ _; simp; omega
                  have j1 : (0 : Int) ≤ (o.length : Int) - (D : Int) := by have := HO5.out; omega
                  have j2 : (o.length : Int) - (D : Int) < (o.length : Int) := by omega
                  have j3 : (o.length : Int) ≤ 4611686018427387904 := by have := HO5.out; omega
                  have wrp : IntKind.i64.wrap ((o.length : Int) - (D : Int)) = ((o.length - D : Nat) : Int) := by rw [IntWalk.i64_in _ (by have := HO5.out; omega)]; have := HO5.out; omega
                  have j4 : ((o.length - D : Nat) : Int) < (o.length : Int) := by have := HO5.out; omega
                  have hl5 := r5.lt
                  have hg5 := (r5.ho.lt g rfl).2
                  clear hc HC HO5
                  go_wp2
                  go_region_law ((refine step_append_lies _ (by rfl) _ _ _ (by rfl) (B + 1) 5 i0 _ 1 1 Tryz.underlying107 hi hz0 hz1 hz2 rfl (by omega) (.slice (some ⟨g, 0, none⟩) o.length oc') o.length (o.map byteV) (by rfl) ((r5.ho.alloc _).drew) ⟨wr.heap.size, 0, none⟩ 1 1 [.int .u8 c.toNat] (by rfl) (by rfl) (World.news_of_block (cs := #[.int .u8 c.toNat]) (t := 5) (fr := (0, 0)) (heap_alloc_new wr _)) (by simp [Value.oneCell']) (by omega) HB.out.1 HB.out.2 (by simp; omega) (wr.heap.size + 1) (by simp) ?_; intro gg cp w6 hown' hgrow hat hlt6; obtain ⟨q1, q2, _⟩ := r5.grown (.cells #[.int .u8 c.toNat] 5) ⟨hgrow.os, hgrow.tape, hgrow.output, hgrow.size, hgrow.block⟩))
                  all_goals have R7 := r5.push (.cells #[.int .u8 c.toNat] 5) c hown' ⟨hgrow.os, hgrow.tape, hgrow.output, hgrow.size, hgrow.block⟩
                  all_goals clear hown' hgrow r5 hcell d0 d1 d2 d3 d4 d5 d6 fz wrp
                  all_goals go_wp2
                  all_goals go_roundw
                  all_goals first
                    | exact ⟨k + 1, by omega, by omega, o ++ [c], ⟨_, R7.1⟩, f5.trans R7.2, HC2, HO6⟩
                    | (simp [intOf]; omega)
                · have hkk : k = N := by omega
                  subst hkk
                  have HE : Hid (o = Rf.cpF D k st4.out) := by show _ = _; rw [← HC.out, Nat.sub_self]; rfl
                  go_wp2
                  go_end0
                  exact ⟨rfl, ⟨_, by rw [HQ.out, HP.out, ← HE.out]; exact r5⟩, f5⟩
    · rw [hb1] at d3
      rw [hb1] at HP
      simp only [if_true] at HP
      go_wp2
      exact bodyPost_ret (results_none rfl _ _ _) rfl ⟨rfl, ⟨ov, by rw [HQ.out, HP.out]; exact r1⟩, Fr.ofKp (Nat.le_of_lt hlt) k1⟩

end Go.Proofs.YtmfijackgekioaaGreatDoor
