import Derived.Test.YtmfijackgekioaaGreatDoorQRk
import Derived.Test.YtmfijackgekioaaGreatDoorQSmRo4
import Derived.Test.YtmfijackgekioaaGreatDoorQRbRj3

namespace Go.Proofs.YtmfijackgekioaaGreatDoor
open Go.RowKit

/-- Where the reader stands, read off the world. -/
def posW (B : Nat) (w : World) : Nat := (intOf ((w.cell? ⟨B, 1, none⟩).getD undef)).toNat
theorem Rep.posW {w : World} {B : Nat} {L : List Int} {ao : Option Addr} {cap : Nat} {limit : Int} {st : Rf.St} {ov kv : Value} (h : Rep w B L ao cap limit st ov kv) : posW B w = st.pos := by
  unfold Go.Proofs.YtmfijackgekioaaGreatDoor.posW
  rw [h.cells.2.1]
  simp [intOf]

theorem copied_s (s : Int) (a1 a2 : Option Addr) (c1 c2 n i B : Nat) (far cd L : List Int) (ao : Option Addr) (cap : Nat) (limit : Int) (st : Rf.St) (ov kv : Value) (w : World) (hr : Rep w B L ao cap limit st ov kv)
    (hi28 : i ≤ 28) (hl1 : far.length = n) (hl2 : cd.length = n) (hn : n ≤ 320) (hA1 : Apart w B a1 far) (hA2 : Apart w B a2 cd) (hout : Hid (st.out.length ≤ 11000000000)) (hnb : st.bad = false) (hs : s = (i : Int) + 257) :
    Calls Tryz.prog 113 #[.pointer (some ⟨B, 0, none⟩), .int .i64 s, .slice a1 n c1, .slice a2 n c2] w
      fun e w' => e = .returned (.tuple #[]) ∧ (∃ ov', Rep w' B L ao cap limit (Rf.copied L limit i far cd st) ov' kv) ∧ Fr B w w' := by
  subst hs
  exact copied46 a1 a2 c1 c2 n i B far cd L ao cap limit st ov kv w hr hi28 hl1 hl2 hn hA1 hA2 hout hnb

set_option maxRecDepth 100000 in
set_option maxHeartbeats 8000000 in
theorem symbols26 (a1 a2 : Option Addr) (c1 c2 n1 n2 B : Nat) (ls far L : List Int) (ao : Option Addr) (cap : Nat) (limit : Int) (st : Rf.St) (ov kv : Value) (w : World) (hr : Rep w B L ao cap limit st ov kv)
    (hl1 : ls.length = n1) (hl2 : far.length = n2) (hn1 : n1 ≤ 320) (hn2 : n2 ≤ 320) (hF1 : Far w B a1 ls) (hF2 : Far w B a2 far) (hout : Hid (st.out.length ≤ 258 * st.pos)) :
    Calls Tryz.prog 82 #[.pointer (some ⟨B, 0, none⟩), .slice a1 n1 c1, .slice a2 n2 c2] w
      fun e w' => e = .returned (.tuple #[]) ∧ (∃ ov', Rep w' B L ao cap limit (Rf.symbols L limit ls far st) ov' kv) ∧ Fr B w w' := by
  obtain ⟨i0, hi, hz0, hz1, hz2⟩ := info_parts Tryz.info5
  have hlt := hr.lt
  have hbits := hr.hb
  go_enter Tryz.func82, Tryz.ntmps82
  go_wp2_with fail
  refine (codes44 a1 c1 ls n1 _ hl1 hn1 hF1.ints (fun a e e2 => (hF1.apart.ne a e e2).2)).mono ?_
  rintro e w1 ⟨rfl, q1, b1⟩
  have r1 := hr.later b1
  have f1 := Fr.ofBelow b1 (Nat.le_of_lt hlt)
  have G1 := hF1.later f1
  have G2 := hF2.later f1
  have G3 : Far w1 B (some ⟨w.heap.size, 0, none⟩) (Rf.codes ls) := Far.ofLst q1 (Nat.ne_of_gt hlt)
  have hlt1 := r1.lt
  clear hF1 hF2 q1 b1 hr
  go_wp2_with fail
  refine (codes44 a2 c2 far n2 _ hl2 hn2 G2.ints (fun a e e2 => (G2.apart.ne a e e2).2)).mono ?_
  rintro e w2 ⟨rfl, q2, b2⟩
  have r2 := r1.later b2
  have f2 := Fr.ofBelow b2 (Nat.le_of_lt hlt1)
  have f12 := f1.trans f2
  have K1 := G1.later f2
  have K2 := G2.later f2
  have K3 := G3.later f2
  have K4 : Far w2 B (some ⟨w1.heap.size, 0, none⟩) (Rf.codes far) := Far.ofLst q2 (Nat.ne_of_gt hlt1)
  clear G1 G2 G3 q2 b2 r1 f1 f2
  have hcl1 : (Rf.codes ls).length = n1 := by rw [Rf.codes_length, hl1]
  have hcl2 : (Rf.codes far).length = n2 := by rw [Rf.codes_length, hl2]
  have HQ : Hid (Rf.symbols L limit ls far st = Rf.symsF L limit ls (Rf.codes ls) far (Rf.codes far) (L.length + 2) st) := rfl
  generalize Rf.codes ls = cd at *
  generalize Rf.codes far = fcd at *
  obtain ⟨RES, hRES⟩ : ∃ RES, RES = Rf.symsF L limit ls cd far fcd (L.length + 2) st := ⟨_, rfl⟩
  rw [← hRES] at HQ
  go_wp2
  go_loopw [8] (fun _ wr => ∃ (f : Nat) (st' : Rf.St) (ov' : Value), Rep wr B L ao cap limit st' ov' kv ∧ Fr B w2 wr ∧ Hid (RES = Rf.symsF L limit ls cd far fcd f st') ∧ L.length + 2 ≤ f + st'.pos ∧ Hid (st'.out.length ≤ 258 * st'.pos)) (fun _ wr => L.length - posW B wr)
  case atStart => exact ⟨L.length + 2, st, ov, r2, Fr.refl _ _, hRES, by omega, hout⟩
  case round =>
    clear hRES r2 hout
    obtain ⟨f, st', ov', r3, f3, HF, hfu, HO⟩ := hrel
    have hp3 := r3.hpos
    have hl3 := r3.hlen
    obtain ⟨f, rfl⟩ : ∃ g, f = g + 1 := ⟨f - 1, by omega⟩
    go_wp2_with fail
    refine (stopped22 B L ao cap limit st' ov' kv _ r3).mono ?_
    rintro e w3 ⟨rfl, rfl⟩
    cases hst : (st'.bad || st'.full)
    · have HF2 : Hid (RES = _) := HF.out.trans (by rw [Rf.symsF, if_neg (by rw [hst]; decide)])
      have J1 := K1.later f3
      have J3 := K3.later f3
      go_wp2_with fail
      refine (symbol45 a1 _ c1 n1 n1 B ls cd L ao cap limit st' ov' kv _ r3 hl1 hcl1 hn1 J1.apart J3.apart).mono ?_
      rintro e w4 ⟨rfl, r4, k4⟩
      have f4 := f3.trans (Fr.ofKp (Nat.le_of_lt r3.lt) k4)
      have hsr := Rf.symbol_range L ls cd st'
      have hsp := Rf.symbol_pos L ls cd st'
      have hso := (Rf.symbol_out L ls cd st').1
      have HO4 : Hid ((Rf.symbol L ls cd st').2.out.length ≤ 258 * st'.pos) := by show _ ≤ _; rw [hso]; exact HO.out
      have hposw := r3.posW
      clear r3 f3 HF HO J1 J3 k4 hso
      generalize Rf.symbol L ls cd st' = SY at *
      obtain ⟨s, st4⟩ := SY
      simp only at r4 hsr hsp HF2 HO4 ⊢
      obtain ⟨d0, d1, d2, d3, d4, d5, d6, fz⟩ := r4.cells
      by_cases hbs : st4.bad = true ∨ s = 256
      · rw [if_pos hbs] at HF2
        cases hb4 : st4.bad
        · rw [hb4] at d3 hbs
          have hs6 : s = 256 := by simpa using hbs
          have hs6' : (s == 256) = true := beq_iff_eq.2 hs6
          clear hbs hs6 hposw
          go_wp2
          exact bodyPost_ret (results_none rfl _ _ _) rfl ⟨rfl, ⟨_, by rw [HQ.out, HF2.out]; exact r4⟩, f12.trans f4⟩
        · rw [hb4] at d3
          clear hposw
          go_wp2
          exact bodyPost_ret (results_none rfl _ _ _) rfl ⟨rfl, ⟨_, by rw [HQ.out, HF2.out]; exact r4⟩, f12.trans f4⟩
      · rw [if_neg hbs] at HF2
        have hb4 : st4.bad = false := by cases h : st4.bad <;> simp_all
        have hs6' : (s == 256) = false := beq_eq_false_iff_ne.2 (fun h => hbs (.inr h))
        have hs6 : s ≠ 256 := fun h => hbs (.inr h)
        rw [hb4] at d3
        have hpos4 := hsp hb4
        have hs0 := hsr.1
        have hs320 : s < 320 := by have := hsr.2 hb4; omega
        have hle4 := r4.hpos
        clear hsr hsp hbs
        have HPW := hidden hposw
        clear hposw
        by_cases hs : s < 256
        · rw [if_pos hs] at HF2
          have hl4 := r4.lt
          have HL4 : Hid (st4.out.length ≤ 4611686018427387904) := by have := HO4.out; show _ ≤ _; omega
          go_wp2_with fail
          refine (room43 1 B L ao cap limit st4 ov' kv _ r4 (by omega) HL4.out).mono ?_
          rintro e w5 ⟨rfl, r5, k5⟩
          have f5 := f4.trans (Fr.ofKp (Nat.le_of_lt hl4) k5)
          have hro := Rf.room_out limit st4 1
          have HRO := hidden hro
          clear hro d0 d1 d2 d3 d4 d5 d6 fz r4 f4 k5
          generalize Rf.room limit st4 1 = RM at *
          obtain ⟨ok, st5⟩ := RM
          simp only at r5 HF2 HRO ⊢
          cases ok
          · simp only [Bool.false_eq_true, if_false] at HF2
            go_wp2
            go_roundw
            case rel => exact ⟨f, st5, ov', r5, f5, HF2, by have := HRO.out.2.2.1; omega, by have h1 := HRO.out; have := HO4.out; show _ ≤ _; rw [h1.1, h1.2.2.1]; omega⟩
            case measure => rw [r5.posW, HPW.out, HRO.out.2.2.1]; omega
          · simp only [if_true] at HF2
            obtain ⟨d0, d1, d2, d3, d4, d5, d6, fz⟩ := r5.cells
            have hl5 := r5.lt
            have HB : Hid (st5.out.length + 1 ≤ maxLen ∧ (st5.out.length + 1) * 1 ≤ 140737488355328) := by have h1 := HRO.out.1; have := HO4.out; show _ ∧ _; unfold maxLen; rw [h1]; omega
            obtain ⟨oa, oc, rfl⟩ := own_slice r5.ho
            go_wp2_with (at_builtin; refine wpList_append_own _ rfl _ _ 107 rfl (B + 1) 5 i0 (.int .u8 0) 1 1 Tryz.underlying107 hi hz0 hz1 hz2 rfl (by decide) _ _ _ rfl (r5.ho.alloc _) ⟨w5.heap.size, 0, none⟩ 1 1 [.int .u8 s] rfl rfl (cell_one_new _ _ _) (by intro u hu; simp at hu; subst hu; rfl) HB.out.1 HB.out.2 (by simp; omega) ?_; intro v' w6 hown' hgrow _; obtain ⟨q1, q2, _⟩ := r5.grown _ hgrow; obtain ⟨oa', oc', rfl⟩ := own_slice hown')
            have R7 := r5.push (.cells #[.int .u8 s] 5) (UInt8.ofNat s.toNat) (by rw [byte_of s ⟨hs0, hs⟩]; exact hown') hgrow
            go_roundw
            case rel => exact ⟨f, _, _, R7.1, f5.trans R7.2, HF2, by have := HRO.out.2.2.1; show _ ≤ f + st5.pos; omega, by have h1 := HRO.out; have := HO4.out; show (st5.out ++ [_]).length ≤ 258 * st5.pos; rw [List.length_append, h1.1, h1.2.2.1]; simp; omega⟩
            case measure => rw [R7.1.posW, HPW.out]; show L.length - st5.pos < _; rw [HRO.out.2.2.1]; omega
        · rw [if_neg hs] at HF2
          by_cases hs2 : 285 < s
          · rw [if_pos hs2] at HF2
            have HR : Hid (Rep (w4.setCell ⟨B, 3, none⟩ (.bool true)) B L ao cap limit { st4 with bad := true } ov' kv) := r4.set 3 (.bool true) _ rfl rfl rfl r4.hpos
            have HRf : Hid (Fr B w2 (w4.setCell ⟨B, 3, none⟩ (.bool true))) := f4.trans (Fr.ofKp (Nat.le_of_lt r4.lt) ((Kp.refl _ w4).set1 _ _))
            go_wp2
            go_roundw
            case rel => exact ⟨f, _, _, HR.out, HRf.out, HF2, by show _ ≤ f + st4.pos; omega, by have := HO4.out; show st4.out.length ≤ 258 * st4.pos; omega⟩
            case measure => rw [HR.out.posW, HPW.out]; show L.length - st4.pos < _; omega
          · rw [if_neg hs2] at HF2
            obtain ⟨i, hi'⟩ : ∃ i, i = (s - 257).toNat := ⟨_, rfl⟩
            rw [← hi'] at HF2
            have HSI : Hid (s = (i : Int) + 257) := by show _ = _; omega
            have hi28 : i ≤ 28 := by omega
            clear hi'
            have J2 := K2.later f4
            have J4 := K4.later f4
            have HCL := hidden (Rf.copied_le hbits limit i hi28 far fcd st4)
            go_wp2_with fail
            refine (copied_s s a2 _ c2 n2 n2 i B far fcd L ao cap limit st4 ov' kv _ r4 hi28 hl2 hcl2 hn2 J2.apart J4.apart (by have := HO4.out; show _ ≤ _; omega) hb4 HSI.out).mono ?_
            rintro e w5 ⟨rfl, ⟨ov5, r5⟩, f5⟩
            have f6 := f4.trans f5
            go_wp2
            go_roundw
            case rel => exact ⟨f, _, ov5, r5, f6, HF2, by have := HCL.out; omega, by have := HCL.out; have := HO4.out; show _ ≤ _; omega⟩
            case measure => rw [r5.posW, HPW.out]; have := HCL.out; have := r5.hpos; omega
    · have HF2 : Hid (RES = st') := by show _ = _; rw [HF.out, Rf.symsF, if_pos hst]
      go_wp2
      go_end0
      exact ⟨rfl, ⟨_, by rw [HQ.out, HF2.out]; exact r3⟩, f12.trans f3⟩

end Go.Proofs.YtmfijackgekioaaGreatDoor

namespace Go.Proofs.YtmfijackgekioaaGreatDoor
open Go.RowKit

theorem i64_and1R (n : Int) : bits .and .i64 n 1 = n % 2 := by
  have h1 : (BitVec.ofInt 64 1).toNat = 2 ^ 1 - 1 := by decide
  have key : (BitVec.ofInt 64 n &&& BitVec.ofInt 64 1).toNat = (n % ((2 ^ 64 : Nat) : Int)).toNat % 2 ^ 1 := by
    rw [BitVec.toNat_and, BitVec.toNat_ofInt, h1, Nat.and_two_pow_sub_one_eq_mod]
  show IntKind.i64.wrap ((BitVec.ofInt 64 n &&& BitVec.ofInt 64 1).toNat : Nat) = n % 2
  rw [key, IntKind.wrap_i64]
  omega
theorem and_one (a j : Nat) : bits .and .i64 ((a : Int) / 2 ^ j) 1 = ((a / 2 ^ j % 2 : Nat) : Int) := by
  rw [i64_and1R]
  simp

set_option maxRecDepth 100000 in
set_option maxHeartbeats 400000 in
theorem low21 (s : ByteArray) (w : World) (hs : s.size ≤ 5000000) :
    Calls Tryz.prog 77 #[.string s] w fun e w' => ∃ v, e = .returned v ∧ w'.ownsRow w.heap.size 3 1 v (8 * s.size) ((Mx.low s.data.toList).map (Value.int .i64)) ∧ Below w.heap.size w w' := by
  obtain ⟨i0, hi, hz0, hz1, hz2⟩ := info_parts Tryz.info3
  go_enter Tryz.func77, Tryz.ntmps77
  go_wp2
  go_loopw [3, 4] (fun v i wr => ∃ k : Nat, k ≤ s.size ∧ i = .int .i64 k ∧ wr.ownsRow w.heap.size 3 1 v (8 * k) ((Mx.low (s.data.toList.take k)).map (Value.int .i64)) ∧ Below w.heap.size w wr) (fun _ i _ => s.size - (intOf i).toNat)
  case atStart => exact ⟨0, Nat.zero_le _, rfl, World.ownsRow_nil _ _ _ _, Below.refl _ _⟩
  case round =>
    obtain ⟨k, hk, rfl, hown, hnx⟩ := hrel
    by_cases hlt : k < s.size
    · have hc : (s[k].toNat : Int) < 256 := by have := s[k].toNat_lt; omega
      go_wp2
      go_loopw [3, 5] (fun v i wr => ∃ j : Nat, j ≤ 8 ∧ i = .int .i64 j ∧ wr.ownsRow w.heap.size 3 1 v (8 * k + j) ((Mx.low (s.data.toList.take k) ++ Mx.some s[k] j).map (Value.int .i64)) ∧ Below w.heap.size w wr) (fun _ i _ => 8 - (intOf i).toNat)
      case atStart => exact ⟨0, Nat.zero_le _, rfl, by simpa [Mx.some] using hown, hnx⟩
      case round =>
        obtain ⟨j, hj, rfl, hown, hnx⟩ := hrel
        by_cases hlt' : j < 8
        · obtain ⟨x, hx⟩ : ∃ x : Int, x = ((s[k].toNat / 2 ^ j % 2 : Nat) : Int) := ⟨_, rfl⟩
          have hb : bits .and .i64 ((s[k].toNat : Int) / 2 ^ j) 1 = x := by rw [hx]; exact and_one _ _
          have HX : Hid (x = ((s[k].toNat / 2 ^ j % 2 : Nat) : Int)) := hx
          clear hx
          go_wp2_with (at_builtin; refine wpList_append_own _ rfl _ _ 24 rfl w.heap.size 3 i0 (.int .i64 0) 1 8 Tryz.underlying24 hi hz0 hz1 hz2 rfl (by decide) _ _ _ rfl (hown.alloc _) ⟨wr.heap.size, 0, none⟩ 1 1 [.int .i64 x] rfl rfl ?c1 ?c2 ?c3 ?c4 ?c5 ?_)
          case c1 => exact cell_one_new _ _ _
          case c2 => intro u hu; simp at hu; subst hu; rfl
          case c3 => unfold maxLen; omega
          case c4 => omega
          case c5 => have := hnx.size; simp; omega
          · intro v' w1 hown' hgrow _
            have R : w1.ownsRow w.heap.size 3 1 v' (8 * k + (j + 1)) ((Mx.low (s.data.toList.take k) ++ Mx.some s[k] (j + 1)).map (Value.int .i64)) ∧ Below w.heap.size w w1 := by
              refine ⟨?_, (hnx.alloc hnx.size _).grown hgrow (by have := hnx.size; simp; omega) (fun b hb => (hown.lt b hb).1)⟩
              rw [Mx.some_succ, ← HX.out]
              simpa [Nat.add_assoc] using hown'
            clear hown' hgrow hown hnx
            go_wp2
            go_roundw
            case rel => exact ⟨j + 1, by omega, by go_num, R.1, R.2⟩
            case measure => simp [intOf]; omega
        · have hj8 : j = 8 := by omega
          subst hj8
          go_wp2
          go_roundw
          case rel => exact ⟨k + 1, by omega, by go_num, by rw [Mx.take_snoc s k hlt, Mx.low_snoc]; exact hown, hnx⟩
          case measure => simp [intOf]; omega
    · have hk2 : k = s.size := by omega
      subst hk2
      go_wp2
      go_ret
      exact ⟨_, rfl, by rw [List.take_of_length_le (by simp)] at hown; exact hown, hnx⟩

end Go.Proofs.YtmfijackgekioaaGreatDoor

namespace Go.Proofs.YtmfijackgekioaaGreatDoor
open Go.RowKit

theorem sum_range {far : List Int} (h : Rf.Within far 15) : ∀ k, 0 ≤ Rf.sumF far k ∧ Rf.sumF far k ≤ 15 * k ∧ Rf.onesF far k ≤ k
  | 0 => by simp [Rf.sumF, Rf.onesF]
  | k + 1 => by
    have h1 := sum_range h k
    have h2 := h k
    simp only [Rf.sumF, Rf.onesF]
    split <;> omega

theorem bad_bools (L1 L2 : List Int) (x : Int) (n : Nat) (hx : L1.getD 256 0 = x) (hn : L2.length = n) :
    Rf.badLists L1 L2 = ((x == 0) || !Rf.full L1 || (!Rf.full L2 && ((Rf.sumF L2 n != 0) && ((Rf.sumF L2 n != 1) || (((Rf.onesF L2 n : Nat) : Int) != 1))))) := by
  rw [Rf.badLists, hx, hn]
  generalize Rf.sumF L2 n = s
  generalize Rf.onesF L2 n = o
  have e1 : (((o : Nat) : Int) != 1) = decide (o ≠ 1) := by rw [Bool.eq_iff_iff]; simp; omega
  have e2 : (x == 0) = decide (x = 0) := by rw [Bool.eq_iff_iff]; simp
  have e3 : (s != 0) = decide (s ≠ 0) := by rw [Bool.eq_iff_iff]; simp
  have e4 : (s != 1) = decide (s ≠ 1) := by rw [Bool.eq_iff_iff]; simp
  rw [e1, e2, e3, e4]

theorem listed_s (s : Int) (a1 : Option Addr) (c1 n1 n B : Nat) (ls L : List Int) (ao : Option Addr) (cap : Nat) (limit : Int) (st : Rf.St) (ov kv : Value) (w : World) (hr : Rep w B L ao cap limit st ov kv)
    (hl1 : ls.length = n1) (hn1 : n1 ≤ 19) (hn : n ≤ 320) (hA1 : Apart w B a1 ls) (hs : s = (n : Int)) :
    Calls Tryz.prog 115 #[.pointer (some ⟨B, 0, none⟩), .slice a1 n1 c1, .int .i64 s] w
      fun e w' => ∃ v, e = .returned v ∧ Rep w' B L ao cap limit (Rf.listed L ls n st).2 ov kv ∧ Kp (· = B) w w' ∧
        ((Rf.listed L ls n st).2.bad = false → w'.ownsRow (w.heap.size + 1) 3 1 v n (vals (Rf.listed L ls n st).1) ∧ (Rf.listed L ls n st).1.length = n) := by
  subst hs
  exact listed48 a1 c1 n1 n B ls L ao cap limit st ov kv w hr hl1 hn1 hn hA1

set_option maxRecDepth 100000 in
set_option maxHeartbeats 8000000 in
theorem own27 (B : Nat) (L : List Int) (ao : Option Addr) (cap : Nat) (limit : Int) (st : Rf.St) (ov kv : Value) (w : World) (hr : Rep w B L ao cap limit st ov kv) (hout : Hid (st.out.length ≤ 258 * st.pos)) :
    Calls Tryz.prog 83 #[.pointer (some ⟨B, 0, none⟩)] w
      fun e w' => e = .returned (.tuple #[]) ∧ (∃ ov', Rep w' B L ao cap limit (Rf.own L limit st) ov' kv) ∧ Fr B w w' := by
  obtain ⟨i0, hi, hz0, hz1, hz2⟩ := info_parts Tryz.info3
  have hbits := hr.hb
  have hlt := hr.lt
  obtain ⟨Z, hZ⟩ : ∃ Z : List Value, Z = List.replicate 19 (.int .i64 0) := ⟨_, rfl⟩
  have hmk : ∀ u : World, (Instr.makeSlice 24 (.int .i64 19) (.int .i64 19)).run Tryz.prog u = .ok (.slice (some ⟨u.heap.size, 0, none⟩) 19 19) (u.alloc (.cells Z.toArray 3)) := fun u => make_n 19 (by omega) Z hZ u
  have HZ : Hid (Z = vals (List.replicate 19 0)) := by show _ = _; rw [hZ, vals_replicate]
  clear hZ
  obtain ⟨RES, hRES⟩ : ∃ RES, RES = Rf.own L limit st := ⟨_, rfl⟩
  have HQ : Hid (Rf.own L limit st = RES) := hRES.symm
  unfold Rf.own at hRES
  have HP := hidden hRES
  clear hRES
  go_enter Tryz.func83, Tryz.ntmps83
  go_wp2_with fail
  refine (take23 5 B L ao cap limit st ov kv _ hr (by omega)).mono ?_
  rintro e w1 ⟨rfl, r1, k1⟩
  have hh := Rf.take_range hbits st 5
  have ho1 := (Rf.take_out L st 5).1
  have hm1 := Rf.take_mono L st 5
  have HO1 : Hid ((Rf.take L st 5).2.out.length ≤ 258 * (Rf.take L st 5).2.pos) := by have := hout.out; show _ ≤ _; rw [ho1]; omega
  clear ho1 hm1 hout hr
  generalize Rf.take L st 5 = T1 at *
  obtain ⟨h, st1⟩ := T1
  simp only at r1 hh HP HO1 ⊢
  go_wp2_with fail
  refine (take23 5 B L ao cap limit st1 ov kv _ r1 (by omega)).mono ?_
  rintro e w2 ⟨rfl, r2, k2⟩
  have hd := Rf.take_range hbits st1 5
  have ho1 := (Rf.take_out L st1 5).1
  have hm1 := Rf.take_mono L st1 5
  have HO2 : Hid ((Rf.take L st1 5).2.out.length ≤ 258 * (Rf.take L st1 5).2.pos) := by have := HO1.out; show _ ≤ _; rw [ho1]; omega
  clear ho1 hm1 HO1 r1
  generalize Rf.take L st1 5 = T1 at *
  obtain ⟨d, st2⟩ := T1
  simp only at r2 hd HP HO2 ⊢
  go_wp2_with fail
  refine (take23 4 B L ao cap limit st2 ov kv _ r2 (by omega)).mono ?_
  rintro e w3 ⟨rfl, r3, k3⟩
  have hk := Rf.take_range hbits st2 4
  have ho1 := (Rf.take_out L st2 4).1
  have hm1 := Rf.take_mono L st2 4
  have HO3 : Hid ((Rf.take L st2 4).2.out.length ≤ 258 * (Rf.take L st2 4).2.pos) := by have := HO2.out; show _ ≤ _; rw [ho1]; omega
  have kp := (k1.trans k2).trans k3
  clear ho1 hm1 HO2 r2 k1 k2 k3
  generalize Rf.take L st2 4 = T1 at *
  obtain ⟨k, st3⟩ := T1
  simp only at r3 hk HP HO3 ⊢
  obtain ⟨h, rfl⟩ := Int.eq_ofNat_of_zero_le hh.1
  obtain ⟨d, rfl⟩ := Int.eq_ofNat_of_zero_le hd.1
  obtain ⟨k, rfl⟩ := Int.eq_ofNat_of_zero_le hk.1
  have hh32 : h < 32 := by have := hh.2; omega
  have hd32 : d < 32 := by have := hd.2; omega
  have hk16 : k < 16 := by have := hk.2; omega
  simp only [Int.toNat_natCast] at HP
  clear hh hd hk
  obtain ⟨QQ, hQQ⟩ : ∃ QQ, QQ = Rf.lenF L (k + 4) 0 (List.replicate 19 0) st3 := ⟨_, rfl⟩
  rw [← hQQ] at HP
  have HW : Hid (Rf.Within QQ.1 7 ∧ QQ.1.length = 19) := by
    show _ ∧ _
    rw [hQQ]
    exact ⟨Rf.lenF_within hbits _ _ _ _ (Rf.within_replicate 19 7 (by omega)), (Rf.lenF_length L _ _ _ _).trans (by simp)⟩
  have hlt3 := r3.lt
  have hov : ∀ g, ov.ownBlock = some g → g < w3.heap.size := fun g hg => (r3.ho.lt g hg).2
  have hkv : ∀ g, kv.ownBlock = some g → g < w3.heap.size := fun g hg => (r3.hk.lt g hg).2
  go_upto_block 0 with fail
  go_cut [7] (fun s7 wc => ∃ (ls : List Int) (st4 : Rf.St), QQ = (ls, st4) ∧ Rep wc B L ao cap limit st4 ov kv ∧ Kp (· = B) w3 wc ∧ Lst wc (w3.heap.size + 1) ls ∧ Hid (st4.out.length ≤ 258 * st4.pos))
  case first =>
    go_wp2
    go_loopw [7] (fun v wr => ∃ (i : Nat) (ls : List Int) (st' : Rf.St), v = .int .i64 i ∧ i ≤ k + 4 ∧ ls.length = 19 ∧ Hid (QQ = Rf.lenF L (k + 4 - i) i ls st') ∧ Rep wr B L ao cap limit st' ov kv ∧ Kp (· = B) w3 wr ∧ Lst wr w3.heap.size (Rf.order.map Int.ofNat) ∧ Lst wr (w3.heap.size + 1) ls ∧ Hid (st'.out.length ≤ 258 * st'.pos)) (fun i _ => 20 - (intOf i).toNat)
    case atStart =>
      have hbw : Below w3.heap.size w3 ((w3.alloc (.cells (vals (Rf.order.map Int.ofNat)).toArray 3)).alloc (.cells Z.toArray 3)) := ((Below.refl _ _).alloc (Nat.le_refl _) _).alloc (by simp) _
      have hl2 := blk_new (w3.alloc (.cells (vals (Rf.order.map Int.ofNat)).toArray 3)) (.cells Z.toArray 3)
      rw [show (w3.alloc (.cells (vals (Rf.order.map Int.ofNat)).toArray 3)).heap.size = w3.heap.size + 1 by simp] at hl2
      refine ⟨0, List.replicate 19 0, st3, rfl, by omega, by simp, hQQ, r3.later hbw, Kp.ofBelow hbw, ?_, hl2.trans (by rw [HZ.out]), HO3⟩
      exact (Below.heap_alloc (w3.alloc (.cells (vals (Rf.order.map Int.ofNat)).toArray 3)) _ w3.heap.size (by simp)).trans (blk_new w3 _)
    case round =>
      clear hQQ HZ HO3 hmk r3
      obtain ⟨i, ls, st', rfl, hik, hl19, HF, r4, k4, o4, l4, HO⟩ := hrel
      obtain ⟨d0, d1, d2, d3, d4, d5, d6, fz⟩ := r4.cells
      by_cases hdone : k + 4 ≤ i
      · have HE : Hid (QQ = (ls, st')) := by show _ = _; rw [HF.out, show k + 4 - i = 0 by omega]; rfl
        go_wp2
        go_meet
        case rel => exact ⟨ls, st', HE.out, r4, k4, l4, HO⟩
      · cases hb4 : st'.bad
        · rw [hb4] at d3
          have HF2 : Hid (QQ = Rf.lenF L (k + 4 - (i + 1)) (i + 1) (ls.set (Rf.order.getD i 0) (Rf.take L st' 3).1) (Rf.take L st' 3).2) := by show _ = _; rw [HF.out, show k + 4 - i = (k + 4 - (i + 1)) + 1 by omega, Rf.lenF, if_neg (by rw [hb4]; decide)]
          go_wp2_with fail
          refine (take23 3 B L ao cap limit st' ov kv _ r4 (by omega)).mono ?_
          rintro e w5 ⟨rfl, r5, k5⟩
          have ho1 := (Rf.take_out L st' 3).1
          have hm1 := Rf.take_mono L st' 3
          have HO5 : Hid ((Rf.take L st' 3).2.out.length ≤ 258 * (Rf.take L st' 3).2.pos) := by have := HO.out; show _ ≤ _; rw [ho1]; omega
          have o5 : Lst w5 w3.heap.size (Rf.order.map Int.ofNat) := (k5.block _ (lt_of_block o4) (by omega)).trans o4
          have l5 : Lst w5 (w3.heap.size + 1) ls := (k5.block _ (lt_of_block l4) (by omega)).trans l4
          have kp5 := k4.trans k5
          clear ho1 hm1 HO r4 k4 k5 o4 l4 HF d0 d1 d2 d3 d4 d5 d6 fz
          generalize Rf.take L st' 3 = TK at *
          obtain ⟨x, st5⟩ := TK
          simp only at r5 HF2 HO5 ⊢
          obtain ⟨p, hp⟩ : ∃ p, p = Rf.order.getD i 0 := ⟨_, rfl⟩
          have hp19 : p < 19 := by rw [hp]; exact Rf.order_lt i
          have co : w5.cell? ⟨w3.heap.size, i, none⟩ = some (.int .i64 (p : Int)) := (o5.cell i (by simp [Rf.order]; omega)).trans (by
            rw [hp]
            have hio : i < Rf.order.length := by simp [Rf.order]; omega
            simp [List.getD, List.getElem?_eq_getElem hio])
          rw [← hp] at HF2
          obtain ⟨y, c1⟩ : ∃ y, w5.cell? ⟨w3.heap.size + 1, p, none⟩ = some (.int .i64 y) := ⟨_, l5.cell p (by omega)⟩
          have f1 : w5.frozen? ⟨w3.heap.size + 1, p, none⟩ = false := frozen_of_row w5 _ _ _ _ l5
          have KS : Kp (· = w3.heap.size + 1) w5 (w5.setCell ⟨w3.heap.size + 1, p, none⟩ (.int .i64 x)) := (Kp.refl (· = w3.heap.size + 1) w5).setCell (p := ⟨w3.heap.size + 1, p, none⟩) (.inl rfl) _
          have hsz := kp5.size
          have HR : Hid (Rep (w5.setCell ⟨w3.heap.size + 1, p, none⟩ (.int .i64 x)) B L ao cap limit st5 ov kv) :=
            r5.keep (fun g hg => KS.block g (by omega) (by omega)) (fun g hg => KS.block g (by have := hov g hg; omega) (by have := hov g hg; omega)) (fun g hg => KS.block g (by have := hkv g hg; omega) (by have := hkv g hg; omega))
          have HK : Hid (Kp (· = B) w3 (w5.setCell ⟨w3.heap.size + 1, p, none⟩ (.int .i64 x))) := kp5.setCell (p := ⟨w3.heap.size + 1, p, none⟩) (.inr (Nat.le_succ _)) _
          have HL : Hid (Lst (w5.setCell ⟨w3.heap.size + 1, p, none⟩ (.int .i64 x)) w3.heap.size (Rf.order.map Int.ofNat) ∧ Lst (w5.setCell ⟨w3.heap.size + 1, p, none⟩ (.int .i64 x)) (w3.heap.size + 1) (ls.set p x)) :=
            ⟨(KS.block _ (lt_of_block o5) (by omega)).trans o5, l5.set p x⟩
          have HLN : Hid ((ls.set p x).length = 19) := by show _ = _; simp [hl19]
          clear hp KS r5 kp5 o5 l5
          go_wp2
          go_roundw
          case rel => exact ⟨i + 1, ls.set p x, st5, by go_num, by omega, HLN.out, HF2, HR.out, HK.out, HL.out.1, HL.out.2, HO5⟩
          case measure => simp [intOf]; omega
        · have HE : Hid (QQ = (ls, st')) := by show _ = _; rw [HF.out, show k + 4 - i = (k + 3 - i) + 1 by omega, Rf.lenF, if_pos hb4]
          rw [hb4] at d3
          go_wp2
          go_meet
          case rel => exact ⟨ls, st', HE.out, r4, k4, l4, HO⟩
  case rest =>
    obtain ⟨ls, st4, hq, r4, k4, l4, HO4⟩ := hcut
    clear hQQ HZ hmk r3 HO3
    rw [hq] at HP HW
    simp only at HP HW
    have hl19 := HW.out.2
    have kp4 := kp.trans k4
    clear hq k4 kp
    go_wp2_with fail
    refine (full47 (some ⟨w3.heap.size + 1, 0, none⟩) 19 ls 19 _ hl19 (by omega) l4.ints (fun j => by have := (HW.out.1 j).2; omega)).mono ?_
    rintro e w5 ⟨rfl, rfl⟩
    obtain ⟨d0, d1, d2, d3, d4, d5, d6, fz⟩ := r4.cells
    have HR : Hid (Rep (w5.setCell ⟨B, 3, none⟩ (.bool true)) B L ao cap limit { st4 with bad := true } ov kv) := r4.set 3 (.bool true) _ rfl rfl rfl r4.hpos
    have HRf : Hid (Fr B w (w5.setCell ⟨B, 3, none⟩ (.bool true))) := Fr.ofKp (Nat.le_of_lt hlt) (kp4.set1 _ _)
    obtain ⟨fb, hfb⟩ : ∃ fb, fb = Rf.full ls := ⟨_, rfl⟩
    rw [← hfb] at HP ⊢
    clear hfb
    by_cases hc : st4.bad = true ∨ 29 < (h : Int) ∨ 29 < (d : Int) ∨ fb = false
    · rw [if_pos hc] at HP
      cases hb4 : st4.bad
      · rw [hb4] at d3
        by_cases h1 : 29 < h
        · go_wp2
          exact bodyPost_ret (results_none rfl _ _ _) rfl ⟨rfl, ⟨_, by rw [HQ.out, HP.out]; exact HR.out⟩, HRf.out⟩
        · by_cases h2 : 29 < d
          · go_wp2
            exact bodyPost_ret (results_none rfl _ _ _) rfl ⟨rfl, ⟨_, by rw [HQ.out, HP.out]; exact HR.out⟩, HRf.out⟩
          · have h3 : fb = false := by rw [hb4] at hc; rcases hc with hc | hc | hc | hc <;> first | exact hc | omega | cases hc
            subst h3
            go_wp2
            exact bodyPost_ret (results_none rfl _ _ _) rfl ⟨rfl, ⟨_, by rw [HQ.out, HP.out]; exact HR.out⟩, HRf.out⟩
      · rw [hb4] at d3
        go_wp2
        exact bodyPost_ret (results_none rfl _ _ _) rfl ⟨rfl, ⟨_, by rw [HQ.out, HP.out]; exact HR.out⟩, HRf.out⟩
    · rw [if_neg hc] at HP
      have hb4 : st4.bad = false := by cases h : st4.bad <;> simp_all
      have hfb : fb = true := by cases fb <;> simp_all
      have h29 : h ≤ 29 := by by_cases hx : h ≤ 29; · exact hx
                              · exact absurd (.inr (.inl (by omega))) hc
      have d29 : d ≤ 29 := by by_cases hx : d ≤ 29; · exact hx
                              · exact absurd (.inr (.inr (.inl (by omega)))) hc
      subst hfb
      rw [hb4] at d3
      clear hc HR HRf
      have A4 : Apart w5 B (some ⟨w3.heap.size + 1, 0, none⟩) ls := ⟨l4.ints, fun a e _ => by cases e; exact ⟨by show w3.heap.size + 1 ≠ B; omega, lt_of_block l4⟩⟩
      obtain ⟨n, hn⟩ : ∃ n, n = ((h : Int) + d + 258).toNat := ⟨_, rfl⟩
      rw [← hn] at HP
      have HN : Hid ((h : Int) + d + 258 = (n : Int)) := by show _ = _; omega
      have hn1 : n = h + d + 258 := by omega
      clear hn
      go_wp2_with fail
      refine (listed_s ((h : Int) + d + 258) (some ⟨w3.heap.size + 1, 0, none⟩) 19 19 n B ls L ao cap limit st4 ov kv _ r4 hl19 (by omega) (by omega) A4 HN.out).mono ?_
      rintro e w6 ⟨v, rfl, r6, k6, own6⟩
      have hlo := listed_out L ls n st4
      have HO6 : Hid ((Rf.listed L ls n st4).2.out.length ≤ 258 * (Rf.listed L ls n st4).2.pos) := by have := HO4.out; have := hlo.2; show _ ≤ _; rw [hlo.1]; omega
      have HW6 : Hid (Rf.Within (Rf.listed L ls n st4).1 15) := Rf.listed_within hbits ls hl19 n st4
      have kp6 := kp4.trans k6
      have hszB : B < w5.heap.size := r4.lt
      clear hlo HO4 HW HN d0 d1 d2 d3 d4 d5 d6 fz kp4 k6 r4 l4 A4
      generalize Rf.listed L ls n st4 = LS at *
      obtain ⟨all, st6⟩ := LS
      simp only at r6 HP HO6 HW6 own6 ⊢
      obtain ⟨d0, d1, d2, d3, d4, d5, d6, fz⟩ := r6.cells
      cases hb6 : st6.bad
      · rw [hb6] at d3 HP
        simp only [Bool.false_eq_true, if_false] at HP
        obtain ⟨ow, hal⟩ := own6 hb6
        obtain ⟨g, cp, rfl, hg⟩ := own_some ow (by omega)
        obtain ⟨hcp, hcm, hgw⟩ := own_cap ow
        have hm : Hid (h + 257 ≤ n) := by show _ ≤ _; omega
        obtain ⟨F1, F2⟩ := own_far ow (show g ≠ B by omega) (h + 257)
        have HF12 := hidden (And.intro F1 F2)
        clear F1 F2 ow own6
        go_wp2
        rw [show h + d + 258 - (h + 257) = d + 1 by omega]
        have hl1 : (all.take (h + 257)).length = h + 257 := by rw [List.length_take]; omega
        have hl2 : (all.drop (h + 257)).length = d + 1 := by rw [List.length_drop]; omega
        have HW1 : Hid (Rf.Within (all.take (h + 257)) 15 ∧ Rf.Within (all.drop (h + 257)) 15) := ⟨Rf.within_take HW6.out _ (by omega), Rf.within_drop HW6.out _⟩
        generalize all.take (h + 257) = L1 at *
        generalize all.drop (h + 257) = L2 at *
        generalize cp - (h + 257) = c2 at *
        clear HW6 hal
        go_loop [13, 14, 15] (fun o s i => ∃ k : Nat, k ≤ d + 1 ∧ i = .int .i64 k ∧ s = .int .i64 (Rf.sumF L2 k) ∧ o = .int .i64 (Rf.onesF L2 k : Nat)) (fun _ _ i => d + 1 - (intOf i).toNat)
        case atStart => exact ⟨0, Nat.zero_le _, rfl, rfl, rfl⟩
        case round =>
          obtain ⟨j, hj, rfl, rfl, rfl⟩ := hrel
          have hsr := sum_range HW1.out.2 j
          by_cases hjd : j < d + 1
          · obtain ⟨b, off, e, hc⟩ := HF12.out.2.ints j (by omega)
            cases e
            obtain ⟨x, hx⟩ : ∃ x : Int, x = L2[j] := ⟨_, rfl⟩
            have hx2 : L2.getD j 0 = x := by rw [hx]; simp [List.getD, List.getElem?_eq_getElem (show j < L2.length by omega)]
            have hx15 := HW1.out.2 j
            rw [hx2] at hx15
            rw [← hx] at hc
            have HS : Hid (Rf.sumF L2 (j + 1) = Rf.sumF L2 j + x ∧ Rf.onesF L2 (j + 1) = Rf.onesF L2 j + if x = 1 then 1 else 0) := by rw [← hx2]; exact ⟨rfl, rfl⟩
            clear hx hx2
            generalize Rf.sumF L2 j = s at *
            generalize Rf.onesF L2 j = o at *
            have hs1 : 0 ≤ s ∧ s ≤ 480 := by omega
            have ho1 : o ≤ 32 := by omega
            clear hsr
            by_cases h1 : x = 1
            · subst h1
              go_wp2
              go_round
              case rel => exact ⟨j + 1, by omega, by go_num, by rw [HS.out.1], by rw [HS.out.2, if_pos rfl]; go_num⟩
              case measure => simp [intOf]; omega
            · have h1' : (x == 1) = false := beq_eq_false_iff_ne.2 h1
              go_wp2
              go_round
              case rel => exact ⟨j + 1, by omega, by go_num, by rw [HS.out.1], by rw [HS.out.2, if_neg h1]; rfl⟩
              case measure => simp [intOf]; omega
          · have hjd2 : j = d + 1 := by omega
            subst hjd2
            obtain ⟨b, off, e, hc⟩ := HF12.out.1.ints 256 (by omega)
            cases e
            obtain ⟨x, hx⟩ : ∃ x : Int, x = L1[256] := ⟨_, rfl⟩
            have hx2 : L1.getD 256 0 = x := by rw [hx]; simp [List.getD, List.getElem?_eq_getElem (show 256 < L1.length by omega)]
            rw [← hx] at hc
            have hc' : w6.cell? ⟨g, 256, none⟩ = some (.int .i64 x) := by simpa using hc
            have HR : Hid (Rep (w6.setCell ⟨B, 3, none⟩ (.bool true)) B L ao cap limit { st6 with bad := true } ov kv) := r6.set 3 (.bool true) _ rfl rfl rfl r6.hpos
            have HRf : Hid (Fr B w (w6.setCell ⟨B, 3, none⟩ (.bool true))) := Fr.ofKp (Nat.le_of_lt hlt) (kp6.set1 _ _)
            have HB : Hid (Rf.badLists L1 L2 = ((x == 0) || !Rf.full L1 || (!Rf.full L2 && ((Rf.sumF L2 (d + 1) != 0) && ((Rf.sumF L2 (d + 1) != 1) || (((Rf.onesF L2 (d + 1) : Nat) : Int) != 1)))))) := by
              show _ = _
              exact bad_bools L1 L2 x (d + 1) hx2 hl2
            clear hx hx2 hsr hc
            go_wp2_with fail
            refine (full47 (some ⟨g, 0, none⟩) cp L1 (h + 257) _ hl1 (by omega) HF12.out.1.ints (fun j => (HW1.out.1 j).2)).mono ?_
            rintro e w7 ⟨rfl, rfl⟩
            go_wp2_with fail
            refine (full47 (some ⟨g, h + 257, none⟩) c2 L2 (d + 1) _ hl2 (by omega) HF12.out.2.ints (fun j => (HW1.out.2 j).2)).mono ?_
            rintro e w7 ⟨rfl, rfl⟩
            generalize Rf.full L1 = f1 at *
            generalize Rf.full L2 = f2 at *
            generalize Rf.sumF L2 (d + 1) = s at *
            generalize ((Rf.onesF L2 (d + 1) : Nat) : Int) = o at *
            cases e0 : (x == 0)
            · cases f1
              · have HB : Hid (Rf.badLists L1 L2 = true) := by show _ = _; rw [HB.out]; simp
                go_wp2
                exact bodyPost_ret (results_none rfl _ _ _) rfl ⟨rfl, ⟨_, by rw [HQ.out, HP.out, if_pos HB.out]; exact HR.out⟩, HRf.out⟩
              · cases f2
                · cases e1 : (s != 0)
                  · have HB : Hid (Rf.badLists L1 L2 = false) := by show _ = _; rw [HB.out, e0, e1]; simp
                    go_wp2_with fail
                    refine (symbols26 (some ⟨g, 0, none⟩) (some ⟨g, h + 257, none⟩) cp c2 (h + 257) (d + 1) B L1 L2 L ao cap limit st6 ov kv _ r6 hl1 hl2 (by omega) (by omega) HF12.out.1 HF12.out.2 HO6).mono ?_
                    rintro e w7 ⟨rfl, ⟨ov7, r7⟩, f7⟩
                    go_wp2
                    go_end0
                    exact ⟨rfl, ⟨ov7, by rw [HQ.out, HP.out, if_neg (by rw [HB.out]; decide)]; exact r7⟩, (Fr.ofKp (Nat.le_of_lt hlt) kp6).trans f7⟩
                  · cases e2 : (s != 1)
                    · cases e3 : (o != 1)
                      · have HB : Hid (Rf.badLists L1 L2 = false) := by show _ = _; rw [HB.out, e0, e2, e3]; simp
                        go_wp2_with fail
                        refine (symbols26 (some ⟨g, 0, none⟩) (some ⟨g, h + 257, none⟩) cp c2 (h + 257) (d + 1) B L1 L2 L ao cap limit st6 ov kv _ r6 hl1 hl2 (by omega) (by omega) HF12.out.1 HF12.out.2 HO6).mono ?_
                        rintro e w7 ⟨rfl, ⟨ov7, r7⟩, f7⟩
                        go_wp2
                        go_end0
                        exact ⟨rfl, ⟨ov7, by rw [HQ.out, HP.out, if_neg (by rw [HB.out]; decide)]; exact r7⟩, (Fr.ofKp (Nat.le_of_lt hlt) kp6).trans f7⟩
                      · have HB : Hid (Rf.badLists L1 L2 = true) := by show _ = _; rw [HB.out, e1, e3]; simp
                        go_wp2
                        exact bodyPost_ret (results_none rfl _ _ _) rfl ⟨rfl, ⟨_, by rw [HQ.out, HP.out, if_pos HB.out]; exact HR.out⟩, HRf.out⟩
                    · have HB : Hid (Rf.badLists L1 L2 = true) := by show _ = _; rw [HB.out, e1, e2]; simp
                      go_wp2
                      exact bodyPost_ret (results_none rfl _ _ _) rfl ⟨rfl, ⟨_, by rw [HQ.out, HP.out, if_pos HB.out]; exact HR.out⟩, HRf.out⟩
                · have HB : Hid (Rf.badLists L1 L2 = false) := by show _ = _; rw [HB.out, e0]; simp
                  go_wp2_with fail
                  refine (symbols26 (some ⟨g, 0, none⟩) (some ⟨g, h + 257, none⟩) cp c2 (h + 257) (d + 1) B L1 L2 L ao cap limit st6 ov kv _ r6 hl1 hl2 (by omega) (by omega) HF12.out.1 HF12.out.2 HO6).mono ?_
                  rintro e w7 ⟨rfl, ⟨ov7, r7⟩, f7⟩
                  go_wp2
                  go_end0
                  exact ⟨rfl, ⟨ov7, by rw [HQ.out, HP.out, if_neg (by rw [HB.out]; decide)]; exact r7⟩, (Fr.ofKp (Nat.le_of_lt hlt) kp6).trans f7⟩
            · have HB : Hid (Rf.badLists L1 L2 = true) := by show _ = _; rw [HB.out, e0]; simp
              go_wp2
              exact bodyPost_ret (results_none rfl _ _ _) rfl ⟨rfl, ⟨_, by rw [HQ.out, HP.out, if_pos HB.out]; exact HR.out⟩, HRf.out⟩
      · rw [hb6] at d3 HP
        simp only [if_true] at HP
        go_wp2
        exact bodyPost_ret (results_none rfl _ _ _) rfl ⟨rfl, ⟨_, by rw [HQ.out, HP.out]; exact r6⟩, Fr.ofKp (Nat.le_of_lt hlt) kp6⟩
end Go.Proofs.YtmfijackgekioaaGreatDoor

namespace Go.Proofs.YtmfijackgekioaaGreatDoor
open Go.RowKit

/-- A kind put behind the kinds. -/
theorem Rep.pushK {w w2 : World} {B : Nat} {L : List Int} {ao : Option Addr} {cap : Nat} {limit : Int} {st : Rf.St} {ov kv v' : Value} (h : Rep w B L ao cap limit st ov kv) (o : Obj) (c : Int)
    (hown' : w2.ownsRow (B + 1) 3 1 v' (st.kinds.length + 1) (vals st.kinds ++ [.int .i64 c])) (hgrow : (w.alloc o).grownBy w2 kv.ownBlock) :
    Rep (w2.setCell ⟨B, 6, none⟩ v') B L ao cap limit { st with kinds := st.kinds ++ [c] } ov v' ∧ Below B w (w2.setCell ⟨B, 6, none⟩ v') := by
  have hlt := h.lt
  have hne : ∀ k, k ≤ B → some k ≠ kv.ownBlock := fun k hk e => by have := (h.hk.lt k e.symm).1; omega
  have hblk : ∀ k, k < w.heap.size → some k ≠ kv.ownBlock → w2.heap[k]? = w.heap[k]? := fun k hk hn => (hgrow.block k (by simp; omega) hn).trans (Below.heap_alloc w o k hk)
  have hB2 : w2.heap[B]? = _ := (hblk B hlt (hne B (Nat.le_refl _))).trans h.blk
  have hsz : w.heap.size ≤ w2.heap.size := by have := hgrow.size; simp at this; omega
  refine ⟨⟨(heap_setCell_same w2 B 6 _ _ v' hB2).trans rfl, ?_, h.hla, h.hb, h.hpos, h.hlen, h.h8, ?_, ?_⟩, ⟨hgrow.os, hgrow.tape, hgrow.output, by simp; omega, ?_⟩⟩
  · intro k hk
    obtain ⟨b, off, rfl, hc⟩ := h.hl k hk
    have hb := h.hla _ rfl (ne_of_lt hk)
    have e1 : (w2.setCell ⟨B, 6, none⟩ v').heap[b]? = w.heap[b]? := (Below.heap_setCell w2 ⟨B, 6, none⟩ v' b (Nat.ne_of_lt hb)).trans (hblk b (Nat.lt_trans hb hlt) (hne b (Nat.le_of_lt hb)))
    exact ⟨b, off, rfl, (World.cell?_of_block (w := w) e1).trans hc⟩
  · refine ownsRow_setCell_below (((h.ho.alloc o).kept hgrow ?_)) (Nat.lt_succ_self B) v'
    cases hov : ov.ownBlock with
    | none => exact .inl rfl
    | some g =>
      right
      intro e
      obtain ⟨cur, q1⟩ := own_type h.ho g hov
      obtain ⟨cur2, q2⟩ := own_type h.hk g e.symm
      rw [q1] at q2
      simp at q2
  · have : vals (st.kinds ++ [c]) = vals st.kinds ++ [.int .i64 c] := by simp [vals]
    rw [show ({ st with kinds := st.kinds ++ [c] } : Rf.St).kinds = st.kinds ++ [c] from rfl, this, List.length_append]
    exact ownsRow_setCell_below hown' (Nat.lt_succ_self B) v'
  · intro k hk
    exact (Below.heap_setCell w2 ⟨B, 6, none⟩ v' k (Nat.ne_of_lt hk)).trans (hblk k (Nat.lt_trans hk hlt) (hne k (Nat.le_of_lt hk)))
/-- The reader's block behind an append of its kinds. -/
theorem Rep.grownK {w w2 : World} {B : Nat} {L : List Int} {ao : Option Addr} {cap : Nat} {limit : Int} {st : Rf.St} {ov kv : Value} (h : Rep w B L ao cap limit st ov kv) (o : Obj) (hgrow : (w.alloc o).grownBy w2 kv.ownBlock) :
    w2.cell? ⟨B, 6, none⟩ = some kv ∧ w2.frozen? ⟨B, 6, none⟩ = false ∧ w2.heap[B]? = w.heap[B]? := by
  have hlt := h.lt
  have e : w2.heap[B]? = w.heap[B]? := (hgrow.block B (by simp; omega) (fun e => by have := (h.hk.lt B e.symm).1; omega)).trans (Below.heap_alloc w o B hlt)
  have hB := e.trans h.blk
  exact ⟨cell_of_row _ _ _ _ _ _ hB, frozen_of_row w2 B 6 _ _ hB, e⟩

theorem some_bits (c : UInt8) : ∀ j x, x ∈ Mx.some c j → 0 ≤ x ∧ x ≤ 1 := by
  intro j
  induction j with
  | zero => intro x hx; simp [Mx.some] at hx
  | succ j ih =>
    intro x hx
    rw [Mx.some_succ] at hx
    rcases List.mem_append.1 hx with h | h
    · exact ih x h
    · simp at h
      omega
theorem low_mem (l : List UInt8) : ∀ x, x ∈ Mx.low l → 0 ≤ x ∧ x ≤ 1 := by
  induction l with
  | nil => intro x hx; cases hx
  | cons c l ih =>
    intro x hx
    rcases List.mem_append.1 hx with h | h
    · exact some_bits c 8 x h
    · exact ih x h
theorem low_is_bits (l : List UInt8) : Rf.Bits (Mx.low l) := by
  intro j
  by_cases hj : j < (Mx.low l).length
  · have h := low_mem l _ (List.getElem_mem hj)
    have e : (Mx.low l).getD j 0 = (Mx.low l)[j] := by simp [List.getD, List.getElem?_eq_getElem hj]
    omega
  · left
    simp [List.getD, List.getElem?_eq_none (show (Mx.low l).length ≤ j by omega)]
theorem own_intsR {w : World} {base n cap : Nat} {oa : Option Addr} {zs : List Int} (h : w.ownsRow base 3 1 (.slice oa n cap) n (vals zs)) : Ints w oa zs ∧ (∀ a, oa = some a → zs ≠ [] → a.block < w.heap.size) := by
  have hl := h.1
  rcases h.2 with ⟨h', hn⟩ | ⟨g, cap', cur, e, _, hb, _⟩
  · have : zs = [] := by
      have : zs.length = 0 := by simp [vals] at hl; omega
      exact List.eq_nil_of_length_eq_zero this
    subst this
    exact ⟨fun j hj => absurd hj (Nat.not_lt_zero _), fun _ _ h => absurd rfl h⟩
  · cases e
    exact ⟨fun j hj => ⟨g, 0, rfl, by have := own_cell h j hj; simpa using this⟩, fun a e _ => by cases e; exact lt_of_block hb⟩
/-- The reader, new. -/
theorem rep_new (w : World) (oa : Option Addr) (oc : Nat) (limit : Int) (L : List Int) (base n : Nat) (h : w.ownsRow base 3 1 (.slice oa n oc) n (vals L)) (hn : L.length = n) (hb : Rf.Bits L) (hlen : n ≤ 40000000) (h8 : n % 8 = 0) :
    Rep (w.alloc (.cells #[.slice oa n oc, .int .i64 0, .int .i64 limit, .bool false, .bool false, .slice none 0 0, .slice none 0 0] 109)) w.heap.size L oa oc limit ⟨0, false, false, [], []⟩ (.slice none 0 0) (.slice none 0 0) := by
  obtain ⟨h1, h2⟩ := own_intsR h
  subst hn
  refine ⟨blk_new w _, fun j hj => ?_, h2, hb, Nat.zero_le _, hlen, h8, World.ownsRow_nil _ _ _ _, World.ownsRow_nil _ _ _ _⟩
  obtain ⟨b, off, rfl, hc⟩ := h1 j hj
  exact ⟨b, off, rfl, (World.cell?_of_block (w := w) (Below.heap_alloc w _ b (h2 _ rfl (ne_of_lt hj)))).trans hc⟩

end Go.Proofs.YtmfijackgekioaaGreatDoor
