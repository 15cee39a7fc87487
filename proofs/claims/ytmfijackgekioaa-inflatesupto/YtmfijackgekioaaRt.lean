import Derived.Test.YtmfijackgekioaaRk
import Derived.Test.YtmfijackgekioaaRq
namespace Go.Proofs.Ytmfijackgekioaa
open Go.RowKit

/-- A list of integers in a block that holds integers, apart from the reader. -/
structure Far (w : World) (B : Nat) (ao : Option Addr) (ls : List Int) : Prop where
  ints : Ints w ao ls
  ne : ∀ a, ao = some a → ls ≠ [] → a.block ≠ B ∧ ∃ c fr, w.heap[a.block]? = some (.cells c 3 fr)
theorem Far.apart {w : World} {B : Nat} {ao : Option Addr} {ls : List Int} (h : Far w B ao ls) : Apart w B ao ls :=
  ⟨h.ints, fun a e e2 => ⟨(h.ne a e e2).1, by obtain ⟨_, c, fr, q⟩ := h.ne a e e2; exact lt_of_block q⟩⟩
theorem Far.later {w w' : World} {B : Nat} {ao : Option Addr} {ls : List Int} (h : Far w B ao ls) (hf : Fr B w w') : Far w' B ao ls := by
  have key : ∀ a, ao = some a → ls ≠ [] → w'.heap[a.block]? = w.heap[a.block]? := by
    intro a e e2
    obtain ⟨hne, c, fr, q⟩ := h.ne a e e2
    by_cases hlt : a.block < B
    · exact hf.below.block _ hlt
    · exact hf.other _ (by omega) (lt_of_block q) (fun c' fr' => by rw [q]; simp)
  refine ⟨fun j hj => ?_, fun a e e2 => ?_⟩
  · obtain ⟨b, off, rfl, hc⟩ := h.ints j hj
    have hk := key ⟨b, off, none⟩ rfl (ne_of_lt hj)
    exact ⟨b, off, rfl, (World.cell?_of_block (w := w) (a := ⟨b, off + j, none⟩) hk).trans hc⟩
  · obtain ⟨hne, c, fr, q⟩ := h.ne a e e2
    exact ⟨hne, c, fr, (key a e e2).trans q⟩
theorem Far.ofLst {w : World} {B g : Nat} {ls : List Int} (h : Lst w g ls) (hg : g ≠ B) : Far w B (some ⟨g, 0, none⟩) ls :=
  ⟨h.ints, fun a e _ => by cases e; exact ⟨hg, _, _, h⟩⟩
theorem Fr.ofBelow {B : Nat} {w w' : World} (h : Below w.heap.size w w') (hB : B ≤ w.heap.size) : Fr B w w' :=
  ⟨h.mono hB, fun k _ h2 _ => h.block k h2⟩

theorem hidden {p : Prop} (h : p) : Hid p := h

/-- Where the reader stands, read off the world. -/
def posW (B : Nat) (w : World) : Nat := (intOf ((w.cell? ⟨B, 1, none⟩).getD undef)).toNat
theorem Rep.posW {w : World} {B : Nat} {L : List Int} {ao : Option Addr} {cap : Nat} {limit : Int} {st : Rf.St} {ov kv : Value} (h : Rep w B L ao cap limit st ov kv) : posW B w = st.pos := by
  unfold Go.Proofs.Ytmfijackgekioaa.posW
  rw [h.cells.2.1]
  simp [intOf]

theorem copied_s (s : Int) (a1 a2 : Option Addr) (c1 c2 n i B : Nat) (far cd L : List Int) (ao : Option Addr) (cap : Nat) (limit : Int) (st : Rf.St) (ov kv : Value) (w : World) (hr : Rep w B L ao cap limit st ov kv)
    (hi28 : i ≤ 28) (hl1 : far.length = n) (hl2 : cd.length = n) (hn : n ≤ 320) (hA1 : Apart w B a1 far) (hA2 : Apart w B a2 cd) (hout : Hid (st.out.length ≤ 3000000000)) (hnb : st.bad = false) (hs : s = (i : Int) + 257) :
    Calls Try.prog 45 #[.pointer (some ⟨B, 0, none⟩), .int .i64 s, .slice a1 n c1, .slice a2 n c2] w
      fun e w' => e = .returned (.tuple #[]) ∧ (∃ ov', Rep w' B L ao cap limit (Rf.copied L limit i far cd st) ov' kv) ∧ Fr B w w' := by
  subst hs
  exact copied46 a1 a2 c1 c2 n i B far cd L ao cap limit st ov kv w hr hi28 hl1 hl2 hn hA1 hA2 hout hnb

set_option maxRecDepth 100000 in
set_option maxHeartbeats 8000000 in
theorem symbols26 (a1 a2 : Option Addr) (c1 c2 n1 n2 B : Nat) (ls far L : List Int) (ao : Option Addr) (cap : Nat) (limit : Int) (st : Rf.St) (ov kv : Value) (w : World) (hr : Rep w B L ao cap limit st ov kv)
    (hl1 : ls.length = n1) (hl2 : far.length = n2) (hn1 : n1 ≤ 320) (hn2 : n2 ≤ 320) (hF1 : Far w B a1 ls) (hF2 : Far w B a2 far) (hout : Hid (st.out.length ≤ 258 * st.pos)) :
    Calls Try.prog 27 #[.pointer (some ⟨B, 0, none⟩), .slice a1 n1 c1, .slice a2 n2 c2] w
      fun e w' => e = .returned (.tuple #[]) ∧ (∃ ov', Rep w' B L ao cap limit (Rf.symbols L limit ls far st) ov' kv) ∧ Fr B w w' := by
  obtain ⟨i0, hi, hz0, hz1, hz2⟩ := info_parts Try.info5
  have hlt := hr.lt
  have hbits := hr.hb
  go_enter Try.func27, Try.ntmps27
  go_wp2_with fail
  refine (codes44 a1 c1 ls n1 _ hl1 hn1 hF1.ints (fun a e e2 => (hF1.apart.ne a e e2).2)).mono ?_
  rintro e w1 ⟨rfl, q1, b1⟩
  have r1 := hr.later b1
  have f1 := Fr.ofBelow b1 (Nat.le_of_lt hlt)
  have G1 := hF1.later f1
  have G2 := hF2.later f1
  have G3 : Far w1 B (some ⟨w.heap.size, 0, none⟩) (Rf.codes ls) := Far.ofLst q1 (Nat.ne_of_gt hlt)
  have hlt1 := r1.lt
  clear hF1 hF2 q1 b1 hr
  go_wp2_with fail
  refine (codes44 a2 c2 far n2 _ hl2 hn2 G2.ints (fun a e e2 => (G2.apart.ne a e e2).2)).mono ?_
  rintro e w2 ⟨rfl, q2, b2⟩
  have r2 := r1.later b2
  have f2 := Fr.ofBelow b2 (Nat.le_of_lt hlt1)
  have f12 := f1.trans f2
  have K1 := G1.later f2
  have K2 := G2.later f2
  have K3 := G3.later f2
  have K4 : Far w2 B (some ⟨w1.heap.size, 0, none⟩) (Rf.codes far) := Far.ofLst q2 (Nat.ne_of_gt hlt1)
  clear G1 G2 G3 q2 b2 r1 f1 f2
  have hcl1 : (Rf.codes ls).length = n1 := by rw [Rf.codes_length, hl1]
  have hcl2 : (Rf.codes far).length = n2 := by rw [Rf.codes_length, hl2]
  have HQ : Hid (Rf.symbols L limit ls far st = Rf.symsF L limit ls (Rf.codes ls) far (Rf.codes far) (L.length + 2) st) := rfl
  generalize Rf.codes ls = cd at *
  generalize Rf.codes far = fcd at *
  obtain ⟨RES, hRES⟩ : ∃ RES, RES = Rf.symsF L limit ls cd far fcd (L.length + 2) st := ⟨_, rfl⟩
  rw [← hRES] at HQ
  go_wp2
  go_loopw [8] (fun _ wr => ∃ (f : Nat) (st' : Rf.St) (ov' : Value), Rep wr B L ao cap limit st' ov' kv ∧ Fr B w2 wr ∧ Hid (RES = Rf.symsF L limit ls cd far fcd f st') ∧ L.length + 2 ≤ f + st'.pos ∧ Hid (st'.out.length ≤ 258 * st'.pos)) (fun _ wr => L.length - posW B wr)
  case atStart => exact ⟨L.length + 2, st, ov, r2, Fr.refl _ _, hRES, by omega, hout⟩
  case round =>
    clear hRES r2 hout
    obtain ⟨f, st', ov', r3, f3, HF, hfu, HO⟩ := hrel
    have hp3 := r3.hpos
    have hl3 := r3.hlen
    obtain ⟨f, rfl⟩ : ∃ g, f = g + 1 := ⟨f - 1, by omega⟩
    go_wp2_with fail
    refine (stopped22 B L ao cap limit st' ov' kv _ r3).mono ?_
    rintro e w3 ⟨rfl, rfl⟩
    cases hst : (st'.bad || st'.full)
    · have HF2 : Hid (RES = _) := HF.out.trans (by rw [Rf.symsF, if_neg (by rw [hst]; decide)])
      have J1 := K1.later f3
      have J3 := K3.later f3
      go_wp2_with fail
      refine (symbol45 a1 _ c1 n1 n1 B ls cd L ao cap limit st' ov' kv _ r3 hl1 hcl1 hn1 J1.apart J3.apart).mono ?_
      rintro e w4 ⟨rfl, r4, k4⟩
      have f4 := f3.trans (Fr.ofKp (Nat.le_of_lt r3.lt) k4)
      have hsr := Rf.symbol_range L ls cd st'
      have hsp := Rf.symbol_pos L ls cd st'
      have hso := (Rf.symbol_out L ls cd st').1
      have HO4 : Hid ((Rf.symbol L ls cd st').2.out.length ≤ 258 * st'.pos) := by show _ ≤ _; rw [hso]; exact HO.out
      have hposw := r3.posW
      clear r3 f3 HF HO J1 J3 k4 hso
      generalize Rf.symbol L ls cd st' = SY at *
      obtain ⟨s, st4⟩ := SY
      simp only at r4 hsr hsp HF2 HO4 ⊢
      obtain ⟨d0, d1, d2, d3, d4, d5, d6, fz⟩ := r4.cells
      by_cases hbs : st4.bad = true ∨ s = 256
      · rw [if_pos hbs] at HF2
        cases hb4 : st4.bad
        · rw [hb4] at d3 hbs
          have hs6 : s = 256 := by simpa using hbs
          have hs6' : (s == 256) = true := beq_iff_eq.2 hs6
          clear hbs hs6 hposw
          go_wp2
          exact bodyPost_ret (results_none rfl _ _ _) rfl ⟨rfl, ⟨_, by rw [HQ.out, HF2.out]; exact r4⟩, f12.trans f4⟩
        · rw [hb4] at d3
          clear hposw
          go_wp2
          exact bodyPost_ret (results_none rfl _ _ _) rfl ⟨rfl, ⟨_, by rw [HQ.out, HF2.out]; exact r4⟩, f12.trans f4⟩
      · rw [if_neg hbs] at HF2
        have hb4 : st4.bad = false := by cases h : st4.bad <;> simp_all
        have hs6' : (s == 256) = false := beq_eq_false_iff_ne.2 (fun h => hbs (.inr h))
        have hs6 : s ≠ 256 := fun h => hbs (.inr h)
        rw [hb4] at d3
        have hpos4 := hsp hb4
        have hs0 := hsr.1
        have hs320 : s < 320 := by have := hsr.2 hb4; omega
        have hle4 := r4.hpos
        clear hsr hsp hbs
        have HPW := hidden hposw
        clear hposw
        by_cases hs : s < 256
        · rw [if_pos hs] at HF2
          have hl4 := r4.lt
          have HL4 : Hid (st4.out.length ≤ 4611686018427387904) := by have := HO4.out; show _ ≤ _; omega
          go_wp2_with fail
          refine (room43 1 B L ao cap limit st4 ov' kv _ r4 (by omega) HL4.out).mono ?_
          rintro e w5 ⟨rfl, r5, k5⟩
          have f5 := f4.trans (Fr.ofKp (Nat.le_of_lt hl4) k5)
          have hro := Rf.room_out limit st4 1
          have HRO := hidden hro
          clear hro d0 d1 d2 d3 d4 d5 d6 fz r4 f4 k5
          generalize Rf.room limit st4 1 = RM at *
          obtain ⟨ok, st5⟩ := RM
          simp only at r5 HF2 HRO ⊢
          cases ok
          · simp only [Bool.false_eq_true, if_false] at HF2
            go_wp2
            go_roundw
            case rel => exact ⟨f, st5, ov', r5, f5, HF2, by have := HRO.out.2.2.1; omega, by have h1 := HRO.out; have := HO4.out; show _ ≤ _; rw [h1.1, h1.2.2.1]; omega⟩
            case measure => rw [r5.posW, HPW.out, HRO.out.2.2.1]; omega
          · simp only [if_true] at HF2
            obtain ⟨d0, d1, d2, d3, d4, d5, d6, fz⟩ := r5.cells
            have hl5 := r5.lt
            have HB : Hid (st5.out.length + 1 ≤ maxLen ∧ (st5.out.length + 1) * 1 ≤ 140737488355328) := by have h1 := HRO.out.1; have := HO4.out; show _ ∧ _; unfold maxLen; rw [h1]; omega
            obtain ⟨oa, oc, rfl⟩ := own_slice r5.ho
            go_wp2_with (at_builtin; refine wpList_append_own _ rfl _ _ 39 rfl (B + 1) 5 i0 (.int .u8 0) 1 1 Try.underlying39 hi hz0 hz1 hz2 rfl (by decide) _ _ _ rfl (r5.ho.alloc _) ⟨w5.heap.size, 0, none⟩ 1 1 [.int .u8 s] rfl rfl (cell_one_new _ _ _) (by intro u hu; simp at hu; subst hu; rfl) HB.out.1 HB.out.2 (by simp; omega) ?_; intro v' w6 hown' hgrow _; obtain ⟨q1, q2, _⟩ := r5.grown _ hgrow; obtain ⟨oa', oc', rfl⟩ := own_slice hown')
            have R7 := r5.push (.cells #[.int .u8 s] 5) (UInt8.ofNat s.toNat) (by rw [byte_of s ⟨hs0, hs⟩]; exact hown') hgrow
            go_roundw
            case rel => exact ⟨f, _, _, R7.1, f5.trans R7.2, HF2, by have := HRO.out.2.2.1; show _ ≤ f + st5.pos; omega, by have h1 := HRO.out; have := HO4.out; show (st5.out ++ [_]).length ≤ 258 * st5.pos; rw [List.length_append, h1.1, h1.2.2.1]; simp; omega⟩
            case measure => rw [R7.1.posW, HPW.out]; show L.length - st5.pos < _; rw [HRO.out.2.2.1]; omega
        · rw [if_neg hs] at HF2
          by_cases hs2 : 285 < s
          · rw [if_pos hs2] at HF2
            have HR : Hid (Rep (w4.setCell ⟨B, 3, none⟩ (.bool true)) B L ao cap limit { st4 with bad := true } ov' kv) := r4.set 3 (.bool true) _ rfl rfl rfl r4.hpos
            have HRf : Hid (Fr B w2 (w4.setCell ⟨B, 3, none⟩ (.bool true))) := f4.trans (Fr.ofKp (Nat.le_of_lt r4.lt) ((Kp.refl _ w4).set1 _ _))
            go_wp2
            go_roundw
            case rel => exact ⟨f, _, _, HR.out, HRf.out, HF2, by show _ ≤ f + st4.pos; omega, by have := HO4.out; show st4.out.length ≤ 258 * st4.pos; omega⟩
            case measure => rw [HR.out.posW, HPW.out]; show L.length - st4.pos < _; omega
          · rw [if_neg hs2] at HF2
            obtain ⟨i, hi'⟩ : ∃ i, i = (s - 257).toNat := ⟨_, rfl⟩
            rw [← hi'] at HF2
            have HSI : Hid (s = (i : Int) + 257) := by show _ = _; omega
            have hi28 : i ≤ 28 := by omega
            clear hi'
            have J2 := K2.later f4
            have J4 := K4.later f4
            have HCL := hidden (Rf.copied_le hbits limit i hi28 far fcd st4)
            go_wp2_with fail
            refine (copied_s s a2 _ c2 n2 n2 i B far fcd L ao cap limit st4 ov' kv _ r4 hi28 hl2 hcl2 hn2 J2.apart J4.apart (by have := HO4.out; show _ ≤ _; omega) hb4 HSI.out).mono ?_
            rintro e w5 ⟨rfl, ⟨ov5, r5⟩, f5⟩
            have f6 := f4.trans f5
            go_wp2
            go_roundw
            case rel => exact ⟨f, _, ov5, r5, f6, HF2, by have := HCL.out; omega, by have := HCL.out; have := HO4.out; show _ ≤ _; omega⟩
            case measure => rw [r5.posW, HPW.out]; have := HCL.out; have := r5.hpos; omega
    · have HF2 : Hid (RES = st') := by show _ = _; rw [HF.out, Rf.symsF, if_pos hst]
      go_wp2
      go_end0
      exact ⟨rfl, ⟨_, by rw [HQ.out, HF2.out]; exact r3⟩, f12.trans f3⟩

end Go.Proofs.Ytmfijackgekioaa
