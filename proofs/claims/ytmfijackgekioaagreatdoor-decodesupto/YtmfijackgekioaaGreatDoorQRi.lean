import Derived.Test.YtmfijackgekioaaGreatDoorQRbRj3
import Derived.Test.YtmfijackgekioaaGreatDoorQRtRz4
import Derived.Test.YtmfijackgekioaaGreatDoorQUwVc6

namespace Go.Proofs.YtmfijackgekioaaGreatDoor
open Go.RowKit

/-- The three parts of the answer. -/
def a1 (F : Rf.St) : Value := if (F.bad || F.full) = true then .string ⟨#[]⟩ else .string ⟨F.out.toArray⟩
def a2 (F : Rf.St) : Value := if (F.bad || F.full) = true then .int .i64 0 else .int .i64 (((F.pos + 7) / 8 : Nat) : Int)
def a3 (F : Rf.St) : Value := if (F.bad || F.full) = true then .int .i64 (code F) else .int .i64 0
theorem answer_parts (F : Rf.St) : answer F = .tuple #[a1 F, a2 F, a3 F] := by
  unfold answer a1 a2 a3
  split <;> rfl

set_option maxRecDepth 100000 in
set_option maxHeartbeats 8000000 in
theorem inflate10 (s : ByteArray) (limit : Int) (w : World) (hs : s.size ≤ 5000000) :
    Calls Tryz.prog 44 #[.string s, .int .i64 limit] w
      fun e w' => ∃ kv, e = .returned (.tuple #[a1 (Rf.inflate (lw s) limit), a2 (Rf.inflate (lw s) limit), a3 (Rf.inflate (lw s) limit), kv]) ∧ Below w.heap.size w w' := by
  obtain ⟨RES, hRES⟩ : ∃ RES, RES = Rf.inflate (lw s) limit := ⟨_, rfl⟩
  rw [← hRES]
  have hRES2 : RES = Rf.inflate (Mx.low s.data.toList) limit := hRES
  clear hRES
  obtain ⟨i0, hi, hz0, hz1, hz2⟩ := info_parts Tryz.info3
  go_enter Tryz.func44, Tryz.ntmps44
  go_wp2_with fail
  refine (low21 s _ hs).mono ?_
  rintro e w1 ⟨v, rfl, own1, b1⟩
  obtain ⟨oa, oc, rfl⟩ := own_slice own1
  have hLl : (Mx.low s.data.toList).length = 8 * s.size := by rw [Mx.low_length]; simp
  have hbits := low_is_bits s.data.toList
  have r1 := rep_new w1 oa oc limit (Mx.low s.data.toList) _ _ own1 hLl hbits (by omega) (by omega)
  generalize Mx.low s.data.toList = L at *
  clear own1
  have HBW := b1
  go_upto_block 0 with fail
  go_cut [9] (fun _ wc => ∃ (ov kv : Value), Rep wc w1.heap.size L oa oc limit RES ov kv ∧ Below w1.heap.size w1 wc)
  case first =>
    go_wp2
    go_loopw [9] (fun v wr => ∃ (f : Nat) (last : Int) (st : Rf.St) (ov kv : Value), v = .int .i64 last ∧ (last = 0 ∨ last = 1) ∧ Rep wr w1.heap.size L oa oc limit st ov kv ∧ Below w1.heap.size w1 wr ∧ Hid (RES = Rf.infF L limit f last st) ∧ L.length + 2 ≤ f + st.pos ∧ Hid (st.out.length ≤ 258 * st.pos) ∧ Hid (st.kinds.length ≤ st.pos)) (fun _ wr => L.length - posW w1.heap.size wr)
    case atStart => exact ⟨L.length + 2, 0, _, _, _, rfl, .inl rfl, r1, (Below.refl _ _).alloc (Nat.le_refl _) _, hRES2, Nat.le_refl _, Nat.zero_le _, Nat.zero_le _⟩
    case round =>
      clear r1 hRES2
      obtain ⟨f, last, st, ov, kv, rfl, h01, r2, b2, HF, hfu, HO, HK⟩ := hrel
      have hp2 := r2.hpos
      obtain ⟨f, rfl⟩ : ∃ g, f = g + 1 := ⟨f - 1, by omega⟩
      rcases h01 with rfl | rfl
      · go_wp2_with fail
        refine (stopped22 w1.heap.size L oa oc limit st ov kv _ r2).mono ?_
        rintro e w2 ⟨rfl, rfl⟩
        cases hst : (st.bad || st.full)
        · have HF2 : Hid (RES = _) := HF.out.trans (by rw [Rf.infF, if_neg (by rw [hst]; decide)])
          have hlt2 := r2.lt
          have hpw := hidden r2.posW
          go_wp2_with fail
          refine (take23 1 w1.heap.size L oa oc limit st ov kv _ r2 (by omega)).mono ?_
          rintro e w3 ⟨rfl, r3, k3⟩
          have ha := Rf.take_one hbits st
          have g3 := Rf.grow_take L st 1
          have hk3 := Rf.take_kinds L st 1
          have b3 := b2.trans (k3.below (Nat.le_of_lt hlt2) (fun k _ h => by omega))
          have HP3 := hidden (Rf.take_bad L st 1)
          have hlt3 := r3.lt
          clear k3 r2 b2 HF
          generalize Rf.take L st 1 = A at *
          obtain ⟨a, st3⟩ := A
          simp only at r3 ha g3 hk3 HF2 HP3 ⊢
          go_wp2_with fail
          refine (take23 2 w1.heap.size L oa oc limit st3 ov kv _ r3 (by omega)).mono ?_
          rintro e w4 ⟨rfl, r4, k4⟩
          have hkr := Rf.take_range hbits st3 2
          have g4 := g3.trans (Rf.grow_take L st3 2)
          have hk4 := (Rf.take_kinds L st3 2).trans hk3
          have b4 := b3.trans (k4.below (Nat.le_of_lt hlt3) (fun k _ h => by omega))
          have HP4 := hidden (Rf.take_bad L st3 2)
          have hlt4 := r4.lt
          clear k4 r3 b3 g3 hk3
          generalize Rf.take L st3 2 = K at *
          obtain ⟨k, st4⟩ := K
          simp only at r4 hkr g4 hk4 HF2 HP4 ⊢
          obtain ⟨d0, d1, d2, d3, d4, d5, d6, fz⟩ := r4.cells
          cases hb4 : st4.bad
          · rw [hb4] at d3
            rw [if_neg (by rw [hb4]; decide)] at HF2
            have hp4 := HP4.out hb4
            have hp3 := HP3.out hp4.2
            have HB : Hid (st4.kinds.length + 1 ≤ maxLen ∧ (st4.kinds.length + 1) * 8 ≤ 140737488355328) := by have := HK.out; have := r4.hpos; show _ ∧ _; unfold maxLen; rw [hk4]; omega
            have ha01 : a = 0 ∨ a = 1 := by omega
            have H258 : Hid (st4.out.length ≤ 258 * st4.pos) := by have := HO.out; have := g4.2; show _ ≤ _; omega
            have H3 : Hid (st4.out.length ≤ 11000000000) := by have := H258.out; have := r4.hpos; have := r4.hlen; show _ ≤ _; omega
            have HBK : Hid (st4.pos ≤ (Rf.block L limit k { st4 with kinds := st4.kinds ++ [k] }).pos ∧ Hid ((Rf.block L limit k { st4 with kinds := st4.kinds ++ [k] }).out.length ≤ 258 * (Rf.block L limit k { st4 with kinds := st4.kinds ++ [k] }).pos) ∧ Hid ((Rf.block L limit k { st4 with kinds := st4.kinds ++ [k] }).kinds.length ≤ (Rf.block L limit k { st4 with kinds := st4.kinds ++ [k] }).pos)) := by
              have g5 := Rf.grow_block hbits limit k { st4 with kinds := st4.kinds ++ [k] }
              have g51 : st4.pos ≤ _ := g5.1
              have g52 : _ + 258 * st4.pos ≤ st4.out.length + _ := g5.2
              have hkk := Rf.block_kinds L limit k { st4 with kinds := st4.kinds ++ [k] }
              have hkl : (Rf.block L limit k { st4 with kinds := st4.kinds ++ [k] }).kinds.length = st.kinds.length + 1 := by rw [hkk]; show (st4.kinds ++ [k]).length = _; rw [List.length_append, hk4]; rfl
              have h1 := H258.out
              have h2 := HK.out
              refine ⟨g51, ?_, ?_⟩
              · show _ ≤ _; omega
              · show _ ≤ _; omega
            have hps : st4.pos = st.pos + 3 := by omega
            clear HK HO g4 hk4 HP3 HP4 hp3 hp4
            rcases (show k = 0 ∨ k = 1 ∨ k = 2 ∨ k = 3 by have := hkr.2; have := hkr.1; omega) with rfl | rfl | rfl | rfl
            · have e : Rf.block L limit 0 { st4 with kinds := st4.kinds ++ [0] } = Rf.plain L limit { st4 with kinds := st4.kinds ++ [0] } := if_pos rfl
              rw [e] at HF2 HBK
              clear e
              go_wp2_with (at_builtin; refine wpList_append_own _ rfl _ _ 24 rfl (w1.heap.size + 1) 3 i0 (.int .i64 0) 1 8 Tryz.underlying24 hi hz0 hz1 hz2 rfl (by decide) _ _ _ rfl (r4.hk.alloc _) ⟨w4.heap.size, 0, none⟩ 1 1 [.int .i64 0] rfl rfl (cell_one_new _ _ _) (by intro u hu; simp at hu; subst hu; rfl) HB.out.1 HB.out.2 (by simp; omega) ?_; intro v' w5 hown' hgrow _; obtain ⟨q1, q2, _⟩ := r4.grownK _ hgrow; obtain ⟨oa', oc', rfl⟩ := own_slice hown'; have R := r4.pushK (.cells #[.int .i64 0] 3) 0 hown' hgrow)
              refine (plain24 w1.heap.size L oa oc limit _ ov _ _ R.1 H3).mono ?_
              rintro e w6 ⟨rfl, ⟨ov6, r6⟩, f6'⟩
              have f6 := f6'.below
              go_wp2
              go_roundw
              case rel => exact ⟨f, a, _, ov6, _, rfl, ha01, r6, (b4.trans R.2).trans f6, HF2, by have := HBK.out.1; omega, HBK.out.2.1, HBK.out.2.2⟩
              case measure => have := HBK.out.1; have := r6.hpos; rw [r6.posW, hpw.out]; omega
            · have e : Rf.block L limit 1 { st4 with kinds := st4.kinds ++ [1] } = Rf.symbols L limit Rf.fixS Rf.fixD { st4 with kinds := st4.kinds ++ [1] } := (if_neg (by decide)).trans (if_pos rfl)
              rw [e] at HF2 HBK
              clear e
              have hfx := fixed25
              have lS : Rf.fixS.length = 288 := by simp [Rf.fixS]
              have lD : Rf.fixD.length = 32 := by simp [Rf.fixD]
              generalize Rf.fixS = FS at *
              generalize Rf.fixD = FD at *
              go_wp2_with (at_builtin; refine wpList_append_own _ rfl _ _ 24 rfl (w1.heap.size + 1) 3 i0 (.int .i64 0) 1 8 Tryz.underlying24 hi hz0 hz1 hz2 rfl (by decide) _ _ _ rfl (r4.hk.alloc _) ⟨w4.heap.size, 0, none⟩ 1 1 [.int .i64 1] rfl rfl (cell_one_new _ _ _) (by intro u hu; simp at hu; subst hu; rfl) HB.out.1 HB.out.2 (by simp; omega) ?_; intro v' w5 hown' hgrow _; obtain ⟨q1, q2, q9⟩ := r4.grownK _ hgrow; have q3 : w5.cell? ⟨w1.heap.size, 3, none⟩ = some (.bool false) := (World.cell?_of_block q9).trans d3; have q4 : w5.frozen? ⟨w1.heap.size, 3, none⟩ = false := (World.frozen?_of_block q9).trans (fz 3); obtain ⟨oa', oc', rfl⟩ := own_slice hown'; have R := r4.pushK (.cells #[.int .i64 1] 3) 1 hown' hgrow)
              refine (hfx _).mono ?_
              rintro e w6 ⟨g, rfl, l1, l2, hg, b6⟩
              simp only [World.size_setCell] at l1 hg b6 ⊢
              have hltR := R.1.lt
              rw [World.size_setCell] at hltR
              have r6' := R.1.later (by rw [World.size_setCell]; exact b6)
              have F1 := Far.ofLst (B := w1.heap.size) l1 (Nat.ne_of_gt hltR)
              have F2 := Far.ofLst (B := w1.heap.size) l2 (by omega)
              have b6' : Below w1.heap.size w4 w6 := R.2.trans (b6.mono (Nat.le_of_lt hltR))
              have hsy := symbols26 (some ⟨w5.heap.size, 0, none⟩) (some ⟨g, 0, none⟩) 288 32 288 32 w1.heap.size FS FD L oa oc limit _ ov _ _ r6' lS lD (by omega) (by omega) F1 F2 H258
              clear l1 l2 b6 hfx F1 F2 lS lD q1 q2 q3 q4 q9 hown' hgrow R
              go_wp2_with fail
              refine hsy.mono ?_
              rintro e w7 ⟨rfl, ⟨ov6, r6⟩, f6'⟩
              have f6 := b6'.trans f6'.below
              clear hsy r6' b6' f6'
              go_wp2
              go_roundw
              case rel => exact ⟨f, a, _, ov6, _, rfl, ha01, r6, b4.trans f6, HF2, by have := HBK.out.1; omega, HBK.out.2.1, HBK.out.2.2⟩
              case measure => have := HBK.out.1; have := r6.hpos; rw [r6.posW, hpw.out]; omega
            · have e : Rf.block L limit 2 { st4 with kinds := st4.kinds ++ [2] } = Rf.own L limit { st4 with kinds := st4.kinds ++ [2] } := (if_neg (by decide)).trans ((if_neg (by decide)).trans (if_pos rfl))
              rw [e] at HF2 HBK
              clear e
              go_wp2_with (at_builtin; refine wpList_append_own _ rfl _ _ 24 rfl (w1.heap.size + 1) 3 i0 (.int .i64 0) 1 8 Tryz.underlying24 hi hz0 hz1 hz2 rfl (by decide) _ _ _ rfl (r4.hk.alloc _) ⟨w4.heap.size, 0, none⟩ 1 1 [.int .i64 2] rfl rfl (cell_one_new _ _ _) (by intro u hu; simp at hu; subst hu; rfl) HB.out.1 HB.out.2 (by simp; omega) ?_; intro v' w5 hown' hgrow _; obtain ⟨q1, q2, _⟩ := r4.grownK _ hgrow; obtain ⟨oa', oc', rfl⟩ := own_slice hown'; have R := r4.pushK (.cells #[.int .i64 2] 3) 2 hown' hgrow)
              refine (own27 w1.heap.size L oa oc limit _ ov _ _ R.1 H258).mono ?_
              rintro e w6 ⟨rfl, ⟨ov6, r6⟩, f6'⟩
              have f6 := f6'.below
              go_wp2
              go_roundw
              case rel => exact ⟨f, a, _, ov6, _, rfl, ha01, r6, (b4.trans R.2).trans f6, HF2, by have := HBK.out.1; omega, HBK.out.2.1, HBK.out.2.2⟩
              case measure => have := HBK.out.1; have := r6.hpos; rw [r6.posW, hpw.out]; omega
            · have e : Rf.block L limit 3 { st4 with kinds := st4.kinds ++ [3] } = { st4 with kinds := st4.kinds ++ [3], bad := true } := (if_neg (by decide)).trans ((if_neg (by decide)).trans (if_neg (by decide)))
              rw [e] at HF2 HBK
              clear e
              go_wp2_with (at_builtin; refine wpList_append_own _ rfl _ _ 24 rfl (w1.heap.size + 1) 3 i0 (.int .i64 0) 1 8 Tryz.underlying24 hi hz0 hz1 hz2 rfl (by decide) _ _ _ rfl (r4.hk.alloc _) ⟨w4.heap.size, 0, none⟩ 1 1 [.int .i64 3] rfl rfl (cell_one_new _ _ _) (by intro u hu; simp at hu; subst hu; rfl) HB.out.1 HB.out.2 (by simp; omega) ?_; intro v' w5 hown' hgrow _; obtain ⟨q1, q2, q9⟩ := r4.grownK _ hgrow; have q3 : w5.cell? ⟨w1.heap.size, 3, none⟩ = some (.bool false) := (World.cell?_of_block q9).trans d3; have q4 : w5.frozen? ⟨w1.heap.size, 3, none⟩ = false := (World.frozen?_of_block q9).trans (fz 3); obtain ⟨oa', oc', rfl⟩ := own_slice hown'; have R := r4.pushK (.cells #[.int .i64 3] 3) 3 hown' hgrow)
              have r6 := R.1.set 3 (.bool true) { st4 with kinds := st4.kinds ++ [3], bad := true } rfl rfl rfl R.1.hpos
              have f6 := (b4.trans R.2).setCell (p := ⟨w1.heap.size, 3, none⟩) (Nat.le_refl _) (.bool true)
              clear q1 q2 q3 q4 q9 hown' hgrow R
              go_roundw
              case rel => exact ⟨f, a, _, ov, _, rfl, ha01, r6, f6, HF2, by show _ ≤ f + st4.pos; omega, HBK.out.2.1, HBK.out.2.2⟩
              case measure => rw [r6.posW, hpw.out]; show L.length - st4.pos < _; have h9 : st4.pos ≤ L.length := r6.hpos; omega
          · rw [hb4] at d3
            rw [if_pos hb4] at HF2
            go_wp2
            go_meet
            case rel => exact ⟨ov, kv, by rw [HF2.out]; exact r4, b4⟩
        · have HE : Hid (RES = st) := by show _ = _; rw [HF.out, Rf.infF, if_pos (.inr hst)]
          go_wp2
          go_meet
          case rel => exact ⟨ov, kv, by rw [HE.out]; exact r2, b2⟩
      · have HE : Hid (RES = st) := by show _ = _; rw [HF.out, Rf.infF, if_pos (.inl (by decide))]
        go_wp2
        go_meet
        case rel => exact ⟨ov, kv, by rw [HE.out]; exact r2, b2⟩
  case rest =>
    clear r1 hRES2
    obtain ⟨ov, kv, r2, b2⟩ := hcut
    obtain ⟨d0, d1, d2, d3, d4, d5, d6, fz⟩ := r2.cells
    have HB : Hid (Below w.heap.size w wc) := HBW.trans (b2.mono HBW.size)
    cases hf : RES.full
    · rw [hf] at d4
      cases hb : RES.bad
      · rw [hb] at d3
        have hpz := r2.hpos
        have hlz := r2.hlen
        have hcv : ∀ n, (convert 107 9 ov).run Tryz.prog (wc.drewN n) = .ok (.string ⟨RES.out.toArray⟩) (wc.drewN n) := fun n => own_string (w := wc.drewN n) r2.ho rfl
        have hcv0 : (convert 107 9 ov).run Tryz.prog wc = .ok (.string ⟨RES.out.toArray⟩) wc := own_string r2.ho rfl
        have HA : Hid (a1 RES = .string ⟨RES.out.toArray⟩ ∧ a2 RES = .int .i64 (((RES.pos + 7) / 8 : Nat) : Int) ∧ a3 RES = .int .i64 0) := by show _ ∧ _; unfold a1 a2 a3; rw [hf, hb]; exact ⟨rfl, rfl, rfl⟩
        go_wp2
        go_quiet (fail)
        go_wp2
        refine bodyPost_ret (v := .tuple #[.string ⟨RES.out.toArray⟩, .int .i64 (((RES.pos : Int) + 7) / 8), .int .i64 0, kv]) (by simp [results, Tryz.results44, go_sem]) rfl ⟨kv, ?_, below_drewN HB.out _⟩
        rw [HA.out.1, HA.out.2.1, HA.out.2.2, show ((RES.pos : Int) + 7) / 8 = (((RES.pos + 7) / 8 : Nat) : Int) by omega]
      · rw [hb] at d3
        have HA : Hid (a1 RES = .string ⟨#[]⟩ ∧ a2 RES = .int .i64 0 ∧ a3 RES = .int .i64 6) := by show _ ∧ _; unfold a1 a2 a3 code; rw [hf, hb]; exact ⟨rfl, rfl, rfl⟩
        go_wp2
        refine bodyPost_ret (v := .tuple #[.string ⟨#[]⟩, .int .i64 0, .int .i64 6, .slice none 0 0]) (by simp [results, Tryz.results44, go_sem]) rfl ⟨.slice none 0 0, ?_, HB.out⟩
        rw [HA.out.1, HA.out.2.1, HA.out.2.2]
    · rw [hf] at d4
      have HA : Hid (a1 RES = .string ⟨#[]⟩ ∧ a2 RES = .int .i64 0 ∧ a3 RES = .int .i64 7) := by show _ ∧ _; unfold a1 a2 a3 code; rw [hf]; cases RES.bad <;> exact ⟨rfl, rfl, rfl⟩
      go_wp2
      refine bodyPost_ret (v := .tuple #[.string ⟨#[]⟩, .int .i64 0, .int .i64 7, .slice none 0 0]) (by simp [results, Tryz.results44, go_sem]) rfl ⟨.slice none 0 0, ?_, HB.out⟩
      rw [HA.out.1, HA.out.2.1, HA.out.2.2]
end Go.Proofs.YtmfijackgekioaaGreatDoor
