import Derived.Test.YtmfijackgekioaaGreatDoorQRwRg7

namespace Go.Proofs.YtmfijackgekioaaGreatDoor
open Go.RowKit

set_option maxRecDepth 100000 in
set_option maxHeartbeats 8000000 in
theorem listed48 (a1 : Option Addr) (c1 n1 n B : Nat) (ls L : List Int) (ao : Option Addr) (cap : Nat) (limit : Int) (st : Rf.St) (ov kv : Value) (w : World) (hr : Rep w B L ao cap limit st ov kv)
    (hl1 : ls.length = n1) (hn1 : n1 ≤ 19) (hn : n ≤ 320) (hA1 : Apart w B a1 ls) :
    Calls Tryz.prog 115 #[.pointer (some ⟨B, 0, none⟩), .slice a1 n1 c1, .int .i64 n] w
      fun e w' => ∃ v, e = .returned v ∧ Rep w' B L ao cap limit (Rf.listed L ls n st).2 ov kv ∧ Kp (· = B) w w' ∧
        ((Rf.listed L ls n st).2.bad = false → w'.ownsRow (w.heap.size + 1) 3 1 v n (vals (Rf.listed L ls n st).1) ∧ (Rf.listed L ls n st).1.length = n) := by
  obtain ⟨i0, hi, hz0, hz1, hz2⟩ := info_parts Tryz.info3
  have hlt := hr.lt
  have hbits := hr.hb
  go_enter Tryz.func115, Tryz.ntmps115
  go_wp2_with fail
  refine (codes44 a1 c1 ls n1 _ hl1 (by omega) hA1.ints (fun a e e2 => (hA1.ne a e e2).2)).mono ?_
  rintro e w1 ⟨rfl, q1, b1⟩
  have r1 := hr.later b1
  have hw1 : w.heap.size < w1.heap.size := lt_of_block q1
  have hov : ∀ g, ov.ownBlock = some g → g < w1.heap.size := fun g hg => (r1.ho.lt g hg).2
  have hkv : ∀ g, kv.ownBlock = some g → g < w1.heap.size := fun g hg => (r1.hk.lt g hg).2
  have A1 : Apart w1 B a1 ls := hA1.later (Kp.ofBelow b1)
  have hcl : (Rf.codes ls).length = n1 := by rw [Rf.codes_length, hl1]
  have A2 : Apart w1 B (some ⟨w.heap.size, 0, none⟩) (Rf.codes ls) := ⟨Lst.ints q1, fun a e _ => by cases e; exact ⟨Nat.ne_of_gt hlt, hw1⟩⟩
  have HK : Hid (Kp (· = B) w w1) := Kp.ofBelow b1
  obtain ⟨RES, hRES⟩ : ∃ RES, RES = Rf.lsF L ls (Rf.codes ls) n (n + 1) [] st := ⟨_, rfl⟩
  have HL : Hid (Rf.listed L ls n st = if RES.1.length = n then RES else (RES.1, { RES.2 with bad := true })) := by show _ = _; rw [hRES]; rfl
  clear q1 b1 hr hA1
  generalize Rf.codes ls = cd at *
  go_wp2
  go_loopw [8] (fun v wr => ∃ (f : Nat) (out : List Int) (st' : Rf.St), wr.ownsRow w1.heap.size 3 1 v out.length (vals out) ∧ Rep wr B L ao cap limit st' ov kv ∧ Kp (· = B) w1 wr ∧ Hid (RES = Rf.lsF L ls cd n f out st') ∧ n + 1 ≤ f + out.length ∧ out.length ≤ n + 140) (fun v _ => n + 140 - lenV v)
  case atStart => exact ⟨n + 1, [], st, World.ownsRow_nil _ _ _ _, r1, Kp.refl _ _, hRES, by simp, by simp⟩
  case round =>
    clear hRES r1
    obtain ⟨f, out, st', hown, r2, kp, HF, hfu, hol⟩ := hrel
    obtain ⟨oa, oc, rfl⟩ := own_slice hown
    obtain ⟨d0, d1, d2, d3, d4, d5, d6, fz⟩ := r2.cells
    by_cases hdone : n ≤ out.length ∨ st'.bad = true
    · have HE : Hid (RES = (out, st')) := by
        show _ = _
        rw [HF.out]
        cases f with
        | zero => rfl
        | succ f => rw [Rf.lsF, if_pos hdone]
      clear HF
      have HKW : Hid (Kp (· = B) w wr) := HK.out.trans kp
      by_cases hln : out.length = n
      · have hln' : ((out.length : Int) != (n : Int)) = false := by simp [hln]
        have HL2 : Hid (Rf.listed L ls n st = (out, st')) := by show _ = _; rw [HL.out, HE.out, if_pos hln]
        have HO : Hid (wr.ownsRow (w.heap.size + 1) 3 1 (.slice oa out.length oc) n (vals out)) := by
          have h := own_mono hown (show w.heap.size + 1 ≤ w1.heap.size from hw1)
          rw [hln] at h ⊢
          exact h
        have HLN : Hid (out.length = n) := hln
        have hge : (n : Int) ≤ (out.length : Int) := by omega
        have hnl : ¬ ((out.length : Int) < (n : Int)) := by omega
        clear hown hln
        go_wp2
        go_ret
        refine ⟨_, rfl, ?_, HKW.out, fun _ => ?_⟩
        · rw [HL2.out]; exact r2
        · rw [HL2.out]; exact ⟨HO.out, HLN.out⟩
      · have hln' : ((out.length : Int) != (n : Int)) = true := by simp; omega
        have HL2 : Hid (Rf.listed L ls n st = (out, { st' with bad := true })) := by show _ = _; rw [HL.out, HE.out, if_neg hln]
        have HR : Hid (Rep (wr.setCell ⟨B, 3, none⟩ (.bool true)) B L ao cap limit { st' with bad := true } ov kv) := r2.set 3 (.bool true) _ rfl rfl rfl r2.hpos
        cases hbd : st'.bad
        · rw [hbd] at d3
          have hge : (n : Int) ≤ (out.length : Int) := by rw [hbd] at hdone; simp at hdone; omega
          go_wp2
          go_ret
          refine ⟨_, rfl, ?_, HKW.out.set1 _ _, fun h => ?_⟩
          · rw [HL2.out]; exact HR.out
          · rw [HL2.out] at h; cases h
        · rw [hbd] at d3
          by_cases hge : (n : Int) ≤ (out.length : Int)
          · go_wp2
            go_ret
            refine ⟨_, rfl, ?_, HKW.out.set1 _ _, fun h => ?_⟩
            · rw [HL2.out]; exact HR.out
            · rw [HL2.out] at h; cases h
          · go_wp2
            go_ret
            refine ⟨_, rfl, ?_, HKW.out.set1 _ _, fun h => ?_⟩
            · rw [HL2.out]; exact HR.out
            · rw [HL2.out] at h; cases h
    · have hlt2 : out.length < n := by omega
      have hb' : st'.bad = false := by cases h : st'.bad <;> simp_all
      rw [hb'] at d3
      obtain ⟨f, rfl⟩ : ∃ g, f = g + 1 := ⟨f - 1, by omega⟩
      have B1 := A1.later kp
      have B2 := A2.later kp
      go_wp2_with fail
      refine (symbol45 a1 (some ⟨w.heap.size, 0, none⟩) c1 n1 n1 B ls cd L ao cap limit st' ov kv _ r2 hl1 hcl (by omega) B1 B2).mono ?_
      rintro e w2 ⟨rfl, r3, k3⟩
      have kp3 := kp.trans k3
      have hsr := Rf.symbol_range L ls cd st'
      have HF2 : Hid (RES = if (Rf.symbol L ls cd st').2.bad = true then ([], (Rf.symbol L ls cd st').2)
        else if (Rf.symbol L ls cd st').1 < 16 then Rf.lsF L ls cd n f (out ++ [(Rf.symbol L ls cd st').1]) (Rf.symbol L ls cd st').2
        else if (Rf.symbol L ls cd st').1 = 16 then
          (if out = [] then ([], { (Rf.take L (Rf.symbol L ls cd st').2 2).2 with bad := true }) else Rf.lsF L ls cd n f (out ++ List.replicate (3 + (Rf.take L (Rf.symbol L ls cd st').2 2).1.toNat) (out.getD (out.length - 1) 0)) (Rf.take L (Rf.symbol L ls cd st').2 2).2)
        else if (Rf.symbol L ls cd st').1 = 17 then Rf.lsF L ls cd n f (out ++ List.replicate (3 + (Rf.take L (Rf.symbol L ls cd st').2 3).1.toNat) 0) (Rf.take L (Rf.symbol L ls cd st').2 3).2
        else Rf.lsF L ls cd n f (out ++ List.replicate (11 + (Rf.take L (Rf.symbol L ls cd st').2 7).1.toNat) 0) (Rf.take L (Rf.symbol L ls cd st').2 7).2) := by
        show _ = _; rw [HF.out, Rf.lsF, if_neg hdone]
      have own3 : w2.ownsRow w1.heap.size 3 1 (.slice oa out.length oc) out.length (vals out) := own_blk hown (fun g hg => k3.block g (hown.lt g hg).2 (fun e => by have := (hown.lt g hg).1; omega))
      clear r2 kp k3 HF d0 d1 d2 d3 d4 d5 d6 fz B1 B2 hown
      generalize Rf.symbol L ls cd st' = SY at *
      obtain ⟨s, st3⟩ := SY
      simp only at r3 hsr HF2 ⊢
      obtain ⟨d0, d1, d2, d3, d4, d5, d6, fz⟩ := r3.cells
      cases hb3 : st3.bad
      · rw [hb3] at d3 HF2
        simp only [Bool.false_eq_true, if_false] at HF2
        have hs19 : s < 19 := by have := hsr.2 hb3; omega
        have hs0 := hsr.1
        clear hsr
        have hlo : out.length < 320 := by omega
        by_cases h16 : s < 16
        · rw [if_pos h16] at HF2
          have HX : Hid (RES = Rf.lsF L ls cd n f (out ++ List.replicate 1 s) st3) := HF2
          clear HF2
          go_wp2
          go_loopw [8, 15] (fun v i wr => ∃ k : Nat, k ≤ 1 ∧ i = .int .i64 k ∧ wr.ownsRow w1.heap.size 3 1 v (out.length + k) (vals (out ++ List.replicate k s)) ∧ Rep wr B L ao cap limit st3 ov kv ∧ Kp (· = B) w1 wr) (fun _ i _ => 1 - (intOf i).toNat)
          case atStart => exact ⟨0, Nat.zero_le _, rfl, by simpa using own3, r3, kp3⟩
          case round =>
            clear r3 kp3 own3
            obtain ⟨k, hk, rfl, hown, r5, kp5⟩ := hrel
            by_cases hkT : k < 1
            · go_wp2_with (at_builtin; refine wpList_append_own _ rfl _ _ 24 rfl w1.heap.size 3 i0 (.int .i64 0) 1 8 Tryz.underlying24 hi hz0 hz1 hz2 rfl (by decide) _ _ _ rfl (hown.alloc _) ⟨wr.heap.size, 0, none⟩ 1 1 [.int .i64 s] rfl rfl (cell_one_new _ _ _) (by intro u hu; simp at hu; subst hu; rfl) (by unfold maxLen; omega) (by omega) (by have := kp5.size; simp; omega) ?_; intro v' w6 hown' hgrow _)
              have kp6 := (kp5.alloc (.cells #[.int .i64 s] 3)).grown hgrow (fun g hg => .inr (hown.lt g hg).1)
              have r6 : Rep w6 B L ao cap limit st3 ov kv := r5.keep (fun g hg => (hgrow.block g (by have := r5.lt; simp; omega) (fun e => by have := (hown.lt g e.symm).1; omega)).trans (Below.heap_alloc wr _ g (by have := r5.lt; omega)))
                (fun g hg => (hgrow.block g (by have := kp5.size; have := hov g hg; simp; omega) (fun e => by have := (hown.lt g e.symm).1; have := hov g hg; omega)).trans (Below.heap_alloc wr _ g (by have := kp5.size; have := hov g hg; omega)))
                (fun g hg => (hgrow.block g (by have := kp5.size; have := hkv g hg; simp; omega) (fun e => by have := (hown.lt g e.symm).1; have := hkv g hg; omega)).trans (Below.heap_alloc wr _ g (by have := kp5.size; have := hkv g hg; omega)))
              have own6 : w6.ownsRow w1.heap.size 3 1 v' (out.length + (k + 1)) (vals (out ++ List.replicate (k + 1) s)) := by rw [vals_snoc]; exact hown'
              clear hown' hgrow hown r5 kp5
              go_wp2
              go_roundw
              case rel => exact ⟨k + 1, by omega, by go_num, own6, r6, kp6⟩
              case measure => simp [intOf]; omega
            · have hkk : k = 1 := by omega
              subst hkk
              obtain ⟨oa', oc', rfl⟩ := own_slice hown
              have hown2 : wr.ownsRow w1.heap.size 3 1 (.slice oa' (out.length + (1)) oc') (out ++ List.replicate (1) s).length (vals (out ++ List.replicate (1) s)) := by simpa using hown
              clear hown
              go_wp2
              go_roundw
              case rel => exact ⟨f, out ++ List.replicate (1) s, st3, hown2, r5, kp5, HX, by simp; omega, by simp; omega⟩
              case measure => simp [lenV]; omega
        · rw [if_neg h16] at HF2
          by_cases e16 : s = 16
          · rw [if_pos e16] at HF2
            subst e16
            go_wp2_with fail
            refine (take23 2 B L ao cap limit st3 ov kv _ r3 (by omega)).mono ?_
            rintro e w3 ⟨rfl, r4, k4⟩
            have kp4 := kp3.trans k4
            have htr := Rf.take_range hbits st3 2
            have own4 : w3.ownsRow w1.heap.size 3 1 (.slice oa out.length oc) out.length (vals out) := own_blk own3 (fun g hg => k4.block g (own3.lt g hg).2 (fun e => by have := (own3.lt g hg).1; omega))
            generalize Rf.take L st3 2 = TK at *
            obtain ⟨x, st4⟩ := TK
            simp only at r4 htr HF2 ⊢
            obtain ⟨t, rfl⟩ := Int.eq_ofNat_of_zero_le htr.1
            rw [Int.toNat_natCast] at HF2
            have ht4 : (t : Int) < 4 := by omega
            clear r3 kp3 k4 own3 d0 d1 d2 d3 d4 d5 d6 fz htr
            obtain ⟨d0, d1, d2, d3, d4, d5, d6, fz⟩ := r4.cells
            by_cases h0 : out = []
            · rw [if_pos h0] at HF2
              have h0' : ((out.length : Int) == 0) = true := by simp [h0]
              have HR : Hid (Rep (w3.setCell ⟨B, 3, none⟩ (.bool true)) B L ao cap limit { st4 with bad := true } ov kv) := r4.set 3 (.bool true) _ rfl rfl rfl r4.hpos
              go_wp2
              go_ret
              have HL2 : Rf.listed L ls n st = ([], { st4 with bad := true }) := by rw [HL.out, HF2.out, if_neg (by simp; omega)]
              refine ⟨_, rfl, ?_, (HK.out.trans kp4).set1 _ _, fun h => ?_⟩
              · rw [HL2]; exact HR.out
              · rw [HL2] at h; cases h
            · rw [if_neg h0] at HF2
              have h0' : ((out.length : Int) == 0) = false := by simp [h0]
              have hop : 0 < out.length := by cases out with | nil => exact absurd rfl h0 | cons a l => simp
              obtain ⟨g, cp, hsl, _⟩ := own_some own4 hop
              simp only [Value.slice.injEq, true_and] at hsl
              obtain ⟨rfl, rfl⟩ := hsl
              obtain ⟨y, hy⟩ : ∃ y : Int, y = out.getD (out.length - 1) 0 := ⟨_, rfl⟩
              have hcell : w3.cell? ⟨g, out.length - 1, none⟩ = some (.int .i64 y) := (own4.cellAt (out.length - 1) (by omega)).trans (by rw [hy]; simp [vals, List.getD, List.getElem?_eq_getElem (show out.length - 1 < out.length by omega)])
              have HX : Hid (RES = Rf.lsF L ls cd n f (out ++ List.replicate (3 + t) y) st4) := by show _ = _; rw [hy]; exact HF2.out
              clear HF2 hy
              go_wp2
              go_loopw [8, 15] (fun v i wr => ∃ k : Nat, k ≤ 3 + t ∧ i = .int .i64 k ∧ wr.ownsRow w1.heap.size 3 1 v (out.length + k) (vals (out ++ List.replicate k y)) ∧ Rep wr B L ao cap limit st4 ov kv ∧ Kp (· = B) w1 wr) (fun _ i _ => 3 + t - (intOf i).toNat)
              case atStart => exact ⟨0, Nat.zero_le _, rfl, by simpa using own4, r4, kp4⟩
              case round =>
                clear r4 kp4 own4
                obtain ⟨k, hk, rfl, hown, r5, kp5⟩ := hrel
                by_cases hkT : k < 3 + t
                · go_wp2_with (at_builtin; refine wpList_append_own _ rfl _ _ 24 rfl w1.heap.size 3 i0 (.int .i64 0) 1 8 Tryz.underlying24 hi hz0 hz1 hz2 rfl (by decide) _ _ _ rfl (hown.alloc _) ⟨wr.heap.size, 0, none⟩ 1 1 [.int .i64 y] rfl rfl (cell_one_new _ _ _) (by intro u hu; simp at hu; subst hu; rfl) (by unfold maxLen; omega) (by omega) (by have := kp5.size; simp; omega) ?_; intro v' w6 hown' hgrow _)
                  have kp6 := (kp5.alloc (.cells #[.int .i64 y] 3)).grown hgrow (fun g hg => .inr (hown.lt g hg).1)
                  have r6 : Rep w6 B L ao cap limit st4 ov kv := r5.keep (fun g hg => (hgrow.block g (by have := r5.lt; simp; omega) (fun e => by have := (hown.lt g e.symm).1; omega)).trans (Below.heap_alloc wr _ g (by have := r5.lt; omega)))
                    (fun g hg => (hgrow.block g (by have := kp5.size; have := hov g hg; simp; omega) (fun e => by have := (hown.lt g e.symm).1; have := hov g hg; omega)).trans (Below.heap_alloc wr _ g (by have := kp5.size; have := hov g hg; omega)))
                    (fun g hg => (hgrow.block g (by have := kp5.size; have := hkv g hg; simp; omega) (fun e => by have := (hown.lt g e.symm).1; have := hkv g hg; omega)).trans (Below.heap_alloc wr _ g (by have := kp5.size; have := hkv g hg; omega)))
                  have own6 : w6.ownsRow w1.heap.size 3 1 v' (out.length + (k + 1)) (vals (out ++ List.replicate (k + 1) y)) := by rw [vals_snoc]; exact hown'
                  clear hown' hgrow hown r5 kp5
                  go_wp2
                  go_roundw
                  case rel => exact ⟨k + 1, by omega, by go_num, own6, r6, kp6⟩
                  case measure => simp [intOf]; omega
                · have hkk : k = 3 + t := by omega
                  subst hkk
                  obtain ⟨oa', oc', rfl⟩ := own_slice hown
                  have hown2 : wr.ownsRow w1.heap.size 3 1 (.slice oa' (out.length + (3 + t)) oc') (out ++ List.replicate (3 + t) y).length (vals (out ++ List.replicate (3 + t) y)) := by simpa using hown
                  clear hown
                  go_wp2
                  go_roundw
                  case rel => exact ⟨f, out ++ List.replicate (3 + t) y, st4, hown2, r5, kp5, HX, by simp; omega, by simp; omega⟩
                  case measure => simp [lenV]; omega
          · rw [if_neg e16] at HF2
            by_cases e17 : s = 17
            · rw [if_pos e17] at HF2
              subst e17
              go_wp2_with fail
              refine (take23 3 B L ao cap limit st3 ov kv _ r3 (by omega)).mono ?_
              rintro e w3 ⟨rfl, r4, k4⟩
              have kp4 := kp3.trans k4
              have htr := Rf.take_range hbits st3 3
              have own4 : w3.ownsRow w1.heap.size 3 1 (.slice oa out.length oc) out.length (vals out) := own_blk own3 (fun g hg => k4.block g (own3.lt g hg).2 (fun e => by have := (own3.lt g hg).1; omega))
              generalize Rf.take L st3 3 = TK at *
              obtain ⟨x, st4⟩ := TK
              simp only at r4 htr HF2 ⊢
              obtain ⟨t, rfl⟩ := Int.eq_ofNat_of_zero_le htr.1
              rw [Int.toNat_natCast] at HF2
              have ht4 : (t : Int) < 8 := by omega
              have HX : Hid (RES = Rf.lsF L ls cd n f (out ++ List.replicate (3 + t) 0) st4) := HF2
              clear r3 kp3 k4 own3 d0 d1 d2 d3 d4 d5 d6 fz htr HF2
              go_wp2
              go_loopw [8, 15] (fun v i wr => ∃ k : Nat, k ≤ 3 + t ∧ i = .int .i64 k ∧ wr.ownsRow w1.heap.size 3 1 v (out.length + k) (vals (out ++ List.replicate k 0)) ∧ Rep wr B L ao cap limit st4 ov kv ∧ Kp (· = B) w1 wr) (fun _ i _ => 3 + t - (intOf i).toNat)
              case atStart => exact ⟨0, Nat.zero_le _, rfl, by simpa using own4, r4, kp4⟩
              case round =>
                clear r4 kp4 own4
                obtain ⟨k, hk, rfl, hown, r5, kp5⟩ := hrel
                by_cases hkT : k < 3 + t
                · go_wp2_with (at_builtin; refine wpList_append_own _ rfl _ _ 24 rfl w1.heap.size 3 i0 (.int .i64 0) 1 8 Tryz.underlying24 hi hz0 hz1 hz2 rfl (by decide) _ _ _ rfl (hown.alloc _) ⟨wr.heap.size, 0, none⟩ 1 1 [.int .i64 0] rfl rfl (cell_one_new _ _ _) (by intro u hu; simp at hu; subst hu; rfl) (by unfold maxLen; omega) (by omega) (by have := kp5.size; simp; omega) ?_; intro v' w6 hown' hgrow _)
                  have kp6 := (kp5.alloc (.cells #[.int .i64 0] 3)).grown hgrow (fun g hg => .inr (hown.lt g hg).1)
                  have r6 : Rep w6 B L ao cap limit st4 ov kv := r5.keep (fun g hg => (hgrow.block g (by have := r5.lt; simp; omega) (fun e => by have := (hown.lt g e.symm).1; omega)).trans (Below.heap_alloc wr _ g (by have := r5.lt; omega)))
                    (fun g hg => (hgrow.block g (by have := kp5.size; have := hov g hg; simp; omega) (fun e => by have := (hown.lt g e.symm).1; have := hov g hg; omega)).trans (Below.heap_alloc wr _ g (by have := kp5.size; have := hov g hg; omega)))
                    (fun g hg => (hgrow.block g (by have := kp5.size; have := hkv g hg; simp; omega) (fun e => by have := (hown.lt g e.symm).1; have := hkv g hg; omega)).trans (Below.heap_alloc wr _ g (by have := kp5.size; have := hkv g hg; omega)))
                  have own6 : w6.ownsRow w1.heap.size 3 1 v' (out.length + (k + 1)) (vals (out ++ List.replicate (k + 1) 0)) := by rw [vals_snoc]; exact hown'
                  clear hown' hgrow hown r5 kp5
                  go_wp2
                  go_roundw
                  case rel => exact ⟨k + 1, by omega, by go_num, own6, r6, kp6⟩
                  case measure => simp [intOf]; omega
                · have hkk : k = 3 + t := by omega
                  subst hkk
                  obtain ⟨oa', oc', rfl⟩ := own_slice hown
                  have hown2 : wr.ownsRow w1.heap.size 3 1 (.slice oa' (out.length + (3 + t)) oc') (out ++ List.replicate (3 + t) 0).length (vals (out ++ List.replicate (3 + t) 0)) := by simpa using hown
                  clear hown
                  go_wp2
                  go_roundw
                  case rel => exact ⟨f, out ++ List.replicate (3 + t) 0, st4, hown2, r5, kp5, HX, by simp; omega, by simp; omega⟩
                  case measure => simp [lenV]; omega
            · rw [if_neg e17] at HF2
              have e18 : s = 18 := by omega
              subst e18
              go_wp2_with fail
              refine (take23 7 B L ao cap limit st3 ov kv _ r3 (by omega)).mono ?_
              rintro e w3 ⟨rfl, r4, k4⟩
              have kp4 := kp3.trans k4
              have htr := Rf.take_range hbits st3 7
              have own4 : w3.ownsRow w1.heap.size 3 1 (.slice oa out.length oc) out.length (vals out) := own_blk own3 (fun g hg => k4.block g (own3.lt g hg).2 (fun e => by have := (own3.lt g hg).1; omega))
              generalize Rf.take L st3 7 = TK at *
              obtain ⟨x, st4⟩ := TK
              simp only at r4 htr HF2 ⊢
              obtain ⟨t, rfl⟩ := Int.eq_ofNat_of_zero_le htr.1
              rw [Int.toNat_natCast] at HF2
              have ht4 : (t : Int) < 128 := by omega
              have HX : Hid (RES = Rf.lsF L ls cd n f (out ++ List.replicate (11 + t) 0) st4) := HF2
              clear r3 kp3 k4 own3 d0 d1 d2 d3 d4 d5 d6 fz htr HF2
              go_wp2
              go_loopw [8, 15] (fun v i wr => ∃ k : Nat, k ≤ 11 + t ∧ i = .int .i64 k ∧ wr.ownsRow w1.heap.size 3 1 v (out.length + k) (vals (out ++ List.replicate k 0)) ∧ Rep wr B L ao cap limit st4 ov kv ∧ Kp (· = B) w1 wr) (fun _ i _ => 11 + t - (intOf i).toNat)
              case atStart => exact ⟨0, Nat.zero_le _, rfl, by simpa using own4, r4, kp4⟩
              case round =>
                clear r4 kp4 own4
                obtain ⟨k, hk, rfl, hown, r5, kp5⟩ := hrel
                by_cases hkT : k < 11 + t
                · go_wp2_with (at_builtin; refine wpList_append_own _ rfl _ _ 24 rfl w1.heap.size 3 i0 (.int .i64 0) 1 8 Tryz.underlying24 hi hz0 hz1 hz2 rfl (by decide) _ _ _ rfl (hown.alloc _) ⟨wr.heap.size, 0, none⟩ 1 1 [.int .i64 0] rfl rfl (cell_one_new _ _ _) (by intro u hu; simp at hu; subst hu; rfl) (by unfold maxLen; omega) (by omega) (by have := kp5.size; simp; omega) ?_; intro v' w6 hown' hgrow _)
                  have kp6 := (kp5.alloc (.cells #[.int .i64 0] 3)).grown hgrow (fun g hg => .inr (hown.lt g hg).1)
                  have r6 : Rep w6 B L ao cap limit st4 ov kv := r5.keep (fun g hg => (hgrow.block g (by have := r5.lt; simp; omega) (fun e => by have := (hown.lt g e.symm).1; omega)).trans (Below.heap_alloc wr _ g (by have := r5.lt; omega)))
                    (fun g hg => (hgrow.block g (by have := kp5.size; have := hov g hg; simp; omega) (fun e => by have := (hown.lt g e.symm).1; have := hov g hg; omega)).trans (Below.heap_alloc wr _ g (by have := kp5.size; have := hov g hg; omega)))
                    (fun g hg => (hgrow.block g (by have := kp5.size; have := hkv g hg; simp; omega) (fun e => by have := (hown.lt g e.symm).1; have := hkv g hg; omega)).trans (Below.heap_alloc wr _ g (by have := kp5.size; have := hkv g hg; omega)))
                  have own6 : w6.ownsRow w1.heap.size 3 1 v' (out.length + (k + 1)) (vals (out ++ List.replicate (k + 1) 0)) := by rw [vals_snoc]; exact hown'
                  clear hown' hgrow hown r5 kp5
                  go_wp2
                  go_roundw
                  case rel => exact ⟨k + 1, by omega, by go_num, own6, r6, kp6⟩
                  case measure => simp [intOf]; omega
                · have hkk : k = 11 + t := by omega
                  subst hkk
                  obtain ⟨oa', oc', rfl⟩ := own_slice hown
                  have hown2 : wr.ownsRow w1.heap.size 3 1 (.slice oa' (out.length + (11 + t)) oc') (out ++ List.replicate (11 + t) 0).length (vals (out ++ List.replicate (11 + t) 0)) := by simpa using hown
                  clear hown
                  go_wp2
                  go_roundw
                  case rel => exact ⟨f, out ++ List.replicate (11 + t) 0, st4, hown2, r5, kp5, HX, by simp; omega, by simp; omega⟩
                  case measure => simp [lenV]; omega
      · rw [hb3] at d3 HF2
        simp only [if_true] at HF2
        go_wp2
        go_ret
        have HL2 : Rf.listed L ls n st = ([], { st3 with bad := true }) := by rw [HL.out, HF2.out, if_neg (by simp; omega)]
        refine ⟨_, rfl, ?_, HK.out.trans kp3, fun h => ?_⟩
        · rw [HL2, bad_eta st3 hb3]; exact r3
        · rw [HL2] at h; cases h

end Go.Proofs.YtmfijackgekioaaGreatDoor
