import Derived.Test.YtmfijackgekioaaGreatQGrGs2
import Derived.Test.YtmfijackgekioaaGreatQUuUv2

/-
  A text packed: the program. For Deflates.
-/
namespace Go.Proofs.YtmfijackgekioaaGreat
open Go.RowKit Go.Maps

/-- How far the packing is. -/
def FarT (T : ByteArray) (level per : Nat) (J : World → Nat → Prop) (wr : World) (p k : Nat) (W ks : List Int) : Bool → Prop
  | true => Rf.Whole T.data.toList T.data.toList.length W ks ∧ (W.length + 7) / 8 ≤ T.size + 5 + 5 * (T.size / 65535) ∧ (1 ≤ level → Rf.Per T.data.toList per → per ≤ 32768 → W.length ≤ 11 * per + 31 + 26 * (T.size / 258) + 41 * (T.size / 65535 + 1))
  | false => Rf.Sofar T.data.toList T.data.toList.length W p k ks ∧ p ≤ T.size ∧ (W.length + 7) / 8 ≤ p + 5 * k ∧ J wr p ∧ (1 ≤ level → Rf.Per T.data.toList per → per ≤ 32768 → W.length ≤ if p = 0 then 0 else 11 * per + 31 + 26 * (p / 258) + 41 * k)

theorem far_next {T : ByteArray} {level per : Nat} {J : World → Nat → Prop} {wr w' : World} {p k q : Nat} {W ks : List Int} (h : FarT T level per J wr p k W ks false) (hk : p = 65535 * k) (hq : q = min (p + 65535) T.size) (last : Bool) (hlast : last = decide (q = T.size)) {kk : Nat} {Bk : List Int} {E : Nat} (hk3 : kk ≤ 2) (hE : W.length + 3 + Bk.length = E) (hle : E ≤ (W.length + 10) / 8 * 8 + 32 + 8 * (q - p)) (hco : 1 ≤ level → Rf.Per T.data.toList per → per ≤ 32768 → E ≤ W.length + 3 + (pot per q p + 7)) (hb : Rf.Brings T.data.toList T.data.toList.length (W.length + 3) p q kk Bk) (hJ : J w' q) :
    FarT T level per J w' (p + 65535) (k + 1) (W ++ (hdB last kk ++ Bk)) (ks ++ [(kk : Int)]) last := by
  obtain ⟨hs, hp, hsz, _, hcs⟩ := h
  have hpq : p ≤ q ∧ q ≤ p + 65535 := by omega
  have hcst : 1 ≤ level → Rf.Per T.data.toList per → per ≤ 32768 → E ≤ 11 * per + 31 + 26 * (q / 258) + 41 * (k + 1) := fun a b c => by
    have h1 := hco a b c
    have h2 := hcs a b c
    unfold pot at h1
    by_cases h0 : p = 0
    · rw [if_pos h0] at h2
      subst h0
      split at h1 <;> omega
    · rw [if_neg h0] at h2
      rw [if_neg (by omega)] at h1
      omega
  have hl : (W ++ (hdB last kk ++ Bk)).length = E := by rw [List.length_append, List.length_append, hdB_length]; omega
  have hTl : T.data.toList.length = T.size := by rw [Array.length_toList]; rfl
  cases last with
  | true =>
    have e : q = T.size := of_decide_eq_true hlast.symm
    refine ⟨?_, ?_, ?_⟩
    · rw [e, ← hTl] at hb
      exact Rf.whole_block hs (by omega) hb
    · rw [hl]
      have : k ≤ T.size / 65535 := by omega
      omega
    · rw [hl]
      intro a b c
      have := hcst a b c
      have : k ≤ T.size / 65535 := by omega
      rw [e] at *
      omega
  | false =>
    have e : ¬ q = T.size := of_decide_eq_false hlast.symm
    have e2 : q = p + 65535 := by omega
    subst e2
    refine ⟨Rf.sofar_block hs (by omega) hb, by omega, ?_, hJ, ?_⟩
    · rw [hl]
      omega
    · rw [hl, if_neg (by omega)]
      exact hcst

set_option maxRecDepth 100000 in
set_option maxHeartbeats 8000000 in
theorem bytes30 (T : ByteArray) (level : Nat) (w : World) (hl : level ≤ 2) (hT : T.size ≤ 4500000) :
    Calls Tryz.prog 23 #[.string T, .int .i64 level] w fun e w' => ∃ (P : ByteArray) (W ks : List Int), e = .returned (.string P) ∧ Rf.Holds P.data.toList W ∧ Rf.Whole T.data.toList T.data.toList.length W ks ∧ (W.length + 7) / 8 ≤ T.size + 5 + 5 * (T.size / 65535) ∧ (∀ x ∈ ks, 0 ≤ x ∧ x ≤ (level : Int)) ∧ (1 ≤ level → ∃ per, PerOk T per ∧ (Rf.Per T.data.toList per → per ≤ 32768 → W.length ≤ 11 * per + 31 + 26 * (T.size / 258) + 41 * (T.size / 65535 + 1))) ∧ Below w.heap.size w w' := by
  have k0 := below_alloc w (.cells #[.slice none 0 0, .int .i64 0] 57)
  have hw0 : Writes (w.alloc (.cells #[.slice none 0 0, .int .i64 0] 57)) w.heap.size [] := ⟨_, [], blk_new w _, ⟨rfl, .inl ⟨rfl, rfl⟩⟩, rfl, fun j => by simp [Rf.bitOf]⟩
  have hst := lv_start T level hl hT w.heap.size (w.alloc (.cells #[.slice none 0 0, .int .i64 0] 57)) (by simp)
  go_enter Tryz.func23, Tryz.ntmps23
  go_wp2_with fail
  refine hst.mono ?_
  rintro e u2 ⟨kf, caps, J, R, per, rfl, lv, hpo, hj0, hb2⟩
  have HPO : Hid (1 ≤ level → PerOk T per) := hpo
  clear hpo
  have hw2 := hw0.below hb2
  have B2 : Below w.heap.size w u2 := k0.trans (hb2.mono k0.size)
  have hcall := lv.call
  have HT : Hid (T.size ≤ 4500000) := hT
  have HL : Hid (level ≤ 2) := hl
  clear k0 hw0 hst hb2 hT hl
  go_wp2
  go_loopw [7, 8] (fun sv lv wr => ∃ (p k : Nat) (lst : Bool) (W ks : List Int), sv = .int .i64 p ∧ lv = .bool lst ∧ Hid (p = 65535 * k) ∧ p ≤ T.size + 65535 ∧ Hid (Writes wr w.heap.size W) ∧ Hid (∀ x ∈ ks, 0 ≤ x ∧ x ≤ (level : Int)) ∧ Hid (FarT T level per J wr p k W ks lst) ∧ Below w.heap.size w wr) (fun sv _ _ => T.size + 70000 - (intOf sv).toNat)
  case atStart => exact ⟨0, 0, false, [], [], rfl, rfl, rfl, by omega, hw2, (fun x hx => by cases hx), ⟨Rf.sofar_zero _ _, Nat.zero_le _, by simp, hj0, fun _ _ _ => by simp⟩, B2⟩
  case round =>
    clear hj0 hw2 B2
    obtain ⟨p, k, lst, W, ks, rfl, rfl, HK, hpT, HW, HKS, HF, hbe⟩ := hrel
    cases lst
    · have hJ : J wr p := HF.out.2.2.2.1
      have hp := HF.out.2.1
      have hsz := HF.out.2.2.1
      obtain ⟨q, hq⟩ : ∃ q, min (p + 65535) T.size = q := ⟨_, rfl⟩
      obtain ⟨pe, hpe⟩ : ∃ pe, IntKind.i64.wrap ((p : Int) + 65535) = pe := ⟨_, rfl⟩
      have hpe2 : pe = ((p + 65535 : Nat) : Int) := by rw [← hpe]; exact (IntWalk.i64_in _ (by have := HT.out; omega)).trans (by omega)
      have hmin : min pe (T.size : Int) = (q : Int) := by omega
      have hq1 : p ≤ q := by omega
      have hq2 : q ≤ p + 65535 := by omega
      have hq3 : q ≤ T.size := by omega
      have HQ : Hid (q = min (p + 65535) T.size) := hq.symm
      have HPE : Hid (pe = ((p + 65535 : Nat) : Int)) := hpe2
      have hWl : Hid (W.length ≤ 80000000) := by have := HK.out; have := HT.out; show _ ≤ _; omega
      obtain ⟨last, hlast⟩ : ∃ last, last = decide (q = T.size) := ⟨_, rfl⟩
      have hlv : ((q : Int) == (T.size : Int)) = last := by rw [hlast]; rw [Bool.eq_iff_iff]; simp; omega
      have hlv2 : (q : Int) = (T.size : Int) ↔ last = true := by rw [hlast]; simp; omega
      have HLA : Hid (last = decide (q = T.size)) := hlast
      have hS : True := trivial
      have hsp := lv.split wr.drew p q W (lv.drew _ _ hJ) (HW.out.drewN 1) hq1 hq2 hq3 HQ.out
      have hqi : (q : Int) ≤ (T.size : Int) := by omega
      have hpqi : (p : Int) ≤ (q : Int) := by omega
      have hbd : Below w.heap.size w wr.drew := hbe.drew
      clear hq hpe2 hlast hJ hp hsz HW hbe
      go_wp2_with fail
      refine regionZ (by kernel_rfl) (fun _ => True) 999 ?_
      generalize wr.drew = v0 at *
      refine anyZ_take (i := 0) (v := ?_) rfl (by kernel_rfl) (by kernel_rfl) (by kernel_rfl) (by kernel_rfl) (fun _ _ _ h => h) (by kernel_rfl) ?_ hS ?_
      rotate_left
      · intro w hSw; (try dsimp only at hSw); go_simp; try with_reducible rfl
      try simp only [Act.put]
      refine anyZ_take (i := 1) (v := ?_) rfl (by kernel_rfl) (by kernel_rfl) (by kernel_rfl) (by kernel_rfl) (fun _ _ _ h => h) (by kernel_rfl) ?_ hS ?_
      rotate_left
      · intro w hSw; (try dsimp only at hSw); go_simp; try with_reducible rfl
      try simp only [Act.put]
      refine anyZ_take (i := 2) (v := ?_) rfl (by kernel_rfl) (by kernel_rfl) (by kernel_rfl) (by kernel_rfl) (fun _ _ _ h => h) (by kernel_rfl) ?_ hS ?_
      rotate_left
      · intro w hSw; (try dsimp only at hSw); go_simp; try with_reducible rfl
      try simp only [Act.put]
      refine anyZ_take (i := 3) (v := ?_) rfl (by kernel_rfl) (by kernel_rfl) (by kernel_rfl) (by kernel_rfl) (fun _ _ _ h => h) (by kernel_rfl) ?_ hS ?_
      rotate_left
      · intro w hSw; (try dsimp only at hSw); go_simp; try with_reducible rfl
      try simp only [Act.put]
      refine anyZ_take (i := 4) (v := .string (T.extract p q)) rfl (by kernel_rfl) (by kernel_rfl) (by kernel_rfl) (by kernel_rfl) (fun _ _ _ h => h) (by kernel_rfl) ?_ hS ?_
      · intro w hSw; (try dsimp only at hSw); go_simp; try with_reducible rfl
      simp only [Act.put]
      refine anyZ_take (i := 5) (v := ?_) rfl (by kernel_rfl) (by kernel_rfl) (by kernel_rfl) (by kernel_rfl) (fun _ _ _ h => h) (by kernel_rfl) ?_ hS ?_
      rotate_left
      · intro w hSw; (try dsimp only at hSw); go_simp; try with_reducible rfl
      try simp only [Act.put]
      refine anyZ_take (i := 6) (v := ?_) rfl (by kernel_rfl) (by kernel_rfl) (by kernel_rfl) (by kernel_rfl) (fun _ _ _ h => h) (by kernel_rfl) ?_ hS ?_
      rotate_left
      · intro w hSw; (try dsimp only at hSw); go_simp; try with_reducible rfl
      try simp only [Act.put]
      refine anyZ_take (i := 7) (v := ?_) rfl (by kernel_rfl) (by kernel_rfl) (by kernel_rfl) (by kernel_rfl) (fun _ _ _ h => h) (by kernel_rfl) ?_ hS ?_
      rotate_left
      · intro w hSw; (try dsimp only at hSw); go_simp; try with_reducible rfl
      try simp only [Act.put]
      refine anyZ_take (i := 9) (v := ?_) rfl (by kernel_rfl) (by kernel_rfl) (by kernel_rfl) (by kernel_rfl) (fun _ _ _ h => h) (by kernel_rfl) ?_ hS ?_
      rotate_left
      · intro w hSw; (try dsimp only at hSw); go_simp; try with_reducible rfl
      try simp only [Act.put]
      refine anyZ_take (i := 10) (v := ?_) rfl (by kernel_rfl) (by kernel_rfl) (by kernel_rfl) (by kernel_rfl) (fun _ _ _ h => h) (by kernel_rfl) ?_ hS ?_
      rotate_left
      · intro w hSw; (try dsimp only at hSw); go_simp; try with_reducible rfl
      try simp only [Act.put]
      refine anyZ_one (i := 8) (by kernel_rfl) rfl (fun K hK => ?_)
      go_simp
      refine hsp.mono ?_
      rintro e v1 ⟨sv1, rfl, hr1, hw1, hb1⟩
      refine hK _ _ (fun _ => trivial) ?_
      clear hK K hsp
      have hpl := lv.plans v1 p q sv1 W last hr1 hw1 hWl.out hq1 hq2 hq3
      refine anyZ_one (i := 11) (by kernel_rfl) rfl (fun K hK => ?_)
      go_simp
      refine hpl.mono ?_
      rintro e v2 ⟨pv, rfl, C, po, hC⟩
      have HC : Hid (1 ≤ level → Rf.Per T.data.toList per → per ≤ 32768 → C ≤ pot per q p + 7) := hC
      clear hC
      refine hK _ _ (fun _ => trivial) ?_
      clear hK K hpl
      refine anyZ_one (i := 12) (by kernel_rfl) rfl (fun K hK => ?_)
      go_simp
      refine hK _ _ (fun _ => trivial) ?_
      clear hK K
      refine anyZ_done (by kernel_rfl) ?_ _
      obtain ⟨⟨x0, rst, hown, hx0, hall, hrl, hfx⟩, hbe2⟩ := po
      have HFX : Hid (1 ≤ level → ∃ y ∈ x0 :: rst, y.1 = W.length + 3 + C) := fun h => by
        obtain ⟨y, hy, he⟩ := hfx h
        exact ⟨y, List.mem_cons_of_mem _ hy, he⟩
      clear hfx
      obtain ⟨g, cap, hpv⟩ : ∃ g cap, pv = .slice (some ⟨g, 0, none⟩) (x0 :: rst).length cap := by
        rcases hown.2 with ⟨_, h0⟩ | ⟨g, cap, cur, hv, _⟩
        · simp at h0
        · exact ⟨g, cap, hv⟩
      subst hpv
      have hmn := min50 g cap (x0 :: rst).length (x0 :: rst) v2 rfl (by simp) (by simp only [List.length_cons]; omega) (hown.lt g rfl).2 (fun j hj => pl_cells hown rfl j hj)
      have hw2 := hw1.below hbe2
      have hr2 := lv.below v1 v2 p q sv1 hr1 hbe2
      have hx0e : ((x0 :: rst).getD 0 (0, 0, #[])).1 = x0.1 := rfl
      rw [hx0e, hx0] at hmn
      have BB2 : Below w.heap.size w v2 := hbd.trans (hb1.trans (hbe2.mono (Nat.le_of_lt hw1.lt)))
      clear hown hx0 hx0e hr1 hw1 hb1 hbe2 hbd
      generalize (x0 :: rst).length = nn at *
      go_wp2_with fail
      refine hmn.mono ?_
      rintro e v3 ⟨x, hx, rfl, ⟨hle, hmin⟩, hb3⟩
      have HCO : Hid (1 ≤ level → Rf.Per T.data.toList per → per ≤ 32768 → x.1 ≤ W.length + 3 + (pot per q p + 7)) := fun a b c => by
        obtain ⟨y, hy, he⟩ := HFX.out a
        have h1 := hmin y hy
        have h2 := HC.out a b c
        omega
      clear hmin HFX HC
      obtain ⟨hpn, _⟩ := hall x hx
      have hcl := hpn.call
      have hdo := hpn.does v3 (Kq.ofBelow hb3) (hw2.below hb3)
      have hr3 := lv.below v2 v3 p q sv1 hr2 hb3
      have BB3 : Below w.heap.size w v3 := BB2.trans (hb3.mono BB2.size)
      clear hmn hall hx hpn hr2 hw2 BB2 hb3
      obtain ⟨xE, xf, xc⟩ := x
      simp only at hcl hdo hle
      have hfld : ∀ u : World, (Instr.field 64 (plV (xE, xf, xc)) 1).run Tryz.prog u = .ok (.func (.func xf) #[] xc) u := fun u => by kernel_rfl
      go_wp2_with fail
      refine hdo.mono ?_
      rintro e v4 ⟨rfl, kk, Bk, hkk, hw4, hlen, hbr, f4⟩
      have HW4 : Hid (Writes v4 w.heap.size (W ++ (hdB last kk ++ Bk))) := hw4
      have HF4 : Hid (FarT T level per J v4 (p + 65535) (k + 1) (W ++ (hdB last kk ++ Bk)) (ks ++ [(kk : Int)]) last) := far_next HF.out HK.out HQ.out last HLA.out (by have := HL.out; omega) hlen hle HCO.out hbr (lv.next v3 v4 p q sv1 hr3 f4)
      have HKS4 : Hid (∀ x ∈ ks ++ [(kk : Int)], 0 ≤ x ∧ x ≤ (level : Int)) := fun x hx => by
        rcases List.mem_append.1 hx with q | q
        · exact HKS.out x q
        · rw [List.mem_singleton.1 q]
          omega
      have BB4 : Below w.heap.size w v4 := BB3.trans f4.below
      have HK4 : Hid (p + 65535 = 65535 * (k + 1)) := by show _ = _; have := HK.out; omega
      have hpp : p + 65535 ≤ T.size + 65535 := by omega
      clear hdo hcl hw4 hlen hbr f4 hr3 BB3 hle hkk HF HKS HK hWl hq1 hq2 hq3 hqi hpqi hmin hlv hlv2 HLA HQ
      go_wp2
      go_roundw
      case rel => exact ⟨p + 65535, k + 1, last, _, _, by rw [HPE.out], rfl, HK4, hpp, HW4, HKS4, HF4, BB4⟩
      case measure => rw [HPE.out]; simp [intOf]; omega
    · obtain ⟨pv, P, hwr⟩ := HW.out
      obtain ⟨c0, c1, fz⟩ := hwr.cells
      have hcv := own_string hwr.own rfl
      have HH : Hid (_ ∧ _) := ⟨hwr.hold, HF.out⟩
      have hBl := hwr.lt
      clear hwr HW HF lv hcall
      go_wp2
      go_ret
      exact ⟨⟨P.toArray⟩, W, ks, rfl, by simpa using HH.out.1, HH.out.2.1, HH.out.2.2.1, HKS.out, fun h => ⟨per, HPO.out h, HH.out.2.2.2 h⟩, hbe⟩
end Go.Proofs.YtmfijackgekioaaGreat

/-
  Deflate: the call's face. For Deflates, Packed, Small.
-/
namespace Go.Proofs.YtmfijackgekioaaGreat
open Go.RowKit

set_option maxRecDepth 100000 in
set_option maxHeartbeats 2000000 in
theorem hasLevel29 (n : Int) (w : World) (c : Bool) (hc : c = (decide (0 ≤ n) && decide (n ≤ 2))) : Calls Tryz.prog 18 #[.int .i64 n] w fun e w' => e = .returned (.bool c) ∧ w' = w := by
  have HC : Hid (c = (decide (0 ≤ n) && decide (n ≤ 2))) := hc
  clear hc
  go_enter Tryz.func18, Tryz.ntmps18
  go_wp2
  all_goals go_ret
  all_goals refine ⟨ret_bool ?_, rfl⟩
  all_goals rw [HC.out]
  all_goals (rw [Bool.eq_iff_iff]; simp; try omega)

set_option maxRecDepth 100000 in
set_option maxHeartbeats 2000000 in
theorem deflate13 (b : ByteArray) (level : Nat) (w : World) (hl : level ≤ 2) (hb : b.size ≤ 4500000) :
    Calls Tryz.prog 11 #[.string b, .int .i64 level] w fun e w' => ∃ (P : ByteArray) (W ks : List Int), e = .returned (.tuple #[.string P, .int .i64 0]) ∧ Rf.Holds P.data.toList W ∧ Rf.Whole b.data.toList b.data.toList.length W ks ∧ (W.length + 7) / 8 ≤ b.size + 5 + 5 * (b.size / 65535) ∧ (∀ x ∈ ks, 0 ≤ x ∧ x ≤ (level : Int)) ∧ (1 ≤ level → ∃ per, PerOk b per ∧ (Rf.Per b.data.toList per → per ≤ 32768 → W.length ≤ 11 * per + 31 + 26 * (b.size / 258) + 41 * (b.size / 65535 + 1))) ∧ Below w.heap.size w w' := by
  have hby := bytes30 b level w hl hb
  have hlv := hasLevel29 (level : Int) w true (by simp; omega)
  clear hl hb
  go_enter Tryz.func11, Tryz.ntmps11
  go_wp2_with fail
  refine hlv.mono ?_
  rintro e w' ⟨rfl, rfl⟩
  go_wp2_with fail
  refine hby.mono ?_
  rintro e w1 ⟨P, W, ks, rfl, h1, h2, h3, h4, h5, h6⟩
  have HH : Hid (_ ∧ _ ∧ _ ∧ _ ∧ _ ∧ _) := ⟨h1, h2, h3, h4, h5, h6⟩
  clear h1 h2 h3 h4 h5 h6 hby hlv
  go_wp2
  exact bodyPost_ret (v := .tuple #[.string P, .int .i64 0]) (by simp [results, Tryz.results11, go_sem]) rfl ⟨P, W, ks, rfl, HH.out⟩

set_option maxRecDepth 100000 in
set_option maxHeartbeats 2000000 in
theorem deflate13n (b : ByteArray) (n : Int) (w : World) (h : ¬ (0 ≤ n ∧ n ≤ 2)) :
    Calls Tryz.prog 11 #[.string b, .int .i64 n] w fun e w' => e = .returned (.tuple #[.string ⟨#[]⟩, .int .i64 5]) ∧ w' = w := by
  have hlv := hasLevel29 n w false (by simp; omega)
  clear h
  go_enter Tryz.func11, Tryz.ntmps11
  go_wp2_with fail
  refine hlv.mono ?_
  rintro e w' ⟨rfl, rfl⟩
  go_wp2
  exact bodyPost_ret (v := .tuple #[.string ⟨#[]⟩, .int .i64 5]) (by simp [results, Tryz.results11, go_sem]) rfl ⟨rfl, rfl⟩
end Go.Proofs.YtmfijackgekioaaGreat
