import Derived.Test.YtmfijackgekioaaRt
import Derived.Test.YtmfijackgekioaaRo
namespace Go.Proofs.Ytmfijackgekioaa
open Go.RowKit

theorem own_cell {w : World} {base n g cap : Nat} {zs : List Int} (h : w.ownsRow base 3 1 (.slice (some ⟨g, 0, none⟩) n cap) n (vals zs)) (j : Nat) (hj : j < zs.length) : w.cell? ⟨g, j, none⟩ = some (.int .i64 zs[j]) := by
  have hl := h.1
  rcases h.2 with ⟨h', _⟩ | ⟨g', cap', cur, e, _, hb, _, _, _, ht⟩
  · cases h'
  · cases e
    rw [cell_of_row _ _ _ _ _ _ hb]
    have h1 : (cur.toList.take (n * 1))[j]? = cur.toList[j]? := by rw [List.getElem?_take, if_pos (by simp [vals] at hl; omega)]
    rw [ht] at h1
    have h2 : cur[j]? = cur.toList[j]? := by simp
    rw [h2, ← h1]
    simp [vals, hj]
theorem own_far {w : World} {base n g cap B : Nat} {zs : List Int} (h : w.ownsRow base 3 1 (.slice (some ⟨g, 0, none⟩) n cap) n (vals zs)) (hg : g ≠ B) (m : Nat) :
    Far w B (some ⟨g, 0, none⟩) (zs.take m) ∧ Far w B (some ⟨g, m, none⟩) (zs.drop m) := by
  obtain ⟨cur, hb⟩ := own_type h g rfl
  refine ⟨⟨fun j hj => ⟨g, 0, rfl, ?_⟩, fun a e _ => by cases e; exact ⟨hg, _, _, hb⟩⟩, ⟨fun j hj => ⟨g, m, rfl, ?_⟩, fun a e _ => by cases e; exact ⟨hg, _, _, hb⟩⟩⟩
  · have hj' : j < zs.length := by simp at hj; omega
    have := own_cell h j hj'
    simpa using this
  · have hj' : m + j < zs.length := by simp at hj; omega
    have := own_cell h (m + j) hj'
    simpa using this
theorem own_cap {w : World} {base n g cap : Nat} {xs : List Value} (h : w.ownsRow base 3 1 (.slice (some ⟨g, 0, none⟩) n cap) n xs) : n ≤ cap ∧ cap ≤ maxLen ∧ g < w.heap.size := by
  rcases h.2 with ⟨h', _⟩ | ⟨g', cap', cur, e, _, hb, h1, h2, _⟩
  · cases h'
  · cases e
    exact ⟨h1, h2, lt_of_block hb⟩
theorem lsF_out (L ls cd : List Int) (n : Nat) : ∀ (f : Nat) (out : List Int) (st : Rf.St), (Rf.lsF L ls cd n f out st).2.out = st.out ∧ st.pos ≤ (Rf.lsF L ls cd n f out st).2.pos
  | 0, _, _ => ⟨rfl, Nat.le_refl _⟩
  | f + 1, out, st => by
    have h1 := (Rf.symbol_out L ls cd st).1
    have h2 := Rf.symbol_mono L ls cd st
    have t : ∀ k, (Rf.take L (Rf.symbol L ls cd st).2 k).2.out = st.out ∧ st.pos ≤ (Rf.take L (Rf.symbol L ls cd st).2 k).2.pos := fun k => ⟨((Rf.take_out L _ k).1).trans h1, Nat.le_trans h2 (Rf.take_mono L _ k)⟩
    have c : ∀ o s, s.out = st.out ∧ st.pos ≤ s.pos → (Rf.lsF L ls cd n f o s).2.out = st.out ∧ st.pos ≤ (Rf.lsF L ls cd n f o s).2.pos := fun o s hs => ⟨(lsF_out L ls cd n f o s).1.trans hs.1, Nat.le_trans hs.2 (lsF_out L ls cd n f o s).2⟩
    simp only [Rf.lsF]
    split
    · exact ⟨rfl, Nat.le_refl _⟩
    · split
      · exact ⟨h1, h2⟩
      · split
        · exact c _ _ ⟨h1, h2⟩
        · split
          · split
            · exact t 2
            · exact c _ _ (t 2)
          · split
            · exact c _ _ (t 3)
            · exact c _ _ (t 7)
theorem listed_out (L ls : List Int) (n : Nat) (st : Rf.St) : (Rf.listed L ls n st).2.out = st.out ∧ st.pos ≤ (Rf.listed L ls n st).2.pos := by
  have h := lsF_out L ls (Rf.codes ls) n (n + 1) [] st
  unfold Rf.listed
  simp only
  split
  · exact h
  · exact h
theorem sum_range {far : List Int} (h : Rf.Within far 15) : ∀ k, 0 ≤ Rf.sumF far k ∧ Rf.sumF far k ≤ 15 * k ∧ Rf.onesF far k ≤ k
  | 0 => by simp [Rf.sumF, Rf.onesF]
  | k + 1 => by
    have h1 := sum_range h k
    have h2 := h k
    simp only [Rf.sumF, Rf.onesF]
    split <;> omega

theorem bad_bools (L1 L2 : List Int) (x : Int) (n : Nat) (hx : L1.getD 256 0 = x) (hn : L2.length = n) :
    Rf.badLists L1 L2 = ((x == 0) || !Rf.full L1 || (!Rf.full L2 && ((Rf.sumF L2 n != 0) && ((Rf.sumF L2 n != 1) || (((Rf.onesF L2 n : Nat) : Int) != 1))))) := by
  rw [Rf.badLists, hx, hn]
  generalize Rf.sumF L2 n = s
  generalize Rf.onesF L2 n = o
  have e1 : (((o : Nat) : Int) != 1) = decide (o ≠ 1) := by rw [Bool.eq_iff_iff]; simp; omega
  have e2 : (x == 0) = decide (x = 0) := by rw [Bool.eq_iff_iff]; simp
  have e3 : (s != 0) = decide (s ≠ 0) := by rw [Bool.eq_iff_iff]; simp
  have e4 : (s != 1) = decide (s ≠ 1) := by rw [Bool.eq_iff_iff]; simp
  rw [e1, e2, e3, e4]

theorem listed_s (s : Int) (a1 : Option Addr) (c1 n1 n B : Nat) (ls L : List Int) (ao : Option Addr) (cap : Nat) (limit : Int) (st : Rf.St) (ov kv : Value) (w : World) (hr : Rep w B L ao cap limit st ov kv)
    (hl1 : ls.length = n1) (hn1 : n1 ≤ 19) (hn : n ≤ 320) (hA1 : Apart w B a1 ls) (hs : s = (n : Int)) :
    Calls Try.prog 47 #[.pointer (some ⟨B, 0, none⟩), .slice a1 n1 c1, .int .i64 s] w
      fun e w' => ∃ v, e = .returned v ∧ Rep w' B L ao cap limit (Rf.listed L ls n st).2 ov kv ∧ Kp (· = B) w w' ∧
        ((Rf.listed L ls n st).2.bad = false → w'.ownsRow (w.heap.size + 1) 3 1 v n (vals (Rf.listed L ls n st).1) ∧ (Rf.listed L ls n st).1.length = n) := by
  subst hs
  exact listed48 a1 c1 n1 n B ls L ao cap limit st ov kv w hr hl1 hn1 hn hA1

set_option maxRecDepth 100000 in
set_option maxHeartbeats 8000000 in
theorem own27 (B : Nat) (L : List Int) (ao : Option Addr) (cap : Nat) (limit : Int) (st : Rf.St) (ov kv : Value) (w : World) (hr : Rep w B L ao cap limit st ov kv) (hout : Hid (st.out.length ≤ 258 * st.pos)) :
    Calls Try.prog 28 #[.pointer (some ⟨B, 0, none⟩)] w
      fun e w' => e = .returned (.tuple #[]) ∧ (∃ ov', Rep w' B L ao cap limit (Rf.own L limit st) ov' kv) ∧ Fr B w w' := by
  obtain ⟨i0, hi, hz0, hz1, hz2⟩ := info_parts Try.info3
  have hbits := hr.hb
  have hlt := hr.lt
  obtain ⟨Z, hZ⟩ : ∃ Z : List Value, Z = List.replicate 19 (.int .i64 0) := ⟨_, rfl⟩
  have hmk : ∀ u : World, (Instr.makeSlice 27 (.int .i64 19) (.int .i64 19)).run Try.prog u = .ok (.slice (some ⟨u.heap.size, 0, none⟩) 19 19) (u.alloc (.cells Z.toArray 3)) := fun u => make_n 19 (by omega) Z hZ u
  have HZ : Hid (Z = vals (List.replicate 19 0)) := by show _ = _; rw [hZ, vals_replicate]
  clear hZ
  obtain ⟨RES, hRES⟩ : ∃ RES, RES = Rf.own L limit st := ⟨_, rfl⟩
  have HQ : Hid (Rf.own L limit st = RES) := hRES.symm
  unfold Rf.own at hRES
  have HP := hidden hRES
  clear hRES
  go_enter Try.func28, Try.ntmps28
  go_wp2_with fail
  refine (take23 5 B L ao cap limit st ov kv _ hr (by omega)).mono ?_
  rintro e w1 ⟨rfl, r1, k1⟩
  have hh := Rf.take_range hbits st 5
  have ho1 := (Rf.take_out L st 5).1
  have hm1 := Rf.take_mono L st 5
  have HO1 : Hid ((Rf.take L st 5).2.out.length ≤ 258 * (Rf.take L st 5).2.pos) := by have := hout.out; show _ ≤ _; rw [ho1]; omega
  clear ho1 hm1 hout hr
  generalize Rf.take L st 5 = T1 at *
  obtain ⟨h, st1⟩ := T1
  simp only at r1 hh HP HO1 ⊢
  go_wp2_with fail
  refine (take23 5 B L ao cap limit st1 ov kv _ r1 (by omega)).mono ?_
  rintro e w2 ⟨rfl, r2, k2⟩
  have hd := Rf.take_range hbits st1 5
  have ho1 := (Rf.take_out L st1 5).1
  have hm1 := Rf.take_mono L st1 5
  have HO2 : Hid ((Rf.take L st1 5).2.out.length ≤ 258 * (Rf.take L st1 5).2.pos) := by have := HO1.out; show _ ≤ _; rw [ho1]; omega
  clear ho1 hm1 HO1 r1
  generalize Rf.take L st1 5 = T1 at *
  obtain ⟨d, st2⟩ := T1
  simp only at r2 hd HP HO2 ⊢
  go_wp2_with fail
  refine (take23 4 B L ao cap limit st2 ov kv _ r2 (by omega)).mono ?_
  rintro e w3 ⟨rfl, r3, k3⟩
  have hk := Rf.take_range hbits st2 4
  have ho1 := (Rf.take_out L st2 4).1
  have hm1 := Rf.take_mono L st2 4
  have HO3 : Hid ((Rf.take L st2 4).2.out.length ≤ 258 * (Rf.take L st2 4).2.pos) := by have := HO2.out; show _ ≤ _; rw [ho1]; omega
  have kp := (k1.trans k2).trans k3
  clear ho1 hm1 HO2 r2 k1 k2 k3
  generalize Rf.take L st2 4 = T1 at *
  obtain ⟨k, st3⟩ := T1
  simp only at r3 hk HP HO3 ⊢
  obtain ⟨h, rfl⟩ := Int.eq_ofNat_of_zero_le hh.1
  obtain ⟨d, rfl⟩ := Int.eq_ofNat_of_zero_le hd.1
  obtain ⟨k, rfl⟩ := Int.eq_ofNat_of_zero_le hk.1
  have hh32 : h < 32 := by have := hh.2; omega
  have hd32 : d < 32 := by have := hd.2; omega
  have hk16 : k < 16 := by have := hk.2; omega
  simp only [Int.toNat_natCast] at HP
  clear hh hd hk
  obtain ⟨QQ, hQQ⟩ : ∃ QQ, QQ = Rf.lenF L (k + 4) 0 (List.replicate 19 0) st3 := ⟨_, rfl⟩
  rw [← hQQ] at HP
  have HW : Hid (Rf.Within QQ.1 7 ∧ QQ.1.length = 19) := by
    show _ ∧ _
    rw [hQQ]
    exact ⟨Rf.lenF_within hbits _ _ _ _ (Rf.within_replicate 19 7 (by omega)), (Rf.lenF_length L _ _ _ _).trans (by simp)⟩
  have hlt3 := r3.lt
  have hov : ∀ g, ov.ownBlock = some g → g < w3.heap.size := fun g hg => (r3.ho.lt g hg).2
  have hkv : ∀ g, kv.ownBlock = some g → g < w3.heap.size := fun g hg => (r3.hk.lt g hg).2
  go_upto_block 0 with fail
  go_cut [7] (fun s7 wc => ∃ (ls : List Int) (st4 : Rf.St), QQ = (ls, st4) ∧ Rep wc B L ao cap limit st4 ov kv ∧ Kp (· = B) w3 wc ∧ Lst wc (w3.heap.size + 1) ls ∧ Hid (st4.out.length ≤ 258 * st4.pos))
  case first =>
    go_wp2
    go_loopw [7] (fun v wr => ∃ (i : Nat) (ls : List Int) (st' : Rf.St), v = .int .i64 i ∧ i ≤ k + 4 ∧ ls.length = 19 ∧ Hid (QQ = Rf.lenF L (k + 4 - i) i ls st') ∧ Rep wr B L ao cap limit st' ov kv ∧ Kp (· = B) w3 wr ∧ Lst wr w3.heap.size (Rf.order.map Int.ofNat) ∧ Lst wr (w3.heap.size + 1) ls ∧ Hid (st'.out.length ≤ 258 * st'.pos)) (fun i _ => 20 - (intOf i).toNat)
    case atStart =>
      have hbw : Below w3.heap.size w3 ((w3.alloc (.cells (vals (Rf.order.map Int.ofNat)).toArray 3)).alloc (.cells Z.toArray 3)) := ((Below.refl _ _).alloc (Nat.le_refl _) _).alloc (by simp) _
      have hl2 := blk_new (w3.alloc (.cells (vals (Rf.order.map Int.ofNat)).toArray 3)) (.cells Z.toArray 3)
      rw [show (w3.alloc (.cells (vals (Rf.order.map Int.ofNat)).toArray 3)).heap.size = w3.heap.size + 1 by simp] at hl2
      refine ⟨0, List.replicate 19 0, st3, rfl, by omega, by simp, hQQ, r3.later hbw, Kp.ofBelow hbw, ?_, hl2.trans (by rw [HZ.out]), HO3⟩
      exact (Below.heap_alloc (w3.alloc (.cells (vals (Rf.order.map Int.ofNat)).toArray 3)) _ w3.heap.size (by simp)).trans (blk_new w3 _)
    case round =>
      clear hQQ HZ HO3 hmk r3
      obtain ⟨i, ls, st', rfl, hik, hl19, HF, r4, k4, o4, l4, HO⟩ := hrel
      obtain ⟨d0, d1, d2, d3, d4, d5, d6, fz⟩ := r4.cells
      by_cases hdone : k + 4 ≤ i
      · have HE : Hid (QQ = (ls, st')) := by show _ = _; rw [HF.out, show k + 4 - i = 0 by omega]; rfl
        go_wp2
        go_meet
        case rel => exact ⟨ls, st', HE.out, r4, k4, l4, HO⟩
      · cases hb4 : st'.bad
        · rw [hb4] at d3
          have HF2 : Hid (QQ = Rf.lenF L (k + 4 - (i + 1)) (i + 1) (ls.set (Rf.order.getD i 0) (Rf.take L st' 3).1) (Rf.take L st' 3).2) := by show _ = _; rw [HF.out, show k + 4 - i = (k + 4 - (i + 1)) + 1 by omega, Rf.lenF, if_neg (by rw [hb4]; decide)]
          go_wp2_with fail
          refine (take23 3 B L ao cap limit st' ov kv _ r4 (by omega)).mono ?_
          rintro e w5 ⟨rfl, r5, k5⟩
          have ho1 := (Rf.take_out L st' 3).1
          have hm1 := Rf.take_mono L st' 3
          have HO5 : Hid ((Rf.take L st' 3).2.out.length ≤ 258 * (Rf.take L st' 3).2.pos) := by have := HO.out; show _ ≤ _; rw [ho1]; omega
          have o5 : Lst w5 w3.heap.size (Rf.order.map Int.ofNat) := (k5.block _ (lt_of_block o4) (by omega)).trans o4
          have l5 : Lst w5 (w3.heap.size + 1) ls := (k5.block _ (lt_of_block l4) (by omega)).trans l4
          have kp5 := k4.trans k5
          clear ho1 hm1 HO r4 k4 k5 o4 l4 HF d0 d1 d2 d3 d4 d5 d6 fz
          generalize Rf.take L st' 3 = TK at *
          obtain ⟨x, st5⟩ := TK
          simp only at r5 HF2 HO5 ⊢
          obtain ⟨p, hp⟩ : ∃ p, p = Rf.order.getD i 0 := ⟨_, rfl⟩
          have hp19 : p < 19 := by rw [hp]; exact Rf.order_lt i
          have co : w5.cell? ⟨w3.heap.size, i, none⟩ = some (.int .i64 (p : Int)) := (o5.cell i (by simp [Rf.order]; omega)).trans (by
            rw [hp]
            have hio : i < Rf.order.length := by simp [Rf.order]; omega
            simp [List.getD, List.getElem?_eq_getElem hio])
          rw [← hp] at HF2
          obtain ⟨y, c1⟩ : ∃ y, w5.cell? ⟨w3.heap.size + 1, p, none⟩ = some (.int .i64 y) := ⟨_, l5.cell p (by omega)⟩
          have f1 : w5.frozen? ⟨w3.heap.size + 1, p, none⟩ = false := frozen_of_row w5 _ _ _ _ l5
          have KS : Kp (· = w3.heap.size + 1) w5 (w5.setCell ⟨w3.heap.size + 1, p, none⟩ (.int .i64 x)) := (Kp.refl (· = w3.heap.size + 1) w5).setCell (p := ⟨w3.heap.size + 1, p, none⟩) (.inl rfl) _
          have hsz := kp5.size
          have HR : Hid (Rep (w5.setCell ⟨w3.heap.size + 1, p, none⟩ (.int .i64 x)) B L ao cap limit st5 ov kv) :=
            r5.keep (fun g hg => KS.block g (by omega) (by omega)) (fun g hg => KS.block g (by have := hov g hg; omega) (by have := hov g hg; omega)) (fun g hg => KS.block g (by have := hkv g hg; omega) (by have := hkv g hg; omega))
          have HK : Hid (Kp (· = B) w3 (w5.setCell ⟨w3.heap.size + 1, p, none⟩ (.int .i64 x))) := kp5.setCell (p := ⟨w3.heap.size + 1, p, none⟩) (.inr (Nat.le_succ _)) _
          have HL : Hid (Lst (w5.setCell ⟨w3.heap.size + 1, p, none⟩ (.int .i64 x)) w3.heap.size (Rf.order.map Int.ofNat) ∧ Lst (w5.setCell ⟨w3.heap.size + 1, p, none⟩ (.int .i64 x)) (w3.heap.size + 1) (ls.set p x)) :=
            ⟨(KS.block _ (lt_of_block o5) (by omega)).trans o5, l5.set p x⟩
          have HLN : Hid ((ls.set p x).length = 19) := by show _ = _; simp [hl19]
          clear hp KS r5 kp5 o5 l5
          go_wp2
          go_roundw
          case rel => exact ⟨i + 1, ls.set p x, st5, by go_num, by omega, HLN.out, HF2, HR.out, HK.out, HL.out.1, HL.out.2, HO5⟩
          case measure => simp [intOf]; omega
        · have HE : Hid (QQ = (ls, st')) := by show _ = _; rw [HF.out, show k + 4 - i = (k + 3 - i) + 1 by omega, Rf.lenF, if_pos hb4]
          rw [hb4] at d3
          go_wp2
          go_meet
          case rel => exact ⟨ls, st', HE.out, r4, k4, l4, HO⟩
  case rest =>
    obtain ⟨ls, st4, hq, r4, k4, l4, HO4⟩ := hcut
    clear hQQ HZ hmk r3 HO3
    rw [hq] at HP HW
    simp only at HP HW
    have hl19 := HW.out.2
    have kp4 := kp.trans k4
    clear hq k4 kp
    go_wp2_with fail
    refine (full47 (some ⟨w3.heap.size + 1, 0, none⟩) 19 ls 19 _ hl19 (by omega) l4.ints (fun j => by have := (HW.out.1 j).2; omega)).mono ?_
    rintro e w5 ⟨rfl, rfl⟩
    obtain ⟨d0, d1, d2, d3, d4, d5, d6, fz⟩ := r4.cells
    have HR : Hid (Rep (w5.setCell ⟨B, 3, none⟩ (.bool true)) B L ao cap limit { st4 with bad := true } ov kv) := r4.set 3 (.bool true) _ rfl rfl rfl r4.hpos
    have HRf : Hid (Fr B w (w5.setCell ⟨B, 3, none⟩ (.bool true))) := Fr.ofKp (Nat.le_of_lt hlt) (kp4.set1 _ _)
    obtain ⟨fb, hfb⟩ : ∃ fb, fb = Rf.full ls := ⟨_, rfl⟩
    rw [← hfb] at HP ⊢
    clear hfb
    by_cases hc : st4.bad = true ∨ 29 < (h : Int) ∨ 29 < (d : Int) ∨ fb = false
    · rw [if_pos hc] at HP
      cases hb4 : st4.bad
      · rw [hb4] at d3
        by_cases h1 : 29 < h
        · go_wp2
          exact bodyPost_ret (results_none rfl _ _ _) rfl ⟨rfl, ⟨_, by rw [HQ.out, HP.out]; exact HR.out⟩, HRf.out⟩
        · by_cases h2 : 29 < d
          · go_wp2
            exact bodyPost_ret (results_none rfl _ _ _) rfl ⟨rfl, ⟨_, by rw [HQ.out, HP.out]; exact HR.out⟩, HRf.out⟩
          · have h3 : fb = false := by rw [hb4] at hc; rcases hc with hc | hc | hc | hc <;> first | exact hc | omega | cases hc
            subst h3
            go_wp2
            exact bodyPost_ret (results_none rfl _ _ _) rfl ⟨rfl, ⟨_, by rw [HQ.out, HP.out]; exact HR.out⟩, HRf.out⟩
      · rw [hb4] at d3
        go_wp2
        exact bodyPost_ret (results_none rfl _ _ _) rfl ⟨rfl, ⟨_, by rw [HQ.out, HP.out]; exact HR.out⟩, HRf.out⟩
    · rw [if_neg hc] at HP
      have hb4 : st4.bad = false := by cases h : st4.bad <;> simp_all
      have hfb : fb = true := by cases fb <;> simp_all
      have h29 : h ≤ 29 := by by_cases hx : h ≤ 29; · exact hx
                              · exact absurd (.inr (.inl (by omega))) hc
      have d29 : d ≤ 29 := by by_cases hx : d ≤ 29; · exact hx
                              · exact absurd (.inr (.inr (.inl (by omega)))) hc
      subst hfb
      rw [hb4] at d3
      clear hc HR HRf
      have A4 : Apart w5 B (some ⟨w3.heap.size + 1, 0, none⟩) ls := ⟨l4.ints, fun a e _ => by cases e; exact ⟨by show w3.heap.size + 1 ≠ B; omega, lt_of_block l4⟩⟩
      obtain ⟨n, hn⟩ : ∃ n, n = ((h : Int) + d + 258).toNat := ⟨_, rfl⟩
      rw [← hn] at HP
      have HN : Hid ((h : Int) + d + 258 = (n : Int)) := by show _ = _; omega
      have hn1 : n = h + d + 258 := by omega
      clear hn
      go_wp2_with fail
      refine (listed_s ((h : Int) + d + 258) (some ⟨w3.heap.size + 1, 0, none⟩) 19 19 n B ls L ao cap limit st4 ov kv _ r4 hl19 (by omega) (by omega) A4 HN.out).mono ?_
      rintro e w6 ⟨v, rfl, r6, k6, own6⟩
      have hlo := listed_out L ls n st4
      have HO6 : Hid ((Rf.listed L ls n st4).2.out.length ≤ 258 * (Rf.listed L ls n st4).2.pos) := by have := HO4.out; have := hlo.2; show _ ≤ _; rw [hlo.1]; omega
      have HW6 : Hid (Rf.Within (Rf.listed L ls n st4).1 15) := Rf.listed_within hbits ls hl19 n st4
      have kp6 := kp4.trans k6
      have hszB : B < w5.heap.size := r4.lt
      clear hlo HO4 HW HN d0 d1 d2 d3 d4 d5 d6 fz kp4 k6 r4 l4 A4
      generalize Rf.listed L ls n st4 = LS at *
      obtain ⟨all, st6⟩ := LS
      simp only at r6 HP HO6 HW6 own6 ⊢
      obtain ⟨d0, d1, d2, d3, d4, d5, d6, fz⟩ := r6.cells
      cases hb6 : st6.bad
      · rw [hb6] at d3 HP
        simp only [Bool.false_eq_true, if_false] at HP
        obtain ⟨ow, hal⟩ := own6 hb6
        obtain ⟨g, cp, rfl, hg⟩ := own_some ow (by omega)
        obtain ⟨hcp, hcm, hgw⟩ := own_cap ow
        have hm : Hid (h + 257 ≤ n) := by show _ ≤ _; omega
        obtain ⟨F1, F2⟩ := own_far ow (show g ≠ B by omega) (h + 257)
        have HF12 := hidden (And.intro F1 F2)
        clear F1 F2 ow own6
        go_wp2
        rw [show h + d + 258 - (h + 257) = d + 1 by omega]
        have hl1 : (all.take (h + 257)).length = h + 257 := by rw [List.length_take]; omega
        have hl2 : (all.drop (h + 257)).length = d + 1 := by rw [List.length_drop]; omega
        have HW1 : Hid (Rf.Within (all.take (h + 257)) 15 ∧ Rf.Within (all.drop (h + 257)) 15) := ⟨Rf.within_take HW6.out _ (by omega), Rf.within_drop HW6.out _⟩
        generalize all.take (h + 257) = L1 at *
        generalize all.drop (h + 257) = L2 at *
        generalize cp - (h + 257) = c2 at *
        clear HW6 hal
        go_loop [13, 14, 15] (fun o s i => ∃ k : Nat, k ≤ d + 1 ∧ i = .int .i64 k ∧ s = .int .i64 (Rf.sumF L2 k) ∧ o = .int .i64 (Rf.onesF L2 k : Nat)) (fun _ _ i => d + 1 - (intOf i).toNat)
        case atStart => exact ⟨0, Nat.zero_le _, rfl, rfl, rfl⟩
        case round =>
          obtain ⟨j, hj, rfl, rfl, rfl⟩ := hrel
          have hsr := sum_range HW1.out.2 j
          by_cases hjd : j < d + 1
          · obtain ⟨b, off, e, hc⟩ := HF12.out.2.ints j (by omega)
            cases e
            obtain ⟨x, hx⟩ : ∃ x : Int, x = L2[j] := ⟨_, rfl⟩
            have hx2 : L2.getD j 0 = x := by rw [hx]; simp [List.getD, List.getElem?_eq_getElem (show j < L2.length by omega)]
            have hx15 := HW1.out.2 j
            rw [hx2] at hx15
            rw [← hx] at hc
            have HS : Hid (Rf.sumF L2 (j + 1) = Rf.sumF L2 j + x ∧ Rf.onesF L2 (j + 1) = Rf.onesF L2 j + if x = 1 then 1 else 0) := by rw [← hx2]; exact ⟨rfl, rfl⟩
            clear hx hx2
            generalize Rf.sumF L2 j = s at *
            generalize Rf.onesF L2 j = o at *
            have hs1 : 0 ≤ s ∧ s ≤ 480 := by omega
            have ho1 : o ≤ 32 := by omega
            clear hsr
            by_cases h1 : x = 1
            · subst h1
              go_wp2
              go_round
              case rel => exact ⟨j + 1, by omega, by go_num, by rw [HS.out.1], by rw [HS.out.2, if_pos rfl]; go_num⟩
              case measure => simp [intOf]; omega
            · have h1' : (x == 1) = false := beq_eq_false_iff_ne.2 h1
              go_wp2
              go_round
              case rel => exact ⟨j + 1, by omega, by go_num, by rw [HS.out.1], by rw [HS.out.2, if_neg h1]; rfl⟩
              case measure => simp [intOf]; omega
          · have hjd2 : j = d + 1 := by omega
            subst hjd2
            obtain ⟨b, off, e, hc⟩ := HF12.out.1.ints 256 (by omega)
            cases e
            obtain ⟨x, hx⟩ : ∃ x : Int, x = L1[256] := ⟨_, rfl⟩
            have hx2 : L1.getD 256 0 = x := by rw [hx]; simp [List.getD, List.getElem?_eq_getElem (show 256 < L1.length by omega)]
            rw [← hx] at hc
            have hc' : w6.cell? ⟨g, 256, none⟩ = some (.int .i64 x) := by simpa using hc
            have HR : Hid (Rep (w6.setCell ⟨B, 3, none⟩ (.bool true)) B L ao cap limit { st6 with bad := true } ov kv) := r6.set 3 (.bool true) _ rfl rfl rfl r6.hpos
            have HRf : Hid (Fr B w (w6.setCell ⟨B, 3, none⟩ (.bool true))) := Fr.ofKp (Nat.le_of_lt hlt) (kp6.set1 _ _)
            have HB : Hid (Rf.badLists L1 L2 = ((x == 0) || !Rf.full L1 || (!Rf.full L2 && ((Rf.sumF L2 (d + 1) != 0) && ((Rf.sumF L2 (d + 1) != 1) || (((Rf.onesF L2 (d + 1) : Nat) : Int) != 1)))))) := by
              show _ = _
              exact bad_bools L1 L2 x (d + 1) hx2 hl2
            clear hx hx2 hsr hc
            go_wp2_with fail
            refine (full47 (some ⟨g, 0, none⟩) cp L1 (h + 257) _ hl1 (by omega) HF12.out.1.ints (fun j => (HW1.out.1 j).2)).mono ?_
            rintro e w7 ⟨rfl, rfl⟩
            go_wp2_with fail
            refine (full47 (some ⟨g, h + 257, none⟩) c2 L2 (d + 1) _ hl2 (by omega) HF12.out.2.ints (fun j => (HW1.out.2 j).2)).mono ?_
            rintro e w7 ⟨rfl, rfl⟩
            generalize Rf.full L1 = f1 at *
            generalize Rf.full L2 = f2 at *
            generalize Rf.sumF L2 (d + 1) = s at *
            generalize ((Rf.onesF L2 (d + 1) : Nat) : Int) = o at *
            cases e0 : (x == 0)
            · cases f1
              · have HB : Hid (Rf.badLists L1 L2 = true) := by show _ = _; rw [HB.out]; simp
                go_wp2
                exact bodyPost_ret (results_none rfl _ _ _) rfl ⟨rfl, ⟨_, by rw [HQ.out, HP.out, if_pos HB.out]; exact HR.out⟩, HRf.out⟩
              · cases f2
                · cases e1 : (s != 0)
                  · have HB : Hid (Rf.badLists L1 L2 = false) := by show _ = _; rw [HB.out, e0, e1]; simp
                    go_wp2_with fail
                    refine (symbols26 (some ⟨g, 0, none⟩) (some ⟨g, h + 257, none⟩) cp c2 (h + 257) (d + 1) B L1 L2 L ao cap limit st6 ov kv _ r6 hl1 hl2 (by omega) (by omega) HF12.out.1 HF12.out.2 HO6).mono ?_
                    rintro e w7 ⟨rfl, ⟨ov7, r7⟩, f7⟩
                    go_wp2
                    go_end0
                    exact ⟨rfl, ⟨ov7, by rw [HQ.out, HP.out, if_neg (by rw [HB.out]; decide)]; exact r7⟩, (Fr.ofKp (Nat.le_of_lt hlt) kp6).trans f7⟩
                  · cases e2 : (s != 1)
                    · cases e3 : (o != 1)
                      · have HB : Hid (Rf.badLists L1 L2 = false) := by show _ = _; rw [HB.out, e0, e2, e3]; simp
                        go_wp2_with fail
                        refine (symbols26 (some ⟨g, 0, none⟩) (some ⟨g, h + 257, none⟩) cp c2 (h + 257) (d + 1) B L1 L2 L ao cap limit st6 ov kv _ r6 hl1 hl2 (by omega) (by omega) HF12.out.1 HF12.out.2 HO6).mono ?_
                        rintro e w7 ⟨rfl, ⟨ov7, r7⟩, f7⟩
                        go_wp2
                        go_end0
                        exact ⟨rfl, ⟨ov7, by rw [HQ.out, HP.out, if_neg (by rw [HB.out]; decide)]; exact r7⟩, (Fr.ofKp (Nat.le_of_lt hlt) kp6).trans f7⟩
                      · have HB : Hid (Rf.badLists L1 L2 = true) := by show _ = _; rw [HB.out, e1, e3]; simp
                        go_wp2
                        exact bodyPost_ret (results_none rfl _ _ _) rfl ⟨rfl, ⟨_, by rw [HQ.out, HP.out, if_pos HB.out]; exact HR.out⟩, HRf.out⟩
                    · have HB : Hid (Rf.badLists L1 L2 = true) := by show _ = _; rw [HB.out, e1, e2]; simp
                      go_wp2
                      exact bodyPost_ret (results_none rfl _ _ _) rfl ⟨rfl, ⟨_, by rw [HQ.out, HP.out, if_pos HB.out]; exact HR.out⟩, HRf.out⟩
                · have HB : Hid (Rf.badLists L1 L2 = false) := by show _ = _; rw [HB.out, e0]; simp
                  go_wp2_with fail
                  refine (symbols26 (some ⟨g, 0, none⟩) (some ⟨g, h + 257, none⟩) cp c2 (h + 257) (d + 1) B L1 L2 L ao cap limit st6 ov kv _ r6 hl1 hl2 (by omega) (by omega) HF12.out.1 HF12.out.2 HO6).mono ?_
                  rintro e w7 ⟨rfl, ⟨ov7, r7⟩, f7⟩
                  go_wp2
                  go_end0
                  exact ⟨rfl, ⟨ov7, by rw [HQ.out, HP.out, if_neg (by rw [HB.out]; decide)]; exact r7⟩, (Fr.ofKp (Nat.le_of_lt hlt) kp6).trans f7⟩
            · have HB : Hid (Rf.badLists L1 L2 = true) := by show _ = _; rw [HB.out, e0]; simp
              go_wp2
              exact bodyPost_ret (results_none rfl _ _ _) rfl ⟨rfl, ⟨_, by rw [HQ.out, HP.out, if_pos HB.out]; exact HR.out⟩, HRf.out⟩
      · rw [hb6] at d3 HP
        simp only [if_true] at HP
        go_wp2
        exact bodyPost_ret (results_none rfl _ _ _) rfl ⟨rfl, ⟨_, by rw [HQ.out, HP.out]; exact r6⟩, Fr.ofKp (Nat.le_of_lt hlt) kp6⟩
end Go.Proofs.Ytmfijackgekioaa
