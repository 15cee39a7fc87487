import Derived.Test.YtmfijackgekioaaGreatDoorQWrWe2
import Derived.Deep.RegionHeld3

namespace Go.Proofs.YtmfijackgekioaaGreatDoor
open Go.RowKit

set_option maxRecDepth 100000 in
set_option maxHeartbeats 1000000 in
theorem raw30 (wd ht kd dp : Int) (ps : Bool) (pv sv : Value) (w : World) (tt : TypeId) (fr : Nat × Nat)
    (hT : Hid (w.heap[0]? = some (.cells tab42 tt fr)))
    (hwd : 1 ≤ wd ∧ wd ≤ 5000) (hht : 1 ≤ ht ∧ ht ≤ 5000) (hch : Pm.chan kd dp ≠ 0) :
    Calls Tryz.prog 56 #[img wd ht kd dp ps pv sv] w
      fun e w' => e = .returned (.int .i64 (Pm.raw wd ht (Pm.chan kd dp * dp) ps)) ∧ Below w.heap.size w w' := by
  have m0 := blk_new w (.cells #[.int .i64 wd, .int .i64 ht, .int .i64 kd, .int .i64 dp, .bool ps, pv, sv] 30)
  have q0 := blk_old m0 (.cells #[.int .i64 0] 3)
  have q1 := blk_new (w.alloc (.cells #[.int .i64 wd, .int .i64 ht, .int .i64 kd, .int .i64 dp, .bool ps, pv, sv] 30)) (.cells #[.int .i64 0] 3)
  rw [World.size_alloc] at q1
  have k0 : Below w.heap.size w ((w.alloc (.cells #[.int .i64 wd, .int .i64 ht, .int .i64 kd, .int .i64 dp, .bool ps, pv, sv] 30)).alloc (.cells #[.int .i64 0] 3)) := ((Below.refl _ _).alloc (Nat.le_refl _) _).alloc (by simp) _
  have t0 : Hid (((w.alloc (.cells #[.int .i64 wd, .int .i64 ht, .int .i64 kd, .int .i64 dp, .bool ps, pv, sv] 30)).alloc (.cells #[.int .i64 0] 3)).heap[0]? = some (.cells tab42 tt fr)) := blk_old (blk_old hT.out _) _
  have HQ : Hid (((w.alloc (.cells #[.int .i64 wd, .int .i64 ht, .int .i64 kd, .int .i64 dp, .bool ps, pv, sv] 30)).alloc (.cells #[.int .i64 0] 3)).heap[w.heap.size]? = some (.cells #[.int .i64 wd, .int .i64 ht, .int .i64 kd, .int .i64 dp, .bool ps, pv, sv] 30 (0, 0)) ∧ ((w.alloc (.cells #[.int .i64 wd, .int .i64 ht, .int .i64 kd, .int .i64 dp, .bool ps, pv, sv] 30)).alloc (.cells #[.int .i64 0] 3)).heap[w.heap.size + 1]? = some (.cells #[.int .i64 0] 3 (0, 0))) := ⟨q0, q1⟩
  clear m0 q0 q1
  cases ps
  · go_enter Tryz.func56, Tryz.ntmps56
    go_wp2_with fail
    refine (each_flat wd ht kd dp pv sv w.heap.size (Pm.chan kd dp * dp) _ HQ.out.1 HQ.out.2 hwd hht hch rfl).mono ?_
    rintro e w1 ⟨rfl, q1, q2⟩
    have q3 := cell_of_one q1
    have q4 : Below w.heap.size w w1 := k0.trans (q2.below k0.size (fun k _ e => by omega))
    clear q1 q2
    go_wp2
    go_ret
    exact ⟨rfl, q4⟩
  · go_enter Tryz.func56, Tryz.ntmps56
    go_wp2_with fail
    refine (each_seven wd ht kd dp pv sv w.heap.size (Pm.chan kd dp * dp) _ tt fr t0.out HQ.out.1 HQ.out.2 hwd hht hch rfl).mono ?_
    rintro e w1 ⟨rfl, q1, q2⟩
    have q3 := cell_of_one q1
    have q4 : Below w.heap.size w w1 := k0.trans (q2.below k0.size (fun k _ e => by omega))
    clear q1 q2
    go_wp2
    go_ret
    exact ⟨rfl, q4⟩

end Go.Proofs.YtmfijackgekioaaGreatDoor

namespace Go.Proofs.YtmfijackgekioaaGreatDoor
open Go.RowKit

/-- What Check answers. -/
def Pm.check (wd ht kd dp : Int) (ps : Bool) (pz sz : List Int) : Int :=
  if Pm.chan kd dp = 0 then 1
  else if ¬ (Pm.sideB wd = true ∧ Pm.sideB ht = true) then 2
  else if 4194304 < Pm.raw wd ht (Pm.chan kd dp * dp) ps then 2
  else if Pm.palB kd (Pm.two dp) pz = false then 3
  else if Pm.samB wd ht kd (Pm.chan kd dp) (Pm.two dp) pz.length sz = false then 4
  else 0

theorem bcellW {W w1 : World} (hb : Below W.heap.size W w1) : (∀ b o, b < W.heap.size → w1.cell? ⟨b, o, none⟩ = W.cell? ⟨b, o, none⟩) ∧ (∀ b o, b < W.heap.size → w1.frozen? ⟨b, o, none⟩ = W.frozen? ⟨b, o, none⟩) :=
  ⟨fun b o h => hb.cell (p := ⟨b, o, none⟩) h, fun b o h => hb.frozen (p := ⟨b, o, none⟩) h⟩

/-- What the calls lean on: the table lies in memory, the lists lie below the new blocks. -/
structure Lies (w : World) (pa : Option Addr) (pz : List Int) (sa : Option Addr) (sz : List Int) (tt : TypeId) (fr : Nat × Nat) : Prop where
  tab : w.heap[0]? = some (.cells tab42 tt fr)
  hp : Ints w pa pz
  hpa : ∀ a, pa = some a → pz ≠ [] → a.block < w.heap.size
  hpm : pz.length ≤ maxLen
  hs : Ints w sa sz
  hsa : ∀ a, sa = some a → sz ≠ [] → a.block < w.heap.size
  hsm : sz.length ≤ maxLen

theorem Lies.later {w w' : World} {pa : Option Addr} {pz : List Int} {sa : Option Addr} {sz : List Int} {tt : TypeId} {fr : Nat × Nat} (h : Lies w pa pz sa sz tt fr) (hb : Below w.heap.size w w') : Lies w' pa pz sa sz tt fr :=
  ⟨(hb.block _ (lt_of_block h.tab)).trans h.tab, h.hp.below hb h.hpa, fun a e e2 => Nat.lt_of_lt_of_le (h.hpa a e e2) hb.size, h.hpm, h.hs.below hb h.hsa, fun a e e2 => Nat.lt_of_lt_of_le (h.hsa a e e2) hb.size, h.hsm⟩

set_option maxRecDepth 100000 in
set_option maxHeartbeats 1000000 in
theorem check12 (wd ht kd dp : Int) (ps : Bool) (pa : Option Addr) (pc : Nat) (pz : List Int) (sa : Option Addr) (sc : Nat) (sz : List Int) (w : World) (tt : TypeId) (fr : Nat × Nat) (hl : Lies w pa pz sa sz tt fr) :
    Calls Tryz.prog 26 #[img wd ht kd dp ps (.slice pa pz.length pc) (.slice sa sz.length sc)] w
      fun e w' => e = .returned (.int .i64 (Pm.check wd ht kd dp ps pz sz)) ∧ Below w.heap.size w w' := by
  by_cases hch : Pm.chan kd dp = 0
  · have hch' : (Pm.chan kd dp == 0) = true := beq_iff_eq.2 hch
    go_enter Tryz.func26, Tryz.ntmps26
    go_wp2_with (go_at_call 54; refine (chan28 _ _ _).mono ?_; rintro e w' ⟨rfl, rfl⟩)
    go_ret
    exact ⟨ret_int (by rw [Pm.check, if_pos hch]), (Below.refl _ _).alloc (Nat.le_refl _) _⟩
  · have hch' : (Pm.chan kd dp == 0) = false := beq_eq_false_iff_ne.2 hch
    have hd := Pm.chan_depth kd dp hch
    go_enter Tryz.func26, Tryz.ntmps26
    go_wp2_with fail
    refine (chan28 _ _ _).mono ?_
    rintro e w' ⟨rfl, rfl⟩
    go_wp2_with fail
    refine (side29 _ _).mono ?_
    rintro e w' ⟨rfl, rfl⟩
    cases s1 : Pm.sideB wd
    · go_wp2_with fail
      go_ret
      exact ⟨ret_int (by rw [Pm.check, if_neg hch, if_pos (by simp [s1])]), (Below.refl _ _).alloc (Nat.le_refl _) _⟩
    · go_wp2_with fail
      refine (side29 _ _).mono ?_
      rintro e w' ⟨rfl, rfl⟩
      cases s2 : Pm.sideB ht
      · go_wp2_with fail
        go_ret
        exact ⟨ret_int (by rw [Pm.check, if_neg hch, if_pos (by simp [s2])]), (Below.refl _ _).alloc (Nat.le_refl _) _⟩
      · have hwd := (Pm.sideB_iff wd).1 s1
        have hht := (Pm.sideB_iff ht).1 s2
        have HS : Hid (Pm.sideB wd = true ∧ Pm.sideB ht = true) := ⟨s1, s2⟩
        clear s1 s2
        have l1 := hl.later ((Below.refl _ w).alloc (Nat.le_refl _) (.cells #[.int .i64 wd, .int .i64 ht, .int .i64 kd, .int .i64 dp, .bool ps, .slice pa pz.length pc, .slice sa sz.length sc] 30))
        go_wp2_with fail
        refine (raw30 wd ht kd dp ps _ _ _ tt fr l1.tab hwd hht hch).mono ?_
        rintro e w1 ⟨rfl, hb1⟩
        have l2 := l1.later hb1
        obtain ⟨hc1, hf1⟩ := bcellW hb1
        by_cases hr : 4194304 < Pm.raw wd ht (Pm.chan kd dp * dp) ps
        · go_wp2_with fail
          go_ret
          exact ⟨ret_int (by rw [Pm.check, if_neg hch, if_neg (by simp [HS.out]), if_pos hr]), ((Below.refl _ _).alloc (Nat.le_refl _) _).trans (hb1.mono (by simp))⟩
        · go_wp2_with fail
          refine (palFits31 wd ht kd dp ps pa pc pz _ _ hd l2.hpm l2.hp l2.hpa).mono ?_
          rintro e w2 ⟨rfl, hb2⟩
          have l3 := l2.later hb2
          have hb2' := hb1.trans (hb2.mono hb1.size)
          obtain ⟨hc2, hf2⟩ := bcellW hb2'
          clear hc1 hf1 hb1 hb2 l1 l2
          cases s3 : Pm.palB kd (Pm.two dp) pz
          · go_wp2_with fail
            go_ret
            exact ⟨ret_int (by rw [Pm.check, if_neg hch, if_neg (by simp [HS.out]), if_neg (Int.not_lt.2 hr), if_pos s3]), ((Below.refl _ _).alloc (Nat.le_refl _) _).trans (hb2'.mono (by simp))⟩
          · have H3 : Hid (Pm.palB kd (Pm.two dp) pz = true) := s3
            clear s3
            go_wp2_with fail
            refine (samFits32 wd ht kd dp ps pa pc pz.length sa sc sz _ hd hwd hht l3.hpm l3.hsm l3.hs l3.hsa).mono ?_
            rintro e w3 ⟨rfl, hb3⟩
            have hb3' := hb2'.trans (hb3.mono hb2'.size)
            clear hb2' hb3 hc2 hf2 l3
            cases s4 : Pm.samB wd ht kd (Pm.chan kd dp) (Pm.two dp) pz.length sz
            · go_wp2_with fail
              go_ret
              exact ⟨ret_int (by rw [Pm.check, if_neg hch, if_neg (by simp [HS.out]), if_neg (Int.not_lt.2 hr), if_neg (by simp [H3.out]), if_pos s4]), ((Below.refl _ _).alloc (Nat.le_refl _) _).trans (hb3'.mono (by simp))⟩
            · go_wp2_with fail
              go_ret
              exact ⟨ret_int (by rw [Pm.check, if_neg hch, if_neg (by simp [HS.out]), if_neg (Int.not_lt.2 hr), if_neg (by simp [H3.out]), if_neg (by simp [s4])]), ((Below.refl _ _).alloc (Nat.le_refl _) _).trans (hb3'.mono (by simp))⟩

set_option maxRecDepth 100000 in
set_option maxHeartbeats 1000000 in
theorem check6 (wd ht kd dp : Int) (ps : Bool) (pa : Option Addr) (pc : Nat) (pz : List Int) (sa : Option Addr) (sc : Nat) (sz : List Int) (w : World) (tt : TypeId) (fr : Nat × Nat) (hl : Lies w pa pz sa sz tt fr) :
    Calls Tryz.prog 19 #[img wd ht kd dp ps (.slice pa pz.length pc) (.slice sa sz.length sc)] w
      fun e w' => e = .returned (.int .i64 (Pm.check wd ht kd dp ps pz sz)) ∧ Below w.heap.size w w' := by
  have l1 := hl.later ((Below.refl _ w).alloc (Nat.le_refl _) (.cells #[.int .i64 wd, .int .i64 ht, .int .i64 kd, .int .i64 dp, .bool ps, .slice pa pz.length pc, .slice sa sz.length sc] 30))
  go_enter Tryz.func19, Tryz.ntmps19
  go_wp2_with fail
  refine (check12 wd ht kd dp ps pa pc pz sa sc sz _ tt fr l1).mono ?_
  rintro e w1 ⟨rfl, hb1⟩
  go_wp2
  go_ret
  exact ⟨rfl, ((Below.refl _ _).alloc (Nat.le_refl _) _).trans (hb1.mono (by simp))⟩

end Go.Proofs.YtmfijackgekioaaGreatDoor

namespace Go.Proofs.YtmfijackgekioaaGreatDoor
open Go.RowKit

set_option maxRecDepth 100000 in
set_option maxHeartbeats 1000000 in
theorem points34 (W H : Nat) (p : Int) (w : World) (hW : 1 ≤ W ∧ W ≤ 5000) (hH : 1 ≤ H ∧ H ≤ 5000) :
    Calls Tryz.prog 43 #[.int .i64 W, .int .i64 H, .int .i64 p] w
      fun e w' => ∃ ao1 c1 ao2 c2, e = .returned (.tuple #[.slice ao1 (Pm.nC p (min 8 H) W) c1, .slice ao2 (Pm.nR p (min 8 W) H) c2]) ∧ Below w.heap.size w w' := by
  obtain ⟨i0, hi, hz0, hz1, hz2⟩ := info_parts Tryz.info3
  generalize hB : w.heap.size = B
  go_enter Tryz.func43, Tryz.ntmps43
  go_wp2
  go_loopw [8, 10] (fun v i wr => ∃ c : Nat, c ≤ W ∧ i = .int .i64 c ∧ (∃ xs, wr.ownsRow B 3 1 v (Pm.nC p (min 8 H) c) xs) ∧ Below B w wr) (fun _ i _ => W - (intOf i).toNat)
  case atStart => exact ⟨0, Nat.zero_le _, rfl, ⟨[], World.ownsRow_nil _ _ _ _⟩, Below.refl _ _⟩
  case round =>
    obtain ⟨c, hc, rfl, ⟨xs, hown⟩, hbel⟩ := hrel
    have hcn := Pm.nC_le p (min 8 H) c
    by_cases hlt : c < W
    · go_wp2
      go_loop [11, 12] (fun th i => ∃ r : Nat, r ≤ min 8 H ∧ i = .int .i64 r ∧ th = .bool (Pm.thereC p c r)) (fun _ i => min 8 H - (intOf i).toNat)
      case atStart => exact ⟨0, Nat.zero_le _, rfl, rfl⟩
      case round =>
        obtain ⟨r, hr, rfl, rfl⟩ := hrel
        by_cases hlr : r < 8 ∧ r < H
        · have l1 := hlr.1
          have l2 := hlr.2
          have HT : Hid (Pm.thereC p c (r + 1) = (Pm.thereC p c r || (Pm.pass c r == p))) := rfl
          cases hth : Pm.thereC p c r
          · rw [hth] at HT
            go_wp2_with (go_at_call 76; refine (pass52 c r _ (by omega) (by omega)).mono ?_; rintro e w' ⟨rfl, rfl⟩)
            go_round
            case rel => exact ⟨r + 1, by omega, by go_num, by rw [HT.out]; rfl⟩
            case measure => simp [intOf]; omega
          · rw [hth] at HT
            go_wp2_with (go_at_call 76; refine (pass52 c r _ (by omega) (by omega)).mono ?_; rintro e w' ⟨rfl, rfl⟩)
            go_round
            case rel => exact ⟨r + 1, by omega, by go_num, by rw [HT.out]; rfl⟩
            case measure => simp [intOf]; omega
        · have HRM : Hid (r = min 8 H) := by show _ = _; omega
          have hx : 8 ≤ r ∨ (r < 8 ∧ H ≤ r) := by omega
          have HN : Hid (Pm.nC p (min 8 H) (c + 1) = Pm.nC p (min 8 H) c + if Pm.thereC p c (min 8 H) then 1 else 0) := rfl
          cases hth : Pm.thereC p c r
          · rw [← HRM.out, hth, HRM.out] at HN
            rcases hx with hx | ⟨hx, hy⟩
            all_goals
              go_wp2
              go_roundw
              case rel => exact ⟨c + 1, by omega, by go_num, ⟨xs, by rw [HN.out]; exact hown⟩, hbel⟩
              case measure => simp [intOf]; omega
          · rw [← HRM.out, hth, HRM.out] at HN
            rcases hx with hx | ⟨hx, hy⟩
            all_goals
              go_wp2_with (at_builtin; refine wpList_append_own _ rfl _ _ 24 rfl B 3 i0 (.int .i64 0) 1 8 Tryz.underlying24 hi hz0 hz1 hz2 rfl (by decide) _ _ _ rfl (hown.alloc _) ⟨wr.heap.size, 0, none⟩ 1 1 [.int .i64 c] rfl rfl (cell_one_new _ _ _) (by intro u hu; simp at hu; subst hu; rfl) (by unfold maxLen; omega) (by omega) (by have := hbel.size; simp; omega) ?_; intro v' w2 hown' hgrow _)
              have R2 : (∃ xs, w2.ownsRow B 3 1 v' (Pm.nC p (min 8 H) (c + 1)) xs) ∧ Below B w w2 :=
                ⟨⟨_, by rw [HN.out]; exact hown'⟩, (hbel.alloc (by have := hbel.size; omega) _).grown hgrow (by have := hbel.size; simp; omega) (fun b hb => (hown.lt b hb).1)⟩
              clear hown' hgrow hown hbel
              go_wp2
              go_roundw
              case rel => exact ⟨c + 1, by omega, by go_num, R2.1, R2.2⟩
              case measure => simp [intOf]; omega
    · have hcW : c = W := by omega
      subst hcW
      obtain ⟨ao1, c1, rfl⟩ := own_slice hown
      clear hown
      go_wp2
      go_loopw [9, 14] (fun v i wr => ∃ r : Nat, r ≤ H ∧ i = .int .i64 r ∧ (∃ xs, wr.ownsRow B 3 1 v (Pm.nR p (min 8 c) r) xs) ∧ Below B w wr) (fun _ i _ => H - (intOf i).toNat)
      case atStart => exact ⟨0, Nat.zero_le _, rfl, ⟨[], World.ownsRow_nil _ _ _ _⟩, hbel⟩
      case round =>
        clear hbel
        obtain ⟨r, hr, rfl, ⟨ys, hown⟩, hbel⟩ := hrel
        have hcn2 := Pm.nR_le p (min 8 c) r
        by_cases hlt2 : r < H
        · go_wp2
          go_loop [15, 16] (fun th i => ∃ k : Nat, k ≤ min 8 c ∧ i = .int .i64 k ∧ th = .bool (Pm.thereR p r k)) (fun _ i => min 8 c - (intOf i).toNat)
          case atStart => exact ⟨0, Nat.zero_le _, rfl, rfl⟩
          case round =>
            obtain ⟨k, hk, rfl, rfl⟩ := hrel
            by_cases hlr : k < 8 ∧ k < c
            · have l1 := hlr.1
              have l2 := hlr.2
              have HT : Hid (Pm.thereR p r (k + 1) = (Pm.thereR p r k || (Pm.pass k r == p))) := rfl
              cases hth : Pm.thereR p r k
              all_goals
                rw [hth] at HT
                go_wp2_with (go_at_call 76; refine (pass52 k r _ (by omega) (by omega)).mono ?_; rintro e w' ⟨rfl, rfl⟩)
                go_round
                case rel => exact ⟨k + 1, by omega, by go_num, by rw [HT.out]; rfl⟩
                case measure => simp [intOf]; omega
            · have HRM : Hid (k = min 8 c) := by show _ = _; omega
              have hx : 8 ≤ k ∨ (k < 8 ∧ c ≤ k) := by omega
              have HN : Hid (Pm.nR p (min 8 c) (r + 1) = Pm.nR p (min 8 c) r + if Pm.thereR p r (min 8 c) then 1 else 0) := rfl
              cases hth : Pm.thereR p r k
              · rw [← HRM.out, hth, HRM.out] at HN
                rcases hx with hx | ⟨hx, hy⟩
                all_goals
                  go_wp2
                  go_roundw
                  case rel => exact ⟨r + 1, by omega, by go_num, ⟨ys, by rw [HN.out]; exact hown⟩, hbel⟩
                  case measure => simp [intOf]; omega
              · rw [← HRM.out, hth, HRM.out] at HN
                rcases hx with hx | ⟨hx, hy⟩
                all_goals
                  go_wp2_with (at_builtin; refine wpList_append_own _ rfl _ _ 24 rfl B 3 i0 (.int .i64 0) 1 8 Tryz.underlying24 hi hz0 hz1 hz2 rfl (by decide) _ _ _ rfl (hown.alloc _) ⟨wr.heap.size, 0, none⟩ 1 1 [.int .i64 r] rfl rfl (cell_one_new _ _ _) (by intro u hu; simp at hu; subst hu; rfl) (by unfold maxLen; omega) (by omega) (by have := hbel.size; simp; omega) ?_; intro v' w2 hown' hgrow _)
                  have R2 : (∃ xs, w2.ownsRow B 3 1 v' (Pm.nR p (min 8 c) (r + 1)) xs) ∧ Below B w w2 :=
                    ⟨⟨_, by rw [HN.out]; exact hown'⟩, (hbel.alloc (by have := hbel.size; omega) _).grown hgrow (by have := hbel.size; simp; omega) (fun b hb => (hown.lt b hb).1)⟩
                  clear hown' hgrow hown hbel
                  go_wp2
                  go_roundw
                  case rel => exact ⟨r + 1, by omega, by go_num, R2.1, R2.2⟩
                  case measure => simp [intOf]; omega
        · have hrH : r = H := by omega
          subst hrH
          obtain ⟨ao2, c2, rfl⟩ := own_slice hown
          go_wp2
          go_ret2
          exact ⟨ao1, c1, ao2, c2, rfl, hbel⟩

end Go.Proofs.YtmfijackgekioaaGreatDoor

namespace Go.Proofs.YtmfijackgekioaaGreatDoor
open Go.RowKit

set_option maxRecDepth 100000 in
set_option maxHeartbeats 400000 in
theorem passes33 (on : Bool) (w : World) :
    Calls Tryz.prog 42 #[.bool on] w fun e w' => e = .returned (.slice (some ⟨w.heap.size, 0, none⟩) (Pm.pn on) (Pm.pn on)) ∧ Below w.heap.size w w' ∧ w.heap.size < w'.heap.size ∧
      ∀ k, k < Pm.pn on → w'.cell? ⟨w.heap.size, k, none⟩ = some (.int .i64 (Pm.pq on k)) := by
  cases on
  · go_enter Tryz.func42, Tryz.ntmps42
    go_wp2
    go_ret
    refine ⟨rfl, (Below.refl _ _).alloc (Nat.le_refl _) _, by simp, ?_⟩
    intro k hk
    have h0 : k = 0 := by simp [Pm.pn] at hk; omega
    subst h0
    simp [Pm.pq]
  · go_enter Tryz.func42, Tryz.ntmps42
    go_wp2
    go_ret
    refine ⟨rfl, (Below.refl _ _).alloc (Nat.le_refl _) _, by simp, ?_⟩
    intro k hk
    simp only [Pm.pn, if_true] at hk
    match k, hk with
    | 0, _ => simp [Pm.pq]
    | 1, _ => simp [Pm.pq]
    | 2, _ => simp [Pm.pq]
    | 3, _ => simp [Pm.pq]
    | 4, _ => simp [Pm.pq]
    | 5, _ => simp [Pm.pq]
    | 6, _ => simp [Pm.pq]

set_option maxRecDepth 100000 in
set_option maxHeartbeats 1000000 in
theorem raw15 (W H : Nat) (kd dp : Int) (on : Bool) (w : World) (hW : 1 ≤ W ∧ W ≤ 5000) (hH : 1 ≤ H ∧ H ≤ 5000) (hd : 1 ≤ dp ∧ dp ≤ 16) :
    Calls Tryz.prog 32 #[.int .i64 W, .int .i64 H, .int .i64 kd, .int .i64 dp, .bool on] w
      fun e w' => e = .returned (.int .i64 (Pm.refTo W H (Pm.chan kd dp) dp on (Pm.pn on))) ∧ Below w.heap.size w w' := by
  have hch := Pm.chan_range kd dp
  have hpn : Pm.pn on ≤ 7 := by cases on <;> decide
  go_enter Tryz.func32, Tryz.ntmps32
  go_wp2_with fail
  refine (passes33 on _).mono ?_
  rintro e w1 ⟨rfl, hb1, hs1, hc1⟩
  generalize hn : Pm.pn on = n at *
  go_wp2
  go_loopw [11, 13] (fun v i wr => ∃ k : Nat, k ≤ n ∧ i = .int .i64 k ∧ v = .int .i64 (Pm.refTo W H (Pm.chan kd dp) dp on k) ∧ Below w1.heap.size w1 wr) (fun _ i _ => n - (intOf i).toNat)
  case atStart => exact ⟨0, Nat.zero_le _, rfl, rfl, Below.refl _ _⟩
  case round =>
    obtain ⟨k, hk, rfl, rfl, hbel⟩ := hrel
    by_cases hlt : k < n
    · have hcell : wr.cell? ⟨w.heap.size, k, none⟩ = some (.int .i64 (Pm.pq on k)) := (hbel.cell hs1).trans (hc1 k hlt)
      have hrt := Pm.refTo_range W H (Pm.chan kd dp) dp on hW.2 hH.2 hch hd k
      have HN : Hid (Pm.refTo W H (Pm.chan kd dp) dp on (k + 1) = Pm.refTo W H (Pm.chan kd dp) dp on k + Pm.refOne W H (Pm.chan kd dp) dp (Pm.pq on k)) := rfl
      go_wp2_with fail
      refine (points34 W H _ _ hW hH).mono ?_
      rintro e w2 ⟨ao1, c1, ao2, c2, rfl, hb2⟩
      have hb3 := hbel.trans (hb2.mono hbel.size)
      have g1 := Pm.nC_le (Pm.pq on k) (min 8 H) W
      have g2 := Pm.nR_le (Pm.pq on k) (min 8 W) H
      have hbd := Pm.ref_bounds (Pm.nC (Pm.pq on k) (min 8 H) W) (Pm.nR (Pm.pq on k) (min 8 W) H) (Pm.chan kd dp) dp (by omega) (by omega) hch hd
      obtain ⟨b1, b2, b3⟩ := hbd
      clear hbel hb2 hcell
      by_cases h0 : 0 < Pm.nC (Pm.pq on k) (min 8 H) W
      · have HO : Hid (Pm.refOne W H (Pm.chan kd dp) dp (Pm.pq on k) = (Pm.nR (Pm.pq on k) (min 8 W) H : Int) * (1 + ((Pm.nC (Pm.pq on k) (min 8 H) W : Int) * Pm.chan kd dp * dp + 7) / 8)) := by
          show _ = _; rw [Pm.refOne, if_pos h0]
        go_wp2_with (go_at_call 30; refine (chan13 _ _ _).mono ?_; rintro e w' ⟨rfl, rfl⟩)
        go_roundw
        case rel => exact ⟨k + 1, by omega, by go_num, by rw [HN.out, HO.out], hb3⟩
        case measure => simp [intOf]; omega
      · have HO : Hid (Pm.refOne W H (Pm.chan kd dp) dp (Pm.pq on k) = 0) := by show _ = _; rw [Pm.refOne, if_neg h0]
        go_wp2
        go_roundw
        case rel => exact ⟨k + 1, by omega, by go_num, by rw [HN.out, HO.out, Int.add_zero], hb3⟩
        case measure => simp [intOf]; omega
    · have hkn : k = n := by omega
      subst hkn
      go_wp2
      go_ret
      exact ⟨ret_int (by rw [hn]), hb1.trans (hbel.mono (by omega))⟩

end Go.Proofs.YtmfijackgekioaaGreatDoor
