import Derived.Test.YtmfijackgekioaaGreatDoorQKpBs2
import Derived.Test.YtmfijackgekioaaGreatDoorQPmNy7
import Derived.WalkKit
import Derived.WalkSpells
import Derived.WalkLawsBesides
import Derived.BigQuiet
import Derived.Deep.QuietTactic

namespace Go.Proofs.YtmfijackgekioaaGreatDoor
open Go.RowKit

set_option maxRecDepth 100000 in
set_option maxHeartbeats 400000 in
theorem pass52 (c r : Int) (w : World) (hc : 0 ≤ c ∧ c ≤ 5000) (hr : 0 ≤ r ∧ r ≤ 5000) :
    Calls Tryz.prog 76 #[.int .i64 c, .int .i64 r] w fun e w' => e = .returned (.int .i64 (Pm.pass c r)) ∧ w' = w := by
  go_enter Tryz.func76, Tryz.ntmps76
  go_wp2
  all_goals go_ret
  all_goals refine ⟨ret_int ?_, rfl⟩
  all_goals (unfold Pm.pass; simp_all)

set_option maxRecDepth 100000 in
set_option maxHeartbeats 400000 in
theorem side29 (n : Int) (w : World) :
    Calls Tryz.prog 55 #[.int .i64 n] w fun e w' => e = .returned (.bool (Pm.sideB n)) ∧ w' = w := by
  go_enter Tryz.func55, Tryz.ntmps55
  go_wp2
  all_goals go_ret
  all_goals refine ⟨ret_bool ?_, rfl⟩
  all_goals (unfold Pm.sideB; first | (simp_all; done) | (simp; omega))

set_option maxRecDepth 100000 in
set_option maxHeartbeats 400000 in
theorem side14 (n : Int) (w : World) :
    Calls Tryz.prog 31 #[.int .i64 n] w fun e w' => e = .returned (.bool (Pm.sideB n)) ∧ w' = w := by
  go_enter Tryz.func31, Tryz.ntmps31
  go_wp2
  all_goals go_ret
  all_goals refine ⟨ret_bool ?_, rfl⟩
  all_goals (unfold Pm.sideB; first | (simp_all; done) | (simp; omega))

set_option maxRecDepth 100000 in
set_option maxHeartbeats 400000 in
theorem steps71 (s t e : Int) (w : World) (hs : 0 ≤ s ∧ s ≤ 8) (ht : 1 ≤ t ∧ t ≤ 8) (he : 0 ≤ e ∧ e ≤ 5000) (h : 0 ≤ e - s + t - 1) :
    Calls Tryz.prog 135 #[.int .i64 s, .int .i64 t, .int .i64 e] w fun x w' => x = .returned (.int .i64 ((e - s + t - 1) / t)) ∧ w' = w := by
  go_enter Tryz.func135, Tryz.ntmps135
  go_wp2
  all_goals go_ret
  all_goals exact ⟨rfl, rfl⟩

end Go.Proofs.YtmfijackgekioaaGreatDoor

namespace Go.Proofs.YtmfijackgekioaaGreatDoor
open Go.RowKit

theorem b1 {a b : Int} (h : a = b) : (a == b) = true := by simp [h]
theorem b0 {a b : Int} (h : a ≠ b) : (a == b) = false := by simp [h]

set_option maxRecDepth 100000 in
set_option maxHeartbeats 1000000 in
theorem chan28 (k d : Int) (w : World) :
    Calls Tryz.prog 54 #[.int .i64 k, .int .i64 d] w fun e w' => e = .returned (.int .i64 (Pm.chan k d)) ∧ w' = w := by
  go_enter Tryz.func54, Tryz.ntmps54
  go_wp2
  all_goals go_ret
  all_goals refine ⟨ret_int ?_, rfl⟩
  all_goals (unfold Pm.chan; simp_all)

set_option maxRecDepth 100000 in
set_option maxHeartbeats 1000000 in
theorem chan13 (k d : Int) (w : World) :
    Calls Tryz.prog 30 #[.int .i64 k, .int .i64 d] w fun e w' => e = .returned (.int .i64 (Pm.chan k d)) ∧ w' = w := by
  go_enter Tryz.func30, Tryz.ntmps30
  go_wp2
  all_goals go_ret
  all_goals refine ⟨ret_int ?_, rfl⟩
  all_goals (unfold Pm.chan; simp_all)

end Go.Proofs.YtmfijackgekioaaGreatDoor

namespace Go.Proofs.YtmfijackgekioaaGreatDoor
open Go.RowKit

set_option maxRecDepth 100000 in
set_option maxHeartbeats 400000 in
theorem allBelow51 (ao : Option Addr) (cap : Nat) (zs : List Int) (e : Int) (w : World) (hm : zs.length ≤ maxLen) (hi : Ints w ao zs) :
    Calls Tryz.prog 96 #[.slice ao zs.length cap, .int .i64 e] w fun x w' => x = .returned (.bool (Pm.allB zs e)) ∧ w' = w := by
  unfold maxLen at hm
  go_enter Tryz.func96, Tryz.ntmps96
  go_wp2
  go_loop [9] (fun i => ∃ k : Nat, k ≤ zs.length ∧ i = .int .i64 k ∧ Hid (Pm.allB (zs.take k) e = true)) (fun i => zs.length - (intOf i).toNat)
  case atStart => exact ⟨0, Nat.zero_le _, rfl, rfl⟩
  case round =>
    obtain ⟨k, hk, rfl, HA⟩ := hrel
    by_cases hlt : k < zs.length
    · obtain ⟨b, off, rfl, hc⟩ := hi k hlt
      obtain ⟨x, hx⟩ : ∃ x : Int, x = zs[k] := ⟨_, rfl⟩
      rw [← hx] at hc
      have HX : Hid (x = zs[k]) := hx
      clear hx hi
      by_cases h1 : x < 0
      · go_wp2
        go_ret
        exact ⟨ret_bool (Pm.allB_no zs k hlt e (by rw [← HX.out]; omega)).symm, rfl⟩
      · by_cases h2 : e ≤ x
        · go_wp2
          go_ret
          exact ⟨ret_bool (Pm.allB_no zs k hlt e (by rw [← HX.out]; omega)).symm, rfl⟩
        · go_wp2
          go_round
          case rel => exact ⟨k + 1, by omega, by go_num, by show _ = _; rw [Pm.allB_snoc zs k hlt, HA.out, ← HX.out]; simp; omega⟩
          case measure => simp [intOf]; omega
    · go_wp2
      go_ret
      refine ⟨ret_bool ?_, rfl⟩
      have h := HA.out
      rw [List.take_of_length_le (by omega)] at h
      exact h.symm

end Go.Proofs.YtmfijackgekioaaGreatDoor

namespace Go.Proofs.YtmfijackgekioaaGreatDoor
open Go.RowKit

abbrev img (wd ht kd dp : Int) (ps : Bool) (pv sv : Value) : Value := .agg #[.int .i64 wd, .int .i64 ht, .int .i64 kd, .int .i64 dp, .bool ps, pv, sv]

theorem wrap_two (d : Int) (h : 1 ≤ d ∧ d ≤ 16) : wrap64 (2 ^ d.toNat) = Pm.two d := by
  have := Pm.two_range d h
  rw [IntWalk.wrap64_in]
  · rfl
  · show _ ≤ Pm.two d ∧ Pm.two d ≤ _; omega

theorem quiet_two {P : Program} {f : FuncId} {args : Array Value} {w : World} {n m : Nat} {v : Value}
    (h : Calls P f args (w.drewN (n + m)) fun e w' => e = .returned v ∧ w' = w.drewN (n + m)) : Calls P f args (w.drewN (n + m)) fun e w'' => e = .returned v ∧ ∃ m, w'' = w.drewN (n + m) :=
  h.mono fun _ _ ⟨he, hm⟩ => ⟨he, m, hm⟩

set_option maxRecDepth 100000 in
set_option maxHeartbeats 400000 in
theorem colours25 (n m : Int) (w : World) (hn : 0 ≤ n ∧ n ≤ 9223372036854775807) (c : Bool) (hc : c = (decide (n % 3 = 0) && (decide (1 ≤ n / 3) && decide (n / 3 ≤ m)))) :
    Calls Tryz.prog 95 #[.int .i64 n, .int .i64 m] w fun x w' => x = .returned (.bool c) ∧ w' = w := by
  have HC : Hid (c = (decide (n % 3 = 0) && (decide (1 ≤ n / 3) && decide (n / 3 ≤ m)))) := hc
  clear hc
  go_enter Tryz.func95, Tryz.ntmps95
  go_wp2
  all_goals go_ret
  all_goals refine ⟨ret_bool ?_, rfl⟩
  all_goals rw [HC.out]
  all_goals (rw [Bool.eq_iff_iff]; simp; try omega)

set_option maxRecDepth 100000 in
set_option maxHeartbeats 400000 in
theorem palFits31 (wd ht kd dp : Int) (ps : Bool) (pa : Option Addr) (pc : Nat) (pz : List Int) (sv : Value) (w : World) (hd : 1 ≤ dp ∧ dp ≤ 16)
    (hm : pz.length ≤ maxLen) (hi : Ints w pa pz) (ha : ∀ a, pa = some a → pz ≠ [] → a.block < w.heap.size) :
    Calls Tryz.prog 57 #[img wd ht kd dp ps (.slice pa pz.length pc) sv] w fun x w' => x = .returned (.bool (Pm.palB kd (Pm.two dp) pz)) ∧ Below w.heap.size w w' := by
  have hm' := hm
  unfold maxLen at hm
  have hw := wrap_two dp hd
  have hr := Pm.two_range dp hd
  by_cases hk : kd = 3
  · subst hk
    have hw2 : IntKind.i64.wrap (2 ^ dp.toNat) = Pm.two dp := IntWalk.i64_in (Pm.two dp) (by omega)
    have HN : 0 ≤ (pz.length : Int) ∧ (pz.length : Int) ≤ 9223372036854775807 := by omega
    by_cases hc : (decide ((pz.length : Int) % 3 = 0) && (decide (1 ≤ (pz.length : Int) / 3) && decide ((pz.length : Int) / 3 ≤ Pm.two dp))) = true
    · have HC : Hid (_ = true) := hc
      have kc := fun u => colours25 (pz.length : Int) (Pm.two dp) u HN true hc.symm
      have kd := fun u => colours25 (pz.length : Int) (IntKind.i64.wrap (2 ^ dp.toNat)) u HN true (by rw [hw2]; exact hc.symm)
      clear hc
      go_enter Tryz.func57, Tryz.ntmps57
      go_wp2
      go_quiet (first | (go_at_call 95; first | exact Calls.quiet_of_same (kc _) | exact Calls.quiet_of_same (kd _)) | (go_at_call 96; exact Calls.quiet_of_same (allBelow51 pa pc pz 256 _ hm' (hi.below (below_drewN ((Below.refl _ _).alloc (Nat.le_refl _) _) _) ha))))
      go_wp2
      all_goals go_ret
      all_goals refine ⟨ret_bool ?_, below_drewN ((Below.refl _ _).alloc (Nat.le_refl _) _) _⟩
      have h := HC.out
      simp at h
      simp [Pm.palB, h]
    · have hc' : (decide ((pz.length : Int) % 3 = 0) && (decide (1 ≤ (pz.length : Int) / 3) && decide ((pz.length : Int) / 3 ≤ Pm.two dp))) = false := by simpa using hc
      have HC : Hid (_ = false) := hc'
      have kc := fun u => colours25 (pz.length : Int) (Pm.two dp) u HN false hc'.symm
      have kd := fun u => colours25 (pz.length : Int) (IntKind.i64.wrap (2 ^ dp.toNat)) u HN false (by rw [hw2]; exact hc'.symm)
      clear hc hc'
      go_enter Tryz.func57, Tryz.ntmps57
      go_wp2
      go_quiet ((go_at_call 95; first | exact Calls.quiet_of_same (kc _) | exact Calls.quiet_of_same (kd _)))
      go_wp2
      all_goals go_ret
      all_goals refine ⟨ret_bool ?_, below_drewN ((Below.refl _ _).alloc (Nat.le_refl _) _) _⟩
      have h := HC.out
      simp only [Pm.palB, if_true]
      rw [← Bool.and_assoc] at h
      rw [h]
      rfl
  · go_enter Tryz.func57, Tryz.ntmps57
    go_wp2
    all_goals go_ret
    all_goals refine ⟨ret_bool ?_, (Below.refl _ _).alloc (Nat.le_refl _) _⟩
    all_goals simp only [Pm.palB, if_neg hk]
    all_goals (rw [Bool.eq_iff_iff]; simp)

set_option maxRecDepth 100000 in
set_option maxHeartbeats 400000 in
theorem paletted16 (wd ht kd dp : Int) (ps : Bool) (pa : Option Addr) (pc : Nat) (pz : List Int) (sv : Value) (w : World) (hd : 1 ≤ dp ∧ dp ≤ 16)
    (hm : pz.length ≤ maxLen) (hi : Ints w pa pz) (ha : ∀ a, pa = some a → pz ≠ [] → a.block < w.heap.size) :
    Calls Tryz.prog 33 #[img wd ht kd dp ps (.slice pa pz.length pc) sv] w fun x w' => x = .returned (.bool (Pm.palB kd (Pm.two dp) pz)) ∧ Below w.heap.size w w' := by
  have hm' := hm
  unfold maxLen at hm
  have hw := wrap_two dp hd
  have hr := Pm.two_range dp hd
  by_cases hk : kd = 3
  · subst hk
    go_enter Tryz.func33, Tryz.ntmps33
    go_wp2
    by_cases c1 : (pz.length : Int) % 3 = 0
    · have c1' : ((pz.length : Int) % 3 != 0) = false := by simp [c1]
      by_cases c2 : (pz.length : Int) = 0
      · have c2' : ((pz.length : Int) == 0) = true := beq_iff_eq.2 c2
        have HC : Hid ((pz.length : Int) = 0) := c2
        clear c1 c2
        go_quiet (fail)
        go_wp2
        all_goals go_ret
        all_goals refine ⟨ret_bool ?_, below_drewN ((Below.refl _ _).alloc (Nat.le_refl _) _) _⟩
        have h := HC.out
        simp [Pm.palB, h]
      · have c2' : ((pz.length : Int) == 0) = false := beq_eq_false_iff_ne.2 c2
        have HC : Hid ((pz.length : Int) % 3 = 0 ∧ 1 ≤ (pz.length : Int) / 3) := ⟨c1, by omega⟩
        clear c1 c2
        by_cases c3 : Pm.two dp < (pz.length : Int) / 3
        · go_quiet (fail)
          go_wp2
          all_goals go_ret
          all_goals refine ⟨ret_bool ?_, below_drewN ((Below.refl _ _).alloc (Nat.le_refl _) _) _⟩
          have h : ¬ ((pz.length : Int) / 3 ≤ Pm.two dp) := by omega
          simp [Pm.palB, h]
        · go_quiet (fail)
          go_wp2
          go_loop [3] (fun i => ∃ k : Nat, k ≤ pz.length ∧ i = .int .i64 k ∧ Hid (Pm.allB (pz.take k) 256 = true)) (fun i => pz.length - (intOf i).toNat)
          case atStart => exact ⟨0, Nat.zero_le _, rfl, rfl⟩
          case round =>
            obtain ⟨k, hk, rfl, HA⟩ := hrel
            by_cases hlt : k < pz.length
            · obtain ⟨b, off, rfl, hc⟩ := hi k hlt
              have hbb : b < w.heap.size := ha ⟨b, off, none⟩ rfl (ne_of_lt hlt)
              obtain ⟨x, hx⟩ : ∃ x : Int, x = pz[k] := ⟨_, rfl⟩
              rw [← hx] at hc
              have HX : Hid (x = pz[k]) := hx
              clear hx hi ha
              by_cases h1 : x < 0
              · go_wp2
                go_ret
                refine ⟨ret_bool ?_, below_drewN ((Below.refl _ _).alloc (Nat.le_refl _) _) _⟩
                have h := Pm.allB_no pz k hlt 256 (by rw [← HX.out]; omega)
                simp [Pm.palB, h]
              · by_cases h2 : 255 < x
                · go_wp2
                  go_ret
                  refine ⟨ret_bool ?_, below_drewN ((Below.refl _ _).alloc (Nat.le_refl _) _) _⟩
                  have h := Pm.allB_no pz k hlt 256 (by rw [← HX.out]; omega)
                  simp [Pm.palB, h]
                · go_wp2
                  go_round
                  case rel => exact ⟨k + 1, by omega, by go_num, by show _ = _; rw [Pm.allB_snoc pz k hlt, HA.out, ← HX.out]; simp; omega⟩
                  case measure => simp [intOf]; omega
            · go_wp2
              go_ret
              refine ⟨ret_bool ?_, below_drewN ((Below.refl _ _).alloc (Nat.le_refl _) _) _⟩
              have h := HA.out
              rw [List.take_of_length_le (by omega)] at h
              have h4 := HC.out
              simp [Pm.palB, h, h4]
              omega
    · have c1' : ((pz.length : Int) % 3 != 0) = true := by simp [c1]
      have HC : Hid (¬ (pz.length : Int) % 3 = 0) := c1
      clear c1
      go_quiet (fail)
      go_wp2
      all_goals go_ret
      all_goals refine ⟨ret_bool ?_, below_drewN ((Below.refl _ _).alloc (Nat.le_refl _) _) _⟩
      have h := HC.out
      simp [Pm.palB, h]
  · go_enter Tryz.func33, Tryz.ntmps33
    go_wp2
    all_goals go_ret
    all_goals refine ⟨ret_bool ?_, (Below.refl _ _).alloc (Nat.le_refl _) _⟩
    all_goals simp only [Pm.palB, if_neg hk]
    all_goals (rw [Bool.eq_iff_iff]; simp)

end Go.Proofs.YtmfijackgekioaaGreatDoor

namespace Go.Proofs.YtmfijackgekioaaGreatDoor
open Go.RowKit

set_option maxRecDepth 100000 in
set_option maxHeartbeats 400000 in
theorem samFits32 (wd ht kd dp : Int) (ps : Bool) (pa : Option Addr) (pc pl : Nat) (sa : Option Addr) (sc : Nat) (sz : List Int) (w : World) (hd : 1 ≤ dp ∧ dp ≤ 16)
    (hwd : 1 ≤ wd ∧ wd ≤ 5000) (hht : 1 ≤ ht ∧ ht ≤ 5000) (hp : pl ≤ maxLen)
    (hm : sz.length ≤ maxLen) (hi : Ints w sa sz) (ha : ∀ a, sa = some a → sz ≠ [] → a.block < w.heap.size) :
    Calls Tryz.prog 58 #[img wd ht kd dp ps (.slice pa pl pc) (.slice sa sz.length sc)] w fun x w' => x = .returned (.bool (Pm.samB wd ht kd (Pm.chan kd dp) (Pm.two dp) pl sz)) ∧ Below w.heap.size w w' := by
  have hm' := hm
  unfold maxLen at hm hp
  have hw := wrap_two dp hd
  have hr := Pm.two_range dp hd
  have h1 := Pm.area wd ht hwd hht
  have h2 := Pm.area3 (wd * ht) (Pm.chan kd dp) (by omega) (Pm.chan_range kd dp)
  have h3 := Pm.chan_range kd dp
  go_enter Tryz.func58, Tryz.ntmps58
  go_wp2_with fail
  by_cases c1 : (sz.length : Int) = wd * ht * Pm.chan kd dp
  · have c1' : ((sz.length : Int) != wd * ht * Pm.chan kd dp) = false := by simp [c1]
    have HC : Hid ((sz.length : Int) = wd * ht * Pm.chan kd dp) := c1
    clear c1
    go_quiet ((go_at_call 54; exact Calls.quiet_of_same (chan28 _ _ _)))
    by_cases hk : kd = 3
    · have hk' : (kd == 3) = true := beq_iff_eq.2 hk
      have HK : Hid (kd = 3) := hk
      clear hk
      go_wp2_with (go_at_call 96; refine (allBelow51 sa sc sz _ _ hm' ?_).mono ?_; rotate_left; rintro e w' ⟨rfl, rfl⟩)
      · go_ret
        refine ⟨ret_bool ?_, by repeat (first | exact (Below.refl _ _).alloc (Nat.le_refl _) _ | refine below_drewN ?_ _)⟩
        have h := HC.out
        have hk := HK.out
        simp [Pm.samB, h, hk]
      · exact hi.below (by repeat (first | exact (Below.refl _ _).alloc (Nat.le_refl _) _ | refine below_drewN ?_ _)) ha
    · have hk' : (kd == 3) = false := beq_eq_false_iff_ne.2 hk
      go_wp2_with fail
      go_quiet ((go_at_call 96; exact quiet_two (allBelow51 sa sc sz _ _ hm' (hi.below (by repeat (first | exact (Below.refl _ _).alloc (Nat.le_refl _) _ | refine below_drewN ?_ _)) ha))))
      go_wp2
      go_ret
      refine ⟨ret_bool ?_, by repeat (first | exact (Below.refl _ _).alloc (Nat.le_refl _) _ | refine below_drewN ?_ _)⟩
      have h := HC.out
      simp [Pm.samB, h, hk]
  · have c1' : ((sz.length : Int) != wd * ht * Pm.chan kd dp) = true := by simp [c1]
    have HC : Hid (¬ (sz.length : Int) = wd * ht * Pm.chan kd dp) := c1
    clear c1
    go_quiet ((go_at_call 54; exact Calls.quiet_of_same (chan28 _ _ _)))
    go_wp2
    go_ret
    refine ⟨ret_bool ?_, below_drewN ((Below.refl _ _).alloc (Nat.le_refl _) _) _⟩
    have h := HC.out
    simp [Pm.samB, h]

end Go.Proofs.YtmfijackgekioaaGreatDoor
