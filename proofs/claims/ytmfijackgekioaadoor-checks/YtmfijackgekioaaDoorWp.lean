import Derived.Test.YtmfijackgekioaaDoorWl
namespace Go.Proofs.YtmfijackgekioaaDoor
open Go.RowKit

abbrev img (wd ht kd dp : Int) (ps : Bool) (pv sv : Value) : Value := .agg #[.int .i64 wd, .int .i64 ht, .int .i64 kd, .int .i64 dp, .bool ps, pv, sv]

theorem wrap_two (d : Int) (h : 1 ≤ d ∧ d ≤ 16) : wrap64 (2 ^ d.toNat) = Pm.two d := by
  have := Pm.two_range d h
  rw [IntWalk.wrap64_in]
  · rfl
  · show _ ≤ Pm.two d ∧ Pm.two d ≤ _; omega

theorem quiet_two {P : Program} {f : FuncId} {args : Array Value} {w : World} {n m : Nat} {v : Value}
    (h : Calls P f args (w.drewN (n + m)) fun e w' => e = .returned v ∧ w' = w.drewN (n + m)) : Calls P f args (w.drewN (n + m)) fun e w'' => e = .returned v ∧ ∃ m, w'' = w.drewN (n + m) :=
  h.mono fun _ _ ⟨he, hm⟩ => ⟨he, m, hm⟩

set_option maxRecDepth 100000 in
set_option maxHeartbeats 400000 in
theorem colours25 (n m : Int) (w : World) (hn : 0 ≤ n ∧ n ≤ 9223372036854775807) (c : Bool) (hc : c = (decide (n % 3 = 0) && (decide (1 ≤ n / 3) && decide (n / 3 ≤ m)))) :
    Calls Tryd.prog 25 #[.int .i64 n, .int .i64 m] w fun x w' => x = .returned (.bool c) ∧ w' = w := by
  have HC : Hid (c = (decide (n % 3 = 0) && (decide (1 ≤ n / 3) && decide (n / 3 ≤ m)))) := hc
  clear hc
  go_enter Tryd.func25, Tryd.ntmps25
  go_wp2
  all_goals go_ret
  all_goals refine ⟨ret_bool ?_, rfl⟩
  all_goals rw [HC.out]
  all_goals (rw [Bool.eq_iff_iff]; simp; try omega)

set_option maxRecDepth 100000 in
set_option maxHeartbeats 400000 in
theorem palFits31 (wd ht kd dp : Int) (ps : Bool) (pa : Option Addr) (pc : Nat) (pz : List Int) (sv : Value) (w : World) (hd : 1 ≤ dp ∧ dp ≤ 16)
    (hm : pz.length ≤ maxLen) (hi : Ints w pa pz) (ha : ∀ a, pa = some a → pz ≠ [] → a.block < w.heap.size) :
    Calls Tryd.prog 18 #[img wd ht kd dp ps (.slice pa pz.length pc) sv] w fun x w' => x = .returned (.bool (Pm.palB kd (Pm.two dp) pz)) ∧ Below w.heap.size w w' := by
  have hm' := hm
  unfold maxLen at hm
  have hw := wrap_two dp hd
  have hr := Pm.two_range dp hd
  by_cases hk : kd = 3
  · subst hk
    have hw2 : IntKind.i64.wrap (2 ^ dp.toNat) = Pm.two dp := IntWalk.i64_in (Pm.two dp) (by omega)
    have HN : 0 ≤ (pz.length : Int) ∧ (pz.length : Int) ≤ 9223372036854775807 := by omega
    by_cases hc : (decide ((pz.length : Int) % 3 = 0) && (decide (1 ≤ (pz.length : Int) / 3) && decide ((pz.length : Int) / 3 ≤ Pm.two dp))) = true
    · have HC : Hid (_ = true) := hc
      have kc := fun u => colours25 (pz.length : Int) (Pm.two dp) u HN true hc.symm
      have kd := fun u => colours25 (pz.length : Int) (IntKind.i64.wrap (2 ^ dp.toNat)) u HN true (by rw [hw2]; exact hc.symm)
      clear hc
      go_enter Tryd.func18, Tryd.ntmps18
      go_wp2
      go_quiet (first | (go_at_call 25; first | exact Calls.quiet_of_same (kc _) | exact Calls.quiet_of_same (kd _)) | (go_at_call 26; exact Calls.quiet_of_same (allBelow51 pa pc pz 256 _ hm' (hi.below (below_drewN ((Below.refl _ _).alloc (Nat.le_refl _) _) _) ha))))
      go_wp2
      all_goals go_ret
      all_goals refine ⟨ret_bool ?_, below_drewN ((Below.refl _ _).alloc (Nat.le_refl _) _) _⟩
      have h := HC.out
      simp at h
      simp [Pm.palB, h]
    · have hc' : (decide ((pz.length : Int) % 3 = 0) && (decide (1 ≤ (pz.length : Int) / 3) && decide ((pz.length : Int) / 3 ≤ Pm.two dp))) = false := by simpa using hc
      have HC : Hid (_ = false) := hc'
      have kc := fun u => colours25 (pz.length : Int) (Pm.two dp) u HN false hc'.symm
      have kd := fun u => colours25 (pz.length : Int) (IntKind.i64.wrap (2 ^ dp.toNat)) u HN false (by rw [hw2]; exact hc'.symm)
      clear hc hc'
      go_enter Tryd.func18, Tryd.ntmps18
      go_wp2
      go_quiet ((go_at_call 25; first | exact Calls.quiet_of_same (kc _) | exact Calls.quiet_of_same (kd _)))
      go_wp2
      all_goals go_ret
      all_goals refine ⟨ret_bool ?_, below_drewN ((Below.refl _ _).alloc (Nat.le_refl _) _) _⟩
      have h := HC.out
      simp only [Pm.palB, if_true]
      rw [← Bool.and_assoc] at h
      rw [h]
      rfl
  · go_enter Tryd.func18, Tryd.ntmps18
    go_wp2
    all_goals go_ret
    all_goals refine ⟨ret_bool ?_, (Below.refl _ _).alloc (Nat.le_refl _) _⟩
    all_goals simp only [Pm.palB, if_neg hk]
    all_goals (rw [Bool.eq_iff_iff]; simp)

set_option maxRecDepth 100000 in
set_option maxHeartbeats 400000 in
theorem paletted16 (wd ht kd dp : Int) (ps : Bool) (pa : Option Addr) (pc : Nat) (pz : List Int) (sv : Value) (w : World) (hd : 1 ≤ dp ∧ dp ≤ 16)
    (hm : pz.length ≤ maxLen) (hi : Ints w pa pz) (ha : ∀ a, pa = some a → pz ≠ [] → a.block < w.heap.size) :
    Calls Tryd.prog 13 #[img wd ht kd dp ps (.slice pa pz.length pc) sv] w fun x w' => x = .returned (.bool (Pm.palB kd (Pm.two dp) pz)) ∧ Below w.heap.size w w' := by
  have hm' := hm
  unfold maxLen at hm
  have hw := wrap_two dp hd
  have hr := Pm.two_range dp hd
  by_cases hk : kd = 3
  · subst hk
    go_enter Tryd.func13, Tryd.ntmps13
    go_wp2
    by_cases c1 : (pz.length : Int) % 3 = 0
    · have c1' : ((pz.length : Int) % 3 != 0) = false := by simp [c1]
      by_cases c2 : (pz.length : Int) = 0
      · have c2' : ((pz.length : Int) == 0) = true := beq_iff_eq.2 c2
        have HC : Hid ((pz.length : Int) = 0) := c2
        clear c1 c2
        go_quiet (fail)
        go_wp2
        all_goals go_ret
        all_goals refine ⟨ret_bool ?_, below_drewN ((Below.refl _ _).alloc (Nat.le_refl _) _) _⟩
        have h := HC.out
        simp [Pm.palB, h]
      · have c2' : ((pz.length : Int) == 0) = false := beq_eq_false_iff_ne.2 c2
        have HC : Hid ((pz.length : Int) % 3 = 0 ∧ 1 ≤ (pz.length : Int) / 3) := ⟨c1, by omega⟩
        clear c1 c2
        by_cases c3 : Pm.two dp < (pz.length : Int) / 3
        · go_quiet (fail)
          go_wp2
          all_goals go_ret
          all_goals refine ⟨ret_bool ?_, below_drewN ((Below.refl _ _).alloc (Nat.le_refl _) _) _⟩
          have h : ¬ ((pz.length : Int) / 3 ≤ Pm.two dp) := by omega
          simp [Pm.palB, h]
        · go_quiet (fail)
          go_wp2
          go_loop [3] (fun i => ∃ k : Nat, k ≤ pz.length ∧ i = .int .i64 k ∧ Hid (Pm.allB (pz.take k) 256 = true)) (fun i => pz.length - (intOf i).toNat)
          case atStart => exact ⟨0, Nat.zero_le _, rfl, rfl⟩
          case round =>
            obtain ⟨k, hk, rfl, HA⟩ := hrel
            by_cases hlt : k < pz.length
            · obtain ⟨b, off, rfl, hc⟩ := hi k hlt
              have hbb : b < w.heap.size := ha ⟨b, off, none⟩ rfl (ne_of_lt hlt)
              obtain ⟨x, hx⟩ : ∃ x : Int, x = pz[k] := ⟨_, rfl⟩
              rw [← hx] at hc
              have HX : Hid (x = pz[k]) := hx
              clear hx hi ha
              by_cases h1 : x < 0
              · go_wp2
                go_ret
                refine ⟨ret_bool ?_, below_drewN ((Below.refl _ _).alloc (Nat.le_refl _) _) _⟩
                have h := Pm.allB_no pz k hlt 256 (by rw [← HX.out]; omega)
                simp [Pm.palB, h]
              · by_cases h2 : 255 < x
                · go_wp2
                  go_ret
                  refine ⟨ret_bool ?_, below_drewN ((Below.refl _ _).alloc (Nat.le_refl _) _) _⟩
                  have h := Pm.allB_no pz k hlt 256 (by rw [← HX.out]; omega)
                  simp [Pm.palB, h]
                · go_wp2
                  go_round
                  case rel => exact ⟨k + 1, by omega, by go_num, by show _ = _; rw [Pm.allB_snoc pz k hlt, HA.out, ← HX.out]; simp; omega⟩
                  case measure => simp [intOf]; omega
            · go_wp2
              go_ret
              refine ⟨ret_bool ?_, below_drewN ((Below.refl _ _).alloc (Nat.le_refl _) _) _⟩
              have h := HA.out
              rw [List.take_of_length_le (by omega)] at h
              have h4 := HC.out
              simp [Pm.palB, h, h4]
              omega
    · have c1' : ((pz.length : Int) % 3 != 0) = true := by simp [c1]
      have HC : Hid (¬ (pz.length : Int) % 3 = 0) := c1
      clear c1
      go_quiet (fail)
      go_wp2
      all_goals go_ret
      all_goals refine ⟨ret_bool ?_, below_drewN ((Below.refl _ _).alloc (Nat.le_refl _) _) _⟩
      have h := HC.out
      simp [Pm.palB, h]
  · go_enter Tryd.func13, Tryd.ntmps13
    go_wp2
    all_goals go_ret
    all_goals refine ⟨ret_bool ?_, (Below.refl _ _).alloc (Nat.le_refl _) _⟩
    all_goals simp only [Pm.palB, if_neg hk]
    all_goals (rw [Bool.eq_iff_iff]; simp)

end Go.Proofs.YtmfijackgekioaaDoor
