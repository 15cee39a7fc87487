import Derived.Test.YtmfijackgekioaaDoorWp
namespace Go.Proofs.YtmfijackgekioaaDoor
open Go.RowKit

set_option maxRecDepth 100000 in
set_option maxHeartbeats 400000 in
theorem samFits32 (wd ht kd dp : Int) (ps : Bool) (pa : Option Addr) (pc pl : Nat) (sa : Option Addr) (sc : Nat) (sz : List Int) (w : World) (hd : 1 ≤ dp ∧ dp ≤ 16)
    (hwd : 1 ≤ wd ∧ wd ≤ 5000) (hht : 1 ≤ ht ∧ ht ≤ 5000) (hp : pl ≤ maxLen)
    (hm : sz.length ≤ maxLen) (hi : Ints w sa sz) (ha : ∀ a, sa = some a → sz ≠ [] → a.block < w.heap.size) :
    Calls Tryd.prog 19 #[img wd ht kd dp ps (.slice pa pl pc) (.slice sa sz.length sc)] w fun x w' => x = .returned (.bool (Pm.samB wd ht kd (Pm.chan kd dp) (Pm.two dp) pl sz)) ∧ Below w.heap.size w w' := by
  have hm' := hm
  unfold maxLen at hm hp
  have hw := wrap_two dp hd
  have hr := Pm.two_range dp hd
  have h1 := Pm.area wd ht hwd hht
  have h2 := Pm.area3 (wd * ht) (Pm.chan kd dp) (by omega) (Pm.chan_range kd dp)
  have h3 := Pm.chan_range kd dp
  go_enter Tryd.func19, Tryd.ntmps19
  go_wp2_with fail
  by_cases c1 : (sz.length : Int) = wd * ht * Pm.chan kd dp
  · have c1' : ((sz.length : Int) != wd * ht * Pm.chan kd dp) = false := by simp [c1]
    have HC : Hid ((sz.length : Int) = wd * ht * Pm.chan kd dp) := c1
    clear c1
    go_quiet ((go_at_call 15; exact Calls.quiet_of_same (chan28 _ _ _)))
    by_cases hk : kd = 3
    · have hk' : (kd == 3) = true := beq_iff_eq.2 hk
      have HK : Hid (kd = 3) := hk
      clear hk
      go_wp2_with (go_at_call 26; refine (allBelow51 sa sc sz _ _ hm' ?_).mono ?_; rotate_left; rintro e w' ⟨rfl, rfl⟩)
      · go_ret
        refine ⟨ret_bool ?_, by repeat (first | exact (Below.refl _ _).alloc (Nat.le_refl _) _ | refine below_drewN ?_ _)⟩
        have h := HC.out
        have hk := HK.out
        simp [Pm.samB, h, hk]
      · exact hi.below (by repeat (first | exact (Below.refl _ _).alloc (Nat.le_refl _) _ | refine below_drewN ?_ _)) ha
    · have hk' : (kd == 3) = false := beq_eq_false_iff_ne.2 hk
      go_wp2_with fail
      go_quiet ((go_at_call 26; exact quiet_two (allBelow51 sa sc sz _ _ hm' (hi.below (by repeat (first | exact (Below.refl _ _).alloc (Nat.le_refl _) _ | refine below_drewN ?_ _)) ha))))
      go_wp2
      go_ret
      refine ⟨ret_bool ?_, by repeat (first | exact (Below.refl _ _).alloc (Nat.le_refl _) _ | refine below_drewN ?_ _)⟩
      have h := HC.out
      simp [Pm.samB, h, hk]
  · have c1' : ((sz.length : Int) != wd * ht * Pm.chan kd dp) = true := by simp [c1]
    have HC : Hid (¬ (sz.length : Int) = wd * ht * Pm.chan kd dp) := c1
    clear c1
    go_quiet ((go_at_call 15; exact Calls.quiet_of_same (chan28 _ _ _)))
    go_wp2
    go_ret
    refine ⟨ret_bool ?_, below_drewN ((Below.refl _ _).alloc (Nat.le_refl _) _) _⟩
    have h := HC.out
    simp [Pm.samB, h]

end Go.Proofs.YtmfijackgekioaaDoor
