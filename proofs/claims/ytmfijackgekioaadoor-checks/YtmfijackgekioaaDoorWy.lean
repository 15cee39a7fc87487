import Derived.Test.YtmfijackgekioaaDoorWx
import Derived.Test.YtmfijackgekioaaDoorPr
namespace Go.Proofs.YtmfijackgekioaaDoor
open Go.RowKit

set_option maxRecDepth 100000 in
set_option maxHeartbeats 2000000 in
theorem check7 (wd ht kd dp : Int) (ps : Bool) (pa : Option Addr) (pc : Nat) (pz : List Int) (sa : Option Addr) (sc : Nat) (sz : List Int) (w : World) (tt : TypeId) (fr : Nat × Nat) (hl : Lies w pa pz sa sz tt fr) :
    Calls Tryd.prog 6 #[img wd ht kd dp ps (.slice pa pz.length pc) (.slice sa sz.length sc)] w
      fun e w' => e = .returned (.int .i64 (Pm.check wd ht kd dp ps pz sz)) ∧ Below w.heap.size w w' := by
  by_cases hch : Pm.chan kd dp = 0
  · have hch' : (Pm.chan kd dp == 0) = true := beq_iff_eq.2 hch
    go_enter Tryd.func6, Tryd.ntmps6
    go_wp2_with (go_at_call 10; refine (chan13 _ _ _).mono ?_; rintro e w' ⟨rfl, rfl⟩)
    go_ret
    exact ⟨ret_int (by rw [Pm.check, if_pos hch]), (Below.refl _ _).alloc (Nat.le_refl _) _⟩
  · have hch' : (Pm.chan kd dp == 0) = false := beq_eq_false_iff_ne.2 hch
    have hd := Pm.chan_depth kd dp hch
    have hcr := Pm.chan_range kd dp
    go_enter Tryd.func6, Tryd.ntmps6
    go_wp2_with fail
    refine (chan13 _ _ _).mono ?_
    rintro e w' ⟨rfl, rfl⟩
    go_wp2_with fail
    refine (side14 _ _).mono ?_
    rintro e w' ⟨rfl, rfl⟩
    go_wp2_with fail
    refine (side14 _ _).mono ?_
    rintro e w' ⟨rfl, rfl⟩
    cases s1 : Pm.sideB wd
    · go_wp2_with fail
      go_ret
      exact ⟨ret_int (by rw [Pm.check, if_neg hch, if_pos (by simp [s1])]), (Below.refl _ _).alloc (Nat.le_refl _) _⟩
    · cases s2 : Pm.sideB ht
      · go_wp2_with fail
        go_ret
        exact ⟨ret_int (by rw [Pm.check, if_neg hch, if_pos (by simp [s2])]), (Below.refl _ _).alloc (Nat.le_refl _) _⟩
      · have hwd := (Pm.sideB_iff wd).1 s1
        have hht := (Pm.sideB_iff ht).1 s2
        have HS : Hid (Pm.sideB wd = true ∧ Pm.sideB ht = true) := ⟨s1, s2⟩
        clear s1 s2
        obtain ⟨W, rfl⟩ := Int.eq_ofNat_of_zero_le (a := wd) (by omega)
        obtain ⟨H, rfl⟩ := Int.eq_ofNat_of_zero_le (a := ht) (by omega)
        have l1 := hl.later ((Below.refl _ w).alloc (Nat.le_refl _) (.cells #[.int .i64 W, .int .i64 H, .int .i64 kd, .int .i64 dp, .bool ps, .slice pa pz.length pc, .slice sa sz.length sc] 24))
        go_wp2_with fail
        refine (raw15 W H kd dp ps _ (by omega) (by omega) hd).mono ?_
        rintro e w1 ⟨rfl, hb1⟩
        rw [Pm.ref_raw W H (by omega)]
        have l2 := l1.later hb1
        obtain ⟨hc1, hf1⟩ := bcell hb1
        by_cases hr : 4194304 < Pm.raw W H (Pm.chan kd dp * dp) ps
        · go_wp2_with fail
          go_ret
          exact ⟨ret_int (by rw [Pm.check, if_neg hch, if_neg (by simp [HS.out]), if_pos hr]), ((Below.refl _ _).alloc (Nat.le_refl _) _).trans (hb1.mono (by simp))⟩
        · go_wp2_with fail
          refine (paletted16 W H kd dp ps pa pc pz _ _ hd l2.hpm l2.hp l2.hpa).mono ?_
          rintro e w2 ⟨rfl, hb2⟩
          have l3 := l2.later hb2
          have hb2' := hb1.trans (hb2.mono hb1.size)
          obtain ⟨hc2, hf2⟩ := bcell hb2'
          clear hc1 hf1 hb1 hb2 l1 l2
          have HB : Hid (Below w.heap.size w w2) := ((Below.refl _ _).alloc (Nat.le_refl _) _).trans (hb2'.mono (by simp))
          cases s3 : Pm.palB kd (Pm.two dp) pz
          · go_wp2_with fail
            go_ret
            exact ⟨ret_int (by rw [Pm.check, if_neg hch, if_neg (by simp [HS.out]), if_neg (Int.not_lt.2 hr), if_pos s3]), HB.out⟩
          · have H3 : Hid (Pm.palB kd (Pm.two dp) pz = true) := s3
            clear s3 hb2'
            have hl1 := l3.hpm
            have hl2 := l3.hsm
            unfold maxLen at hl1 hl2
            have ha1 := Pm.area W H hwd hht
            have ha2 := Pm.area3 ((W : Int) * H) (Pm.chan kd dp) (by omega) hcr
            by_cases c1 : (sz.length : Int) = (W : Int) * H * Pm.chan kd dp
            · have c1' : ((sz.length : Int) != (W : Int) * H * Pm.chan kd dp) = false := by simp [c1]
              have HC : Hid ((sz.length : Int) = (W : Int) * H * Pm.chan kd dp) := c1
              clear c1
              have hw := wrap_two dp hd
              have htr := Pm.two_range dp hd
              have hc3 : ∀ o, w2.cell? ⟨w.heap.size, o, none⟩ = (w.alloc (.cells #[.int .i64 W, .int .i64 H, .int .i64 kd, .int .i64 dp, .bool ps, .slice pa pz.length pc, .slice sa sz.length sc] 24)).cell? ⟨w.heap.size, o, none⟩ := fun o => hc2 _ o (by simp)
              clear hc2 hf2
              by_cases hk : kd = 3
              · have hk' : (kd == 3) = true := beq_iff_eq.2 hk
                have HK : Hid (kd = 3) := hk
                have hE : (pz.length : Int) / 3 ≤ Pm.two dp := by
                  have h := H3.out
                  rw [Pm.palB, if_pos hk] at h
                  simp at h
                  exact h.1.2
                clear hk
                go_wp2
                go_loop [8] (fun i => ∃ k : Nat, k ≤ sz.length ∧ i = .int .i64 k ∧ Hid (Pm.allB (sz.take k) ((pz.length : Int) / 3) = true)) (fun i => sz.length - (intOf i).toNat)
                case atStart => exact ⟨0, Nat.zero_le _, rfl, rfl⟩
                case round =>
                  obtain ⟨k, hkl, rfl, HA⟩ := hrel
                  by_cases hlt : k < sz.length
                  · obtain ⟨b, off, rfl, hcl⟩ := l3.hs k hlt
                    obtain ⟨x, hx⟩ : ∃ x : Int, x = sz[k] := ⟨_, rfl⟩
                    rw [← hx] at hcl
                    have HX : Hid (x = sz[k]) := hx
                    clear hx
                    by_cases h1 : x < 0
                    · go_wp2
                      go_ret
                      exact ⟨ret_int (by rw [Pm.check, if_neg hch, if_neg (by simp [HS.out]), if_neg (Int.not_lt.2 hr), if_neg (by simp [H3.out]), if_pos (by rw [Pm.samB, if_pos HK.out, Pm.allB_no sz k hlt _ (by rw [← HX.out]; omega)]; simp)]), HB.out⟩
                    · by_cases h2 : Pm.two dp ≤ x
                      · go_wp2
                        go_ret
                        exact ⟨ret_int (by rw [Pm.check, if_neg hch, if_neg (by simp [HS.out]), if_neg (Int.not_lt.2 hr), if_neg (by simp [H3.out]), if_pos (by rw [Pm.samB, if_pos HK.out, Pm.allB_no sz k hlt _ (by rw [← HX.out]; omega)]; simp)]), HB.out⟩
                      · by_cases h3 : (pz.length : Int) / 3 ≤ x
                        · go_wp2
                          go_ret
                          exact ⟨ret_int (by rw [Pm.check, if_neg hch, if_neg (by simp [HS.out]), if_neg (Int.not_lt.2 hr), if_neg (by simp [H3.out]), if_pos (by rw [Pm.samB, if_pos HK.out, Pm.allB_no sz k hlt _ (by rw [← HX.out]; omega)]; simp)]), HB.out⟩
                        · go_wp2
                          go_round
                          case rel => exact ⟨k + 1, by omega, by go_num, by show _ = _; rw [Pm.allB_snoc sz k hlt, HA.out, ← HX.out]; simp; omega⟩
                          case measure => simp [intOf]; omega
                  · go_wp2
                    go_ret
                    have h := HA.out
                    rw [List.take_of_length_le (by omega)] at h
                    exact ⟨ret_int (by rw [Pm.check, if_neg hch, if_neg (by simp [HS.out]), if_neg (Int.not_lt.2 hr), if_neg (by simp [H3.out]), if_neg (by rw [Pm.samB, if_pos HK.out, h, HC.out]; simp)]), HB.out⟩
              · have hk' : (kd == 3) = false := beq_eq_false_iff_ne.2 hk
                go_wp2
                go_loop [8] (fun i => ∃ k : Nat, k ≤ sz.length ∧ i = .int .i64 k ∧ Hid (Pm.allB (sz.take k) (Pm.two dp) = true)) (fun i => sz.length - (intOf i).toNat)
                case atStart => exact ⟨0, Nat.zero_le _, rfl, rfl⟩
                case round =>
                  obtain ⟨k, hkl, rfl, HA⟩ := hrel
                  by_cases hlt : k < sz.length
                  · obtain ⟨b, off, rfl, hcl⟩ := l3.hs k hlt
                    obtain ⟨x, hx⟩ : ∃ x : Int, x = sz[k] := ⟨_, rfl⟩
                    rw [← hx] at hcl
                    have HX : Hid (x = sz[k]) := hx
                    clear hx
                    by_cases h1 : x < 0
                    · go_wp2
                      go_ret
                      exact ⟨ret_int (by rw [Pm.check, if_neg hch, if_neg (by simp [HS.out]), if_neg (Int.not_lt.2 hr), if_neg (by simp [H3.out]), if_pos (by rw [Pm.samB, if_neg hk, Pm.allB_no sz k hlt _ (by rw [← HX.out]; omega)]; simp)]), HB.out⟩
                    · by_cases h2 : Pm.two dp ≤ x
                      · go_wp2
                        go_ret
                        exact ⟨ret_int (by rw [Pm.check, if_neg hch, if_neg (by simp [HS.out]), if_neg (Int.not_lt.2 hr), if_neg (by simp [H3.out]), if_pos (by rw [Pm.samB, if_neg hk, Pm.allB_no sz k hlt _ (by rw [← HX.out]; omega)]; simp)]), HB.out⟩
                      · go_wp2
                        go_round
                        case rel => exact ⟨k + 1, by omega, by go_num, by show _ = _; rw [Pm.allB_snoc sz k hlt, HA.out, ← HX.out]; simp; omega⟩
                        case measure => simp [intOf]; omega
                  · go_wp2
                    go_ret
                    have h := HA.out
                    rw [List.take_of_length_le (by omega)] at h
                    exact ⟨ret_int (by rw [Pm.check, if_neg hch, if_neg (by simp [HS.out]), if_neg (Int.not_lt.2 hr), if_neg (by simp [H3.out]), if_neg (by rw [Pm.samB, if_neg hk, h, HC.out]; simp)]), HB.out⟩
            · have c1' : ((sz.length : Int) != (W : Int) * H * Pm.chan kd dp) = true := by simp [c1]
              have HC : Hid (¬ (sz.length : Int) = (W : Int) * H * Pm.chan kd dp) := c1
              clear c1
              go_wp2
              go_ret
              exact ⟨ret_int (by rw [Pm.check, if_neg hch, if_neg (by simp [HS.out]), if_neg (Int.not_lt.2 hr), if_neg (by simp [H3.out]), if_pos (by have := HC.out; simp [Pm.samB, this])]), HB.out⟩

end Go.Proofs.YtmfijackgekioaaDoor
