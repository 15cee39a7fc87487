import Derived.Test.YtmfijackgekioaaDoorWz
namespace Go.Proofs.YtmfijackgekioaaDoor
open Go.RowKit

/-- What Check answers. -/
def Pm.check (wd ht kd dp : Int) (ps : Bool) (pz sz : List Int) : Int :=
  if Pm.chan kd dp = 0 then 1
  else if ¬ (Pm.sideB wd = true ∧ Pm.sideB ht = true) then 2
  else if 4194304 < Pm.raw wd ht (Pm.chan kd dp * dp) ps then 2
  else if Pm.palB kd (Pm.two dp) pz = false then 3
  else if Pm.samB wd ht kd (Pm.chan kd dp) (Pm.two dp) pz.length sz = false then 4
  else 0

theorem bcell {W w1 : World} (hb : Below W.heap.size W w1) : (∀ b o, b < W.heap.size → w1.cell? ⟨b, o, none⟩ = W.cell? ⟨b, o, none⟩) ∧ (∀ b o, b < W.heap.size → w1.frozen? ⟨b, o, none⟩ = W.frozen? ⟨b, o, none⟩) :=
  ⟨fun b o h => hb.cell (p := ⟨b, o, none⟩) h, fun b o h => hb.frozen (p := ⟨b, o, none⟩) h⟩

/-- What the calls lean on: the table lies in memory, the lists lie below the new blocks. -/
structure Lies (w : World) (pa : Option Addr) (pz : List Int) (sa : Option Addr) (sz : List Int) (tt : TypeId) (fr : Nat × Nat) : Prop where
  tab : w.heap[0]? = some (.cells tab42 tt fr)
  hp : Ints w pa pz
  hpa : ∀ a, pa = some a → pz ≠ [] → a.block < w.heap.size
  hpm : pz.length ≤ maxLen
  hs : Ints w sa sz
  hsa : ∀ a, sa = some a → sz ≠ [] → a.block < w.heap.size
  hsm : sz.length ≤ maxLen

theorem Lies.later {w w' : World} {pa : Option Addr} {pz : List Int} {sa : Option Addr} {sz : List Int} {tt : TypeId} {fr : Nat × Nat} (h : Lies w pa pz sa sz tt fr) (hb : Below w.heap.size w w') : Lies w' pa pz sa sz tt fr :=
  ⟨(hb.block _ (lt_of_block h.tab)).trans h.tab, h.hp.below hb h.hpa, fun a e e2 => Nat.lt_of_lt_of_le (h.hpa a e e2) hb.size, h.hpm, h.hs.below hb h.hsa, fun a e e2 => Nat.lt_of_lt_of_le (h.hsa a e e2) hb.size, h.hsm⟩

set_option maxRecDepth 100000 in
set_option maxHeartbeats 1000000 in
theorem check12 (wd ht kd dp : Int) (ps : Bool) (pa : Option Addr) (pc : Nat) (pz : List Int) (sa : Option Addr) (sc : Nat) (sz : List Int) (w : World) (tt : TypeId) (fr : Nat × Nat) (hl : Lies w pa pz sa sz tt fr) :
    Calls Tryd.prog 9 #[img wd ht kd dp ps (.slice pa pz.length pc) (.slice sa sz.length sc)] w
      fun e w' => e = .returned (.int .i64 (Pm.check wd ht kd dp ps pz sz)) ∧ Below w.heap.size w w' := by
  by_cases hch : Pm.chan kd dp = 0
  · have hch' : (Pm.chan kd dp == 0) = true := beq_iff_eq.2 hch
    go_enter Tryd.func9, Tryd.ntmps9
    go_wp2_with (go_at_call 15; refine (chan28 _ _ _).mono ?_; rintro e w' ⟨rfl, rfl⟩)
    go_ret
    exact ⟨ret_int (by rw [Pm.check, if_pos hch]), (Below.refl _ _).alloc (Nat.le_refl _) _⟩
  · have hch' : (Pm.chan kd dp == 0) = false := beq_eq_false_iff_ne.2 hch
    have hd := Pm.chan_depth kd dp hch
    go_enter Tryd.func9, Tryd.ntmps9
    go_wp2_with fail
    refine (chan28 _ _ _).mono ?_
    rintro e w' ⟨rfl, rfl⟩
    go_wp2_with fail
    refine (side29 _ _).mono ?_
    rintro e w' ⟨rfl, rfl⟩
    cases s1 : Pm.sideB wd
    · go_wp2_with fail
      go_ret
      exact ⟨ret_int (by rw [Pm.check, if_neg hch, if_pos (by simp [s1])]), (Below.refl _ _).alloc (Nat.le_refl _) _⟩
    · go_wp2_with fail
      refine (side29 _ _).mono ?_
      rintro e w' ⟨rfl, rfl⟩
      cases s2 : Pm.sideB ht
      · go_wp2_with fail
        go_ret
        exact ⟨ret_int (by rw [Pm.check, if_neg hch, if_pos (by simp [s2])]), (Below.refl _ _).alloc (Nat.le_refl _) _⟩
      · have hwd := (Pm.sideB_iff wd).1 s1
        have hht := (Pm.sideB_iff ht).1 s2
        have HS : Hid (Pm.sideB wd = true ∧ Pm.sideB ht = true) := ⟨s1, s2⟩
        clear s1 s2
        have l1 := hl.later ((Below.refl _ w).alloc (Nat.le_refl _) (.cells #[.int .i64 wd, .int .i64 ht, .int .i64 kd, .int .i64 dp, .bool ps, .slice pa pz.length pc, .slice sa sz.length sc] 24))
        go_wp2_with fail
        refine (raw30 wd ht kd dp ps _ _ _ tt fr l1.tab hwd hht hch).mono ?_
        rintro e w1 ⟨rfl, hb1⟩
        have l2 := l1.later hb1
        obtain ⟨hc1, hf1⟩ := bcell hb1
        by_cases hr : 4194304 < Pm.raw wd ht (Pm.chan kd dp * dp) ps
        · go_wp2_with fail
          go_ret
          exact ⟨ret_int (by rw [Pm.check, if_neg hch, if_neg (by simp [HS.out]), if_pos hr]), ((Below.refl _ _).alloc (Nat.le_refl _) _).trans (hb1.mono (by simp))⟩
        · go_wp2_with fail
          refine (palFits31 wd ht kd dp ps pa pc pz _ _ hd l2.hpm l2.hp l2.hpa).mono ?_
          rintro e w2 ⟨rfl, hb2⟩
          have l3 := l2.later hb2
          have hb2' := hb1.trans (hb2.mono hb1.size)
          obtain ⟨hc2, hf2⟩ := bcell hb2'
          clear hc1 hf1 hb1 hb2 l1 l2
          cases s3 : Pm.palB kd (Pm.two dp) pz
          · go_wp2_with fail
            go_ret
            exact ⟨ret_int (by rw [Pm.check, if_neg hch, if_neg (by simp [HS.out]), if_neg (Int.not_lt.2 hr), if_pos s3]), ((Below.refl _ _).alloc (Nat.le_refl _) _).trans (hb2'.mono (by simp))⟩
          · have H3 : Hid (Pm.palB kd (Pm.two dp) pz = true) := s3
            clear s3
            go_wp2_with fail
            refine (samFits32 wd ht kd dp ps pa pc pz.length sa sc sz _ hd hwd hht l3.hpm l3.hsm l3.hs l3.hsa).mono ?_
            rintro e w3 ⟨rfl, hb3⟩
            have hb3' := hb2'.trans (hb3.mono hb2'.size)
            clear hb2' hb3 hc2 hf2 l3
            cases s4 : Pm.samB wd ht kd (Pm.chan kd dp) (Pm.two dp) pz.length sz
            · go_wp2_with fail
              go_ret
              exact ⟨ret_int (by rw [Pm.check, if_neg hch, if_neg (by simp [HS.out]), if_neg (Int.not_lt.2 hr), if_neg (by simp [H3.out]), if_pos s4]), ((Below.refl _ _).alloc (Nat.le_refl _) _).trans (hb3'.mono (by simp))⟩
            · go_wp2_with fail
              go_ret
              exact ⟨ret_int (by rw [Pm.check, if_neg hch, if_neg (by simp [HS.out]), if_neg (Int.not_lt.2 hr), if_neg (by simp [H3.out]), if_neg (by simp [s4])]), ((Below.refl _ _).alloc (Nat.le_refl _) _).trans (hb3'.mono (by simp))⟩

set_option maxRecDepth 100000 in
set_option maxHeartbeats 1000000 in
theorem check6 (wd ht kd dp : Int) (ps : Bool) (pa : Option Addr) (pc : Nat) (pz : List Int) (sa : Option Addr) (sc : Nat) (sz : List Int) (w : World) (tt : TypeId) (fr : Nat × Nat) (hl : Lies w pa pz sa sz tt fr) :
    Calls Tryd.prog 5 #[img wd ht kd dp ps (.slice pa pz.length pc) (.slice sa sz.length sc)] w
      fun e w' => e = .returned (.int .i64 (Pm.check wd ht kd dp ps pz sz)) ∧ Below w.heap.size w w' := by
  have l1 := hl.later ((Below.refl _ w).alloc (Nat.le_refl _) (.cells #[.int .i64 wd, .int .i64 ht, .int .i64 kd, .int .i64 dp, .bool ps, .slice pa pz.length pc, .slice sa sz.length sc] 24))
  go_enter Tryd.func5, Tryd.ntmps5
  go_wp2_with fail
  refine (check12 wd ht kd dp ps pa pc pz sa sc sz _ tt fr l1).mono ?_
  rintro e w1 ⟨rfl, hb1⟩
  go_wp2
  go_ret
  exact ⟨rfl, ((Below.refl _ _).alloc (Nat.le_refl _) _).trans (hb1.mono (by simp))⟩

end Go.Proofs.YtmfijackgekioaaDoor
