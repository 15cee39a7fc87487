import Derived.Test.YtmfijackgekioaaGreatDoorQNdNe2
import Derived.Test.YtmfijackgekioaaGreatDoorQLg

/-
  A row gets back what its filter took away: the program. For Decodes.
-/
namespace Go.Proofs.YtmfijackgekioaaGreatDoor
open Go.RowKit Go.Maps

/-- A row of which the first bytes are done. -/
def midL (U : Nat → List Int) (x : Nat → Int) (n i : Nat) : List Int := (List.range n).map fun j => if j < i then Pm.getI (U i) j else x j
theorem midL_len (U : Nat → List Int) (x : Nat → Int) (n i : Nat) : (midL U x n i).length = n := by simp [midL]
theorem midL_zero (U : Nat → List Int) (x : Nat → Int) (n : Nat) : midL U x n 0 = (List.range n).map x := by simp [midL]
theorem midL_get (U : Nat → List Int) (x : Nat → Int) (n i j : Nat) (hj : j < n) : Pm.getI (midL U x n i) j = if j < i then Pm.getI (U i) j else x j := by
  unfold Pm.getI midL
  rw [List.getD_eq_getElem?_getD, List.getElem?_map, List.getElem?_range hj]
  rfl
theorem getI_ext {a b : List Int} (hl : a.length = b.length) (h : ∀ j, j < a.length → Pm.getI a j = Pm.getI b j) : a = b := by
  refine List.ext_getElem hl fun j h1 h2 => ?_
  have := h j h1
  unfold Pm.getI at this
  rw [List.getD_eq_getElem?_getD, List.getD_eq_getElem?_getD, List.getElem?_eq_getElem h1, List.getElem?_eq_getElem h2] at this
  exact this
theorem getI_set (a : List Int) (i j : Nat) (v : Int) (hi : i < a.length) : Pm.getI (a.set i v) j = if j = i then v else Pm.getI a j := by
  unfold Pm.getI
  rw [List.getD_eq_getElem?_getD, List.getD_eq_getElem?_getD, List.getElem?_set]
  by_cases h : i = j
  · subst h
    simp [hi]
  · rw [if_neg h, if_neg (fun e => h e.symm)]
theorem getI_append (a : List Int) (v : Int) (j : Nat) : Pm.getI (a ++ [v]) j = if j = a.length then v else Pm.getI a j := by
  unfold Pm.getI
  rw [List.getD_eq_getElem?_getD, List.getD_eq_getElem?_getD]
  by_cases h : j < a.length
  · rw [List.getElem?_append_left h, if_neg (by omega)]
  · by_cases h2 : j = a.length
    · subst h2
      simp
    · rw [if_neg h2, List.getElem?_eq_none (by simp; omega), List.getElem?_eq_none (by omega)]
/-- The byte that comes next. -/
def unV (f lead : Nat) (above x : Nat → Int) (i : Nat) : Int := (x i + Pm.takenI f (Pm.prevI (Pm.getI (Pm.unP f lead above x i)) i lead) (above i) (Pm.prevI above i lead)) % 256
theorem midL_set (f lead : Nat) (above x : Nat → Int) (n i : Nat) (hi : i < n) : (midL (Pm.unP f lead above x) x n i).set i (unV f lead above x i) = midL (Pm.unP f lead above x) x n (i + 1) := by
  have hl := Pm.unP_len f lead above x i
  refine getI_ext (by rw [List.length_set, midL_len, midL_len]) fun j hj => ?_
  rw [List.length_set, midL_len] at hj
  rw [getI_set _ _ _ _ (by rw [midL_len]; exact hi), midL_get _ _ _ _ _ hj, midL_get _ _ _ _ _ hj, Pm.unP, getI_append, hl]
  by_cases h : j = i
  · rw [if_pos h, if_pos (by omega), if_pos h]
    rfl
  · rw [if_neg h, if_neg h]
    by_cases h2 : j < i
    · rw [if_pos h2, if_pos (by omega)]
    · rw [if_neg h2, if_neg (by omega)]
theorem midL_all (f lead : Nat) (above x : Nat → Int) (n : Nat) : midL (Pm.unP f lead above x) x n n = Pm.unP f lead above x n := by
  refine getI_ext (by rw [midL_len, Pm.unP_len]) fun j hj => ?_
  rw [midL_len] at hj
  rw [midL_get _ _ _ _ _ hj, if_pos hj]
theorem midL_prev (f lead : Nat) (above x : Nat → Int) (n i : Nat) (hi : i < n) (hl : 1 ≤ lead) : Pm.prevI (Pm.getI (midL (Pm.unP f lead above x) x n i)) i lead = Pm.prevI (Pm.getI (Pm.unP f lead above x i)) i lead := by
  unfold Pm.prevI
  split
  · rw [midL_get _ _ _ _ _ (by omega), if_pos (by omega)]
  · rfl
theorem midL_range (f lead : Nat) (above x : Nat → Int) (n i : Nat) (hx : ∀ i, 0 ≤ x i ∧ x i < 256) (j : Nat) : 0 ≤ Pm.getI (midL (Pm.unP f lead above x) x n i) j ∧ Pm.getI (midL (Pm.unP f lead above x) x n i) j < 256 := by
  by_cases hj : j < n
  · rw [midL_get _ _ _ _ _ hj]
    split
    · exact Pm.unP_getI _ _ _ _ _ _
    · exact hx _
  · unfold Pm.getI
    rw [List.getD_eq_getElem?_getD, List.getElem?_eq_none (by rw [midL_len]; omega)]
    exact ⟨Int.le_refl _, by show (0 : Int) < 256; decide⟩

set_option maxRecDepth 100000 in
set_option maxHeartbeats 4000000 in
theorem restoreP (F f lead n R A : Nat) (a : List Int) (x : Nat → Int) (w : World) (hf : DoesT F f) (hR : Byt w R ((List.range n).map x)) (hA : Byt w A a) (ha : a.length = n) (ga : ∀ j, 0 ≤ Pm.getI a j ∧ Pm.getI a j < 256) (hx : ∀ i, 0 ≤ x i ∧ x i < 256)
    (hl : 1 ≤ lead ∧ lead ≤ 8) (hRA : A ≠ R) (hn : n ≤ 1000000) :
    Calls Tryz.prog 175 #[.slice (some ⟨R, 0, none⟩) n n, .slice (some ⟨A, 0, none⟩) n n, .int .i64 (lead : Nat), .func (.func F) #[] #[]] w fun e w' =>
      e = .returned (.tuple #[]) ∧ Byt w' R (Pm.unP f lead (Pm.getI a) x n) ∧ Kp (· = R) w w' := by
  have hcall := hf.call
  have HF : Hid (DoesT F f) := hf
  have HA : Hid (Byt w A a) := hA
  clear hf hA
  rw [← midL_zero (Pm.unP f lead (Pm.getI a) x)] at hR
  go_enter Tryz.func175, Tryz.ntmps175
  go_wp2
  go_loopw [11] (fun ix wr => ∃ i : Nat, i ≤ n ∧ ix = .int .i64 i ∧ Byt wr R (midL (Pm.unP f lead (Pm.getI a) x) x n i) ∧ Kp (· = R) w wr) (fun ix _ => n - (intOf ix).toNat)
  case atStart => exact ⟨0, Nat.zero_le _, rfl, hR, Kp.refl _ _⟩
  case round =>
    clear hR
    obtain ⟨i, hi, rfl, hB, hk⟩ := hrel
    by_cases hlt : i < n
    · have hlt' : (i : Int) < (n : Int) := by omega
      have xi := hx i
      have hAr : Byt wr A a := (hk.block A (lt_of_block HA.out) hRA).trans HA.out
      have c0 := hB.cell i (by rw [midL_len]; exact hlt)
      rw [midL_get _ _ _ _ _ hlt, if_neg (by omega)] at c0
      have HPR := midL_prev f lead (Pm.getI a) x n i hlt hl.1
      have hAR := fun m => aroundP R A _ a i lead n (wr.drew.drewN m) (show Byt (wr.drew.drewN m) R _ from hB) (show Byt (wr.drew.drewN m) A a from hAr) (midL_len _ _ _ _) ha hlt hn hl (midL_range f lead _ x n i hx) ga
      rw [HPR] at hAR
      have hu : unV f lead (Pm.getI a) x i = (x i + Pm.takenI f (Pm.prevI (Pm.getI (Pm.unP f lead (Pm.getI a) x i)) i lead) (Pm.getI a i) (Pm.prevI (Pm.getI a) i lead)) % 256 := rfl
      have p1 := Pm.prev_range (fun j => Pm.unP_getI f lead (Pm.getI a) x i j) i lead
      have p2 := ga i
      have p3 := Pm.prev_range ga i lead
      have htr := Pm.taken_range f p1 p2 p3
      have HD := fun u => HF.out.does _ _ _ u p1 p2 p3
      have HSet : Hid (∀ u : World, Byt u R (midL (Pm.unP f lead (Pm.getI a) x) x n i) → Byt (u.setCell ⟨R, i, none⟩ (.int .u8 (unV f lead (Pm.getI a) x i))) R (midL (Pm.unP f lead (Pm.getI a) x) x n (i + 1))) := fun u h => by
        rw [← midL_set f lead (Pm.getI a) x n i hlt]
        exact h.set i _
      generalize Pm.prevI (Pm.getI (Pm.unP f lead (Pm.getI a) x i)) i lead = P1 at *
      generalize Pm.getI a i = P2 at *
      generalize Pm.prevI (Pm.getI a) i lead = P3 at *
      generalize Pm.takenI f P1 P2 P3 = T at *
      generalize unV f lead (Pm.getI a) x i = V at *
      generalize x i = X at *
      have w1 : IntKind.u8.wrap T = T := by rw [IntKind.wrap_u8]; omega
      have w2 : IntKind.u8.wrap (X + T) = V := by rw [IntKind.wrap_u8, hu]
      have fz := fun j => hB.frozen j
      have lb := lt_of_block hB
      have HBB : Hid (_) := hB
      have HK : Hid (_) := hk
      clear hB hk hAr hx ga HPR hu
      go_wp2
      have hS : wr.drew.cell? ⟨R, i, none⟩ = some (.int .u8 X) := c0
      refine regionZ (by kernel_rfl) (fun w' => w'.cell? ⟨R, i, none⟩ = some (.int .u8 X)) 17 ?_
      refine anyZ_takeT (i := 0) (t := 14) (v := ?_) (T := ?_) ?ht rfl rfl (by kernel_rfl) (by kernel_rfl) (by kernel_rfl) (by kernel_rfl) (fun _ _ _ h => h) (by kernel_rfl) ?hy hS ?_
      case hy => intro w hSw; (try dsimp only at hSw); go_simp; try with_reducible rfl
      case ht => go_simp; try with_reducible rfl
      refine anyZ_takeT (i := 1) (t := 15) (v := ?_) (T := ?_) ?ht rfl rfl (by kernel_rfl) (by kernel_rfl) (by kernel_rfl) (by kernel_rfl) (fun _ _ _ h => h) (by kernel_rfl) ?hy hS ?_
      case hy => intro w hSw; (try dsimp only at hSw); go_simp; try with_reducible rfl
      case ht => go_simp; try with_reducible rfl
      refine anyZ_takeT (i := 2) (t := 16) (v := ?_) (T := ?_) ?ht rfl rfl (by kernel_rfl) (by kernel_rfl) (by kernel_rfl) (by kernel_rfl) (fun _ _ _ h => h) (by kernel_rfl) ?hy hS ?_
      case hy => intro w hSw; (try dsimp only at hSw); go_simp; try with_reducible rfl
      case ht => go_simp; try with_reducible rfl
      refine anyZ_takeT (i := 3) (t := 17) (v := ?_) (T := ?_) ?ht rfl rfl (by kernel_rfl) (by kernel_rfl) (by kernel_rfl) (by kernel_rfl) (fun _ _ _ h => h) (by kernel_rfl) ?hy hS ?_
      case hy => intro w hSw; (try dsimp only at hSw); go_simp; try with_reducible rfl
      case ht => go_simp; try with_reducible rfl
      refine anyZ_takeT (i := 4) (t := 18) (v := ?_) (T := ?_) ?ht rfl rfl (by kernel_rfl) (by kernel_rfl) (by kernel_rfl) (by kernel_rfl) (fun _ _ _ h => h) (by kernel_rfl) ?hy hS ?_
      case hy => intro w hSw; (try dsimp only at hSw); go_simp; try with_reducible rfl
      case ht => go_simp; try with_reducible rfl
      refine anyZ_takeT (i := 5) (t := 19) (v := ?_) (T := ?_) ?ht rfl rfl (by kernel_rfl) (by kernel_rfl) (by kernel_rfl) (by kernel_rfl) (fun _ _ _ h => h) (by kernel_rfl) ?hy hS ?_
      case hy => intro w hSw; (try dsimp only at hSw); go_simp; try with_reducible rfl
      case ht => go_simp; try with_reducible rfl
      refine anyZ_takeT (i := 6) (t := 20) (v := ?_) (T := ?_) ?ht rfl rfl (by kernel_rfl) (by kernel_rfl) (by kernel_rfl) (by kernel_rfl) (fun _ _ _ h => h) (by kernel_rfl) ?hy hS ?_
      case hy => intro w hSw; (try dsimp only at hSw); go_simp; try with_reducible rfl
      case ht => go_simp; try with_reducible rfl
      refine anyZ_takeT (i := 7) (t := 21) (v := ?_) (T := ?_) ?ht rfl rfl (by kernel_rfl) (by kernel_rfl) (by kernel_rfl) (by kernel_rfl) (fun _ _ _ h => h) (by kernel_rfl) ?hy hS ?_
      case hy => intro w hSw; (try dsimp only at hSw); go_simp; try with_reducible rfl
      case ht => go_simp; try with_reducible rfl
      refine anyZ_takeT (i := 8) (t := 22) (v := ?_) (T := ?_) ?ht rfl rfl (by kernel_rfl) (by kernel_rfl) (by kernel_rfl) (by kernel_rfl) (fun _ _ _ h => h) (by kernel_rfl) ?hy hS ?_
      case hy => intro w hSw; (try dsimp only at hSw); go_simp; try with_reducible rfl
      case ht => go_simp; try with_reducible rfl
      refine anyZ_one (i := 9) (by kernel_rfl) rfl (fun K hK => ?_)
      go_simp
      refine (hAR 0).mono ?_
      rintro e v1 ⟨rfl, m, hv1⟩
      have hS2 : v1.cell? ⟨R, i, none⟩ = some (.int .u8 X) := by rw [hv1]; exact c0
      have HQ : Hid (_ ∧ _) := ⟨HSet.out v1 (by rw [hv1]; exact HBB.out), (show Kp (· = R) w v1 by rw [hv1]; exact (HK.out.drew.drewN 0).drewN m).setCell (p := ⟨R, i, none⟩) (.inl rfl) (.int .u8 V)⟩
      have fz2 : v1.frozen? ⟨R, i, none⟩ = false := by rw [hv1]; exact fz i
      clear hv1
      refine hK _ _ (fun _ => hS2) ?_
      clear hK K
      refine anyZ_takeT (i := 10) (t := 24) (v := ?_) (T := ?_) ?ht rfl rfl (by kernel_rfl) (by kernel_rfl) (by kernel_rfl) (by kernel_rfl) (fun _ _ _ h => h) (by kernel_rfl) ?hy hS2 ?_
      case hy => intro w hSw; (try dsimp only at hSw); go_simp; try with_reducible rfl
      case ht => go_simp; try with_reducible rfl
      refine anyZ_takeT (i := 11) (t := 25) (v := ?_) (T := ?_) ?ht rfl rfl (by kernel_rfl) (by kernel_rfl) (by kernel_rfl) (by kernel_rfl) (fun _ _ _ h => h) (by kernel_rfl) ?hy hS2 ?_
      case hy => intro w hSw; (try dsimp only at hSw); go_simp; try with_reducible rfl
      case ht => go_simp; try with_reducible rfl
      refine anyZ_takeT (i := 12) (t := 26) (v := ?_) (T := ?_) ?ht rfl rfl (by kernel_rfl) (by kernel_rfl) (by kernel_rfl) (by kernel_rfl) (fun _ _ _ h => h) (by kernel_rfl) ?hy hS2 ?_
      case hy => intro w hSw; (try dsimp only at hSw); go_simp; try with_reducible rfl
      case ht => go_simp; try with_reducible rfl
      refine anyZ_one (i := 13) (by kernel_rfl) rfl (fun K hK => ?_)
      go_simp
      refine (HD _).mono ?_
      rintro e w' ⟨rfl, rfl⟩
      refine hK _ _ (fun _ => hS2) ?_
      clear hK K
      refine anyZ_takeT (i := 14) (t := 28) (v := ?_) (T := ?_) ?ht rfl rfl (by kernel_rfl) (by kernel_rfl) (by kernel_rfl) (by kernel_rfl) (fun _ _ _ h => h) (by kernel_rfl) ?hy hS2 ?_
      case hy => intro w hSw; (try dsimp only at hSw); go_simp; try with_reducible rfl
      case ht => go_simp; try with_reducible rfl
      refine anyZ_takeT (i := 15) (t := 29) (v := ?_) (T := ?_) ?ht rfl rfl (by kernel_rfl) (by kernel_rfl) (by kernel_rfl) (by kernel_rfl) (fun _ _ _ h => h) (by kernel_rfl) ?hy hS2 ?_
      case hy => intro w hSw; (try dsimp only at hSw); go_simp; try with_reducible rfl
      case ht => go_simp; try with_reducible rfl
      refine anyZ_takeT (i := 16) (t := 30) (v := ?_) (T := ?_) ?ht rfl rfl (by kernel_rfl) (by kernel_rfl) (by kernel_rfl) (by kernel_rfl) (fun _ _ _ h => h) (by kernel_rfl) ?hy hS2 ?_
      case hy => intro w hSw; (try dsimp only at hSw); go_simp; try with_reducible rfl
      case ht => go_simp; try with_reducible rfl
      refine anyZ_one (i := 17) (by kernel_rfl) rfl (fun K hK => ?_)
      go_simp
      refine hK _ _ (fun h => absurd rfl h) ?_
      clear hK K
      refine anyZ_done (by kernel_rfl) ?_ _
      go_wp2
      go_roundw
      case rel => exact ⟨i + 1, by omega, by go_num, HQ.out.1, HQ.out.2⟩
      case measure => simp [intOf]; omega
    · have hie : i = n := by omega
      subst hie
      rw [midL_all] at hB
      go_wp2
      go_end0
      exact ⟨rfl, hB, hk⟩
end Go.Proofs.YtmfijackgekioaaGreatDoor
