import Derived.Test.YtmfijackgekioaaGreatQEiEl4

/-
  A merge of two sorted pieces, one of which is one alone. For Deflates.
-/
namespace Go.Proofs.YtmfijackgekioaaGreat
open Go.RowKit

/-- What a merge leaves. -/
def Merged (T n a b : Nat) (f : Nat → Mb × Nat) (w w' : World) : Prop := ∃ g, RowB w' T n g ∧ Rf.Prm n g f ∧ Rf.In f g a b ∧ Rf.Srt Mb.w g a b ∧ Kp (· = T) w w'

set_option maxRecDepth 100000 in
set_option maxHeartbeats 1000000 in
theorem merge_first (kc : Nat) (hc : DoesCmp kc) (T n cap a b : Nat) (f : Nat → Mb × Nat) (w : World) (h : RowB w T n f) (hab : a + 1 < b) (hb : b ≤ n) (hn : n ≤ 1000000) (hs : Rf.Srt Mb.w f (a + 1) b) (hlo : Rf.Lo f a (a + 1) b) :
    Calls Tryz.prog 144 #[.slice (some ⟨T, 0, none⟩) n cap, .int .i64 a, .int .i64 ((a : Int) + 1), .int .i64 b, .func (.func kc) #[] #[]] w fun e w' => e = .returned (.tuple #[]) ∧ Merged T n a b f w w' := by
  have hcall := hc.call
  have e0 : ((a : Int) + 1 - (a : Int) == 1) = true := by simp; omega
  have e0' : (a : Int) + 1 - (a : Int) = 1 := by omega
  go_enter Tryz.func144, Tryz.ntmps144
  go_wp2
  go_loopw [10, 11] (fun iv jv wr => ∃ i j : Nat, a < i ∧ i ≤ j ∧ j ≤ b ∧ iv = .int .i64 i ∧ jv = .int .i64 j ∧ Hid (∀ h, a + 1 ≤ h → h < i → (f h).1.w < (f a).1.w) ∧ Hid (∀ h, j ≤ h → h < b → (f a).1.w ≤ (f h).1.w) ∧ Hid (RowB wr T n f) ∧ Kp (· = T) w wr) (fun iv jv _ => (intOf jv).toNat - (intOf iv).toNat)
  case atStart => exact ⟨a + 1, b, by omega, by omega, Nat.le_refl _, by go_num, rfl, fun h h1 h2 => by omega, fun h h1 h2 => by omega, h, Kp.refl _ _⟩
  case round =>
    clear h
    obtain ⟨i, j, hai, hij, hjb, rfl, rfl, H1, H2, HR, hk⟩ := hrel
    by_cases hlt : i < j
    · obtain ⟨c, hcm⟩ : ∃ c : Nat, c = (i + j) / 2 := ⟨_, rfl⟩
      have hc1 : i ≤ c := by omega
      have hc2 : c < j := by omega
      obtain ⟨q, hq⟩ : ∃ q : Nat, (i : Int) + (j : Int) = (q : Int) := ⟨i + j, by omega⟩
      have hq2 : (q : Int) ≤ 2000000 := by omega
      have ec : (q : Int) / 2 = (c : Int) := by omega
      have hcn : (c : Int) < (n : Int) := by omega
      have han : (a : Int) < (n : Int) := by omega
      have hmono : ∀ h, a + 1 ≤ h → h ≤ c → (f h).1.w ≤ (f c).1.w := fun h h1 h2 => by
        by_cases e : h = c
        · rw [e]; exact Int.le_refl _
        · have := hs h c h1 (by omega) (by omega)
          unfold Rf.lx at this
          omega
      have hmono2 : ∀ h, c ≤ h → h < b → (f c).1.w ≤ (f h).1.w := fun h h1 h2 => by
        by_cases e : h = c
        · rw [e]; exact Int.le_refl _
        · have := hs c h (by omega) (by omega) h2
          unfold Rf.lx at this
          omega
      have HM : Hid (_ ∧ _) := ⟨hmono, hmono2⟩
      clear hcm hmono hmono2
      by_cases hlt2 : (f c).1.w < (f a).1.w
      · have hc3 : decide (cmpI (f c).1.w (f a).1.w < 0) = true := by simp; exact (cmpI_lt _ _).2 hlt2
        have H3 : Hid (∀ h, a + 1 ≤ h → h < c + 1 → (f h).1.w < (f a).1.w) := fun h h1 h2 => by have := HM.out.1 h h1 (by omega); omega
        have hc4 : cmpI (f c).1.w (f a).1.w < 0 := (cmpI_lt _ _).2 hlt2
        have x1 := HR.out.cell (c) (by omega)
        have x2 := HR.out.cell (a) (by omega)
        have hltT := HR.out.lt
        obtain ⟨x10, x11⟩ := x1
        obtain ⟨x20, x21⟩ := x2
        have HC := fun u => hc.cmp u (f c).1 (f a).1
        have hc5 := hc4
        generalize hX : (f c).1 = X at x10 x11 HC hc5
        generalize hY : (f a).1 = Y at x20 x21 HC hc5
        have HX : Hid ((f c).1 = X ∧ (f a).1 = Y) := ⟨hX, hY⟩
        obtain ⟨xw, xa, xn, xc, xs⟩ := X
        obtain ⟨yw, ya, yn, yc, ys⟩ := Y
        simp only at x10 x11 x20 x21 HC hc5
        clear hc3 hc4
        clear hX hY
        go_wp2
        have hS : wr.drew.cell? ⟨T, (c) * 2, none⟩ = some (.int .i64 xw) ∧ wr.drew.cell? ⟨T, (c) * 2 + 1, none⟩ = some (.slice xa xn xc) ∧ wr.drew.cell? ⟨T, (a) * 2, none⟩ = some (.int .i64 yw) ∧ wr.drew.cell? ⟨T, (a) * 2 + 1, none⟩ = some (.slice ya yn yc) := ⟨x10, x11, x20, x21⟩
        refine regionZ (by kernel_rfl) (fun w' => w'.cell? ⟨T, (c) * 2, none⟩ = some (.int .i64 xw) ∧ w'.cell? ⟨T, (c) * 2 + 1, none⟩ = some (.slice xa xn xc) ∧ w'.cell? ⟨T, (a) * 2, none⟩ = some (.int .i64 yw) ∧ w'.cell? ⟨T, (a) * 2 + 1, none⟩ = some (.slice ya yn yc)) 999 ?_
        refine anyZ_take (i := 0) (v := ?_) rfl (by kernel_rfl) (by kernel_rfl) (by kernel_rfl) (by kernel_rfl) (fun _ _ _ h => h) (by kernel_rfl) ?_ hS ?_
        rotate_left
        · intro w hSw; (try dsimp only at hSw); go_simp; try with_reducible rfl
        try simp only [Act.put]
        refine anyZ_take (i := 1) (v := ?_) rfl (by kernel_rfl) (by kernel_rfl) (by kernel_rfl) (by kernel_rfl) (fun _ _ _ h => h) (by kernel_rfl) ?_ hS ?_
        rotate_left
        · intro w hSw; (try dsimp only at hSw); go_simp; try with_reducible rfl
        try simp only [Act.put]
        refine anyZ_take (i := 2) (v := ?_) rfl (by kernel_rfl) (by kernel_rfl) (by kernel_rfl) (by kernel_rfl) (fun _ _ _ h => h) (by kernel_rfl) ?_ hS ?_
        rotate_left
        · intro w hSw; (try dsimp only at hSw); go_simp; try with_reducible rfl
        try simp only [Act.put]
        refine anyZ_take (i := 3) (v := ?_) rfl (by kernel_rfl) (by kernel_rfl) (by kernel_rfl) (by kernel_rfl) (fun _ _ _ h => h) (by kernel_rfl) ?_ hS ?_
        rotate_left
        · intro w hSw; (try dsimp only at hSw); go_simp; try with_reducible rfl
        try simp only [Act.put]
        refine anyZ_take (i := 4) (v := ?_) rfl (by kernel_rfl) (by kernel_rfl) (by kernel_rfl) (by kernel_rfl) (fun _ _ _ h => h) (by kernel_rfl) ?_ hS ?_
        rotate_left
        · intro w hSw; (try dsimp only at hSw); go_simp; try with_reducible rfl
        try simp only [Act.put]
        refine anyZ_take (i := 5) (v := ?_) rfl (by kernel_rfl) (by kernel_rfl) (by kernel_rfl) (by kernel_rfl) (fun _ _ _ h => h) (by kernel_rfl) ?_ hS ?_
        rotate_left
        · intro w hSw; (try dsimp only at hSw); go_simp; try with_reducible rfl
        try simp only [Act.put]
        refine anyZ_take (i := 6) (v := ?_) rfl (by kernel_rfl) (by kernel_rfl) (by kernel_rfl) (by kernel_rfl) (fun _ _ _ h => h) (by kernel_rfl) ?_ hS ?_
        rotate_left
        · intro w hSw; (try dsimp only at hSw); go_simp; try with_reducible rfl
        try simp only [Act.put]
        refine anyZ_take (i := 7) (v := ?_) rfl (by kernel_rfl) (by kernel_rfl) (by kernel_rfl) (by kernel_rfl) (fun _ _ _ h => h) (by kernel_rfl) ?_ hS ?_
        rotate_left
        · intro w hSw; (try dsimp only at hSw); go_simp; try with_reducible rfl
        try simp only [Act.put]
        refine anyZ_take (i := 8) (v := ?_) rfl (by kernel_rfl) (by kernel_rfl) (by kernel_rfl) (by kernel_rfl) (fun _ _ _ h => h) (by kernel_rfl) ?_ hS ?_
        rotate_left
        · intro w hSw; (try dsimp only at hSw); go_simp; try with_reducible rfl
        try simp only [Act.put]
        refine anyZ_one (i := 9) (by kernel_rfl) rfl (fun K hK => ?_)
        go_simp
        refine (HC _).mono ?_
        rintro e w1 ⟨rfl, hb1⟩
        obtain ⟨bc, bf⟩ := bcell hb1
        have hS1 := hS
        rw [← bc T _ hltT, ← bc T _ hltT, ← bc T _ hltT, ← bc T _ hltT] at hS1
        have HR1 : RowB w1 T n (f) := RowB.below (w := wr.drew) (HR.out.kept rfl) hb1
        have hk1 : Kp (· = T) w w1 := hk.drew.trans (Kp.ofBelow hb1)
        have hlt1 := HR1.lt
        refine hK _ _ (fun _ => hS1) ?_
        clear hK K
        refine anyZ_one (i := 10) (by kernel_rfl) rfl (fun K hK => ?_)
        go_simp
        refine hK _ _ (fun _ => hS1) ?_
        clear hK K
        refine anyZ_done (by kernel_rfl) ?_ _
        clear bc bf hb1 hS x10 x11 x20 x21 hltT HC hS1
        go_wp2
        go_roundw
        case rel => exact ⟨c + 1, j, by omega, by omega, hjb, by go_num, rfl, (by have q := H3; rw [HX.out.2] at q; exact q), (by have q := H2; rw [HX.out.2] at q; exact q), HR1, hk1⟩
        case measure => simp [intOf]; omega
      · have H3 : Hid (∀ h, c ≤ h → h < b → (f a).1.w ≤ (f h).1.w) := fun h h1 h2 => by have := HM.out.2 h h1 h2; omega
        have hc4 : ¬ cmpI (f c).1.w (f a).1.w < 0 := fun hh => hlt2 ((cmpI_lt _ _).1 hh)
        have x1 := HR.out.cell (c) (by omega)
        have x2 := HR.out.cell (a) (by omega)
        have hltT := HR.out.lt
        obtain ⟨x10, x11⟩ := x1
        obtain ⟨x20, x21⟩ := x2
        have HC := fun u => hc.cmp u (f c).1 (f a).1
        have hc5 := hc4
        generalize hX : (f c).1 = X at x10 x11 HC hc5
        generalize hY : (f a).1 = Y at x20 x21 HC hc5
        have HX : Hid ((f c).1 = X ∧ (f a).1 = Y) := ⟨hX, hY⟩
        obtain ⟨xw, xa, xn, xc, xs⟩ := X
        obtain ⟨yw, ya, yn, yc, ys⟩ := Y
        simp only at x10 x11 x20 x21 HC hc5
        clear hc4
        clear hX hY
        go_wp2
        have hS : wr.drew.cell? ⟨T, (c) * 2, none⟩ = some (.int .i64 xw) ∧ wr.drew.cell? ⟨T, (c) * 2 + 1, none⟩ = some (.slice xa xn xc) ∧ wr.drew.cell? ⟨T, (a) * 2, none⟩ = some (.int .i64 yw) ∧ wr.drew.cell? ⟨T, (a) * 2 + 1, none⟩ = some (.slice ya yn yc) := ⟨x10, x11, x20, x21⟩
        refine regionZ (by kernel_rfl) (fun w' => w'.cell? ⟨T, (c) * 2, none⟩ = some (.int .i64 xw) ∧ w'.cell? ⟨T, (c) * 2 + 1, none⟩ = some (.slice xa xn xc) ∧ w'.cell? ⟨T, (a) * 2, none⟩ = some (.int .i64 yw) ∧ w'.cell? ⟨T, (a) * 2 + 1, none⟩ = some (.slice ya yn yc)) 999 ?_
        refine anyZ_take (i := 0) (v := ?_) rfl (by kernel_rfl) (by kernel_rfl) (by kernel_rfl) (by kernel_rfl) (fun _ _ _ h => h) (by kernel_rfl) ?_ hS ?_
        rotate_left
        · intro w hSw; (try dsimp only at hSw); go_simp; try with_reducible rfl
        try simp only [Act.put]
        refine anyZ_take (i := 1) (v := ?_) rfl (by kernel_rfl) (by kernel_rfl) (by kernel_rfl) (by kernel_rfl) (fun _ _ _ h => h) (by kernel_rfl) ?_ hS ?_
        rotate_left
        · intro w hSw; (try dsimp only at hSw); go_simp; try with_reducible rfl
        try simp only [Act.put]
        refine anyZ_take (i := 2) (v := ?_) rfl (by kernel_rfl) (by kernel_rfl) (by kernel_rfl) (by kernel_rfl) (fun _ _ _ h => h) (by kernel_rfl) ?_ hS ?_
        rotate_left
        · intro w hSw; (try dsimp only at hSw); go_simp; try with_reducible rfl
        try simp only [Act.put]
        refine anyZ_take (i := 3) (v := ?_) rfl (by kernel_rfl) (by kernel_rfl) (by kernel_rfl) (by kernel_rfl) (fun _ _ _ h => h) (by kernel_rfl) ?_ hS ?_
        rotate_left
        · intro w hSw; (try dsimp only at hSw); go_simp; try with_reducible rfl
        try simp only [Act.put]
        refine anyZ_take (i := 4) (v := ?_) rfl (by kernel_rfl) (by kernel_rfl) (by kernel_rfl) (by kernel_rfl) (fun _ _ _ h => h) (by kernel_rfl) ?_ hS ?_
        rotate_left
        · intro w hSw; (try dsimp only at hSw); go_simp; try with_reducible rfl
        try simp only [Act.put]
        refine anyZ_take (i := 5) (v := ?_) rfl (by kernel_rfl) (by kernel_rfl) (by kernel_rfl) (by kernel_rfl) (fun _ _ _ h => h) (by kernel_rfl) ?_ hS ?_
        rotate_left
        · intro w hSw; (try dsimp only at hSw); go_simp; try with_reducible rfl
        try simp only [Act.put]
        refine anyZ_take (i := 6) (v := ?_) rfl (by kernel_rfl) (by kernel_rfl) (by kernel_rfl) (by kernel_rfl) (fun _ _ _ h => h) (by kernel_rfl) ?_ hS ?_
        rotate_left
        · intro w hSw; (try dsimp only at hSw); go_simp; try with_reducible rfl
        try simp only [Act.put]
        refine anyZ_take (i := 7) (v := ?_) rfl (by kernel_rfl) (by kernel_rfl) (by kernel_rfl) (by kernel_rfl) (fun _ _ _ h => h) (by kernel_rfl) ?_ hS ?_
        rotate_left
        · intro w hSw; (try dsimp only at hSw); go_simp; try with_reducible rfl
        try simp only [Act.put]
        refine anyZ_take (i := 8) (v := ?_) rfl (by kernel_rfl) (by kernel_rfl) (by kernel_rfl) (by kernel_rfl) (fun _ _ _ h => h) (by kernel_rfl) ?_ hS ?_
        rotate_left
        · intro w hSw; (try dsimp only at hSw); go_simp; try with_reducible rfl
        try simp only [Act.put]
        refine anyZ_one (i := 9) (by kernel_rfl) rfl (fun K hK => ?_)
        go_simp
        refine (HC _).mono ?_
        rintro e w1 ⟨rfl, hb1⟩
        obtain ⟨bc, bf⟩ := bcell hb1
        have hS1 := hS
        rw [← bc T _ hltT, ← bc T _ hltT, ← bc T _ hltT, ← bc T _ hltT] at hS1
        have HR1 : RowB w1 T n (f) := RowB.below (w := wr.drew) (HR.out.kept rfl) hb1
        have hk1 : Kp (· = T) w w1 := hk.drew.trans (Kp.ofBelow hb1)
        have hlt1 := HR1.lt
        refine hK _ _ (fun _ => hS1) ?_
        clear hK K
        refine anyZ_one (i := 10) (by kernel_rfl) rfl (fun K hK => ?_)
        go_simp
        refine hK _ _ (fun _ => hS1) ?_
        clear hK K
        refine anyZ_done (by kernel_rfl) ?_ _
        clear bc bf hb1 hS x10 x11 x20 x21 hltT HC hS1
        go_wp2
        go_roundw
        case rel => exact ⟨i, c, hai, hc1, by omega, rfl, rfl, (by have q := H1; rw [HX.out.2] at q; exact q), (by have q := H3; rw [HX.out.2] at q; exact q), HR1, hk1⟩
        case measure => simp [intOf]; omega
    · have e : i = j := by omega
      subst e
      have HF : Hid (Rf.Srt Mb.w (Rf.mv f a (i - 1)) a b) := Rf.merge_one hai hjb hs hlo H1.out H2.out
      have HIN : Hid (Rf.In f (Rf.mv f a (i - 1)) a b) := Rf.mv_in f (by omega) (by omega)
      clear H1 H2
      go_wp2
      rename World => wB
      go_loopw [13] (fun kv wq => ∃ k : Nat, a ≤ k ∧ k < i ∧ kv = .int .i64 k ∧ Hid (RowB wq T n (Rf.mv f a k)) ∧ Hid (Rf.Prm n (Rf.mv f a k) f) ∧ Kp (· = T) w wq) (fun kv _ => i - (intOf kv).toNat)
      case atStart => exact ⟨a, Nat.le_refl _, hai, rfl, by rw [Rf.mv_self]; exact HR.out, by rw [Rf.mv_self]; exact Rf.Prm.refl _ _, hk⟩
      case round =>
        clear HR hk
        obtain ⟨k, hak, hki, rfl, HR, HP, hk⟩ := hrel
        have ei : (i : Int) - 1 = ((i - 1 : Nat) : Int) := by omega
        by_cases hlt3 : k < i - 1
        · have x1 := HR.out.cell k (by omega)
          have x2 := HR.out.cell (k + 1) (by omega)
          have fz := fun j => HR.out.frozen j
          have hltT := HR.out.lt
          have S1 := HR.out.swap (i := k) (j := k + 1) (by omega) (by omega) (by omega)
          rw [Rf.mv_step f hak] at S1
          have P1 : Rf.Prm n (Rf.mv f a (k + 1)) f := by
            rw [← Rf.mv_step f hak]
            exact (Rf.Prm.sw n _ (by omega) (by omega)).trans HP.out
          generalize (Rf.mv f a k k).1 = X at *
          generalize (Rf.mv f a k (k + 1)).1 = Y at *
          obtain ⟨xw, xa, xn, xc, xs⟩ := X
          obtain ⟨yw, ya, yn, yc, ys⟩ := Y
          obtain ⟨x10, x11⟩ := x1
          obtain ⟨x20, x21⟩ := x2
          simp only at x10 x11 x20 x21 S1
          have e1 : ((k : Int) + 1).toNat = k + 1 := by omega
          have K1 := hk.trans (swap_kp wr T k (k + 1) (.int .i64 yw) (.slice ya yn yc) (.int .i64 xw) (.slice xa xn xc))
          have HS : Hid (_ ∧ _ ∧ _) := ⟨S1, P1, K1⟩
          clear S1 P1 K1 HP HR hk
          go_wp2
          go_region
          go_wp2
          go_roundw
          case rel => exact ⟨k + 1, by omega, by omega, by go_num, HS.out.1.kept rfl, HS.out.2.1, HS.out.2.2.drew⟩
          case measure => simp [intOf]; omega
        · have e2 : k = i - 1 := by omega
          subst e2
          go_wp2
          (try simp only [Exit.inBlock, Exit.then])
          exact bodyPost_ret (results_none rfl _ _ _) rfl ⟨rfl, _, HR.out, HP.out, HIN.out, HF.out, hk⟩

set_option maxRecDepth 100000 in
set_option maxHeartbeats 1000000 in
theorem merge_lone (kc : Nat) (hc : DoesCmp kc) (T n cap a m : Nat) (f : Nat → Mb × Nat) (w : World) (h : RowB w T n f) (hab : a + 1 < m) (hb : m + 1 ≤ n) (hn : n ≤ 1000000) (hs : Rf.Srt Mb.w f a m) (hlo : ∀ k, a ≤ k → k < m → (f k).2 < (f m).2) :
    Calls Tryz.prog 144 #[.slice (some ⟨T, 0, none⟩) n cap, .int .i64 a, .int .i64 m, .int .i64 ((m : Int) + 1), .func (.func kc) #[] #[]] w fun e w' => e = .returned (.tuple #[]) ∧ Merged T n a (m + 1) f w w' := by
  have hcall := hc.call
  have e0 : ((m : Int) - (a : Int) == 1) = false := by simp; omega
  have e0' : ¬ (m : Int) - (a : Int) = 1 := by omega
  have e1 : ((m : Int) + 1 - (m : Int) == 1) = true := by simp; omega
  have e1' : (m : Int) + 1 - (m : Int) = 1 := by omega
  go_enter Tryz.func144, Tryz.ntmps144
  go_wp2
  go_loopw [14, 15] (fun iv jv wr => ∃ i j : Nat, a ≤ i ∧ i ≤ j ∧ j ≤ m ∧ iv = .int .i64 i ∧ jv = .int .i64 j ∧ Hid (∀ h, a ≤ h → h < i → (f h).1.w ≤ (f m).1.w) ∧ Hid (∀ h, j ≤ h → h < m → (f m).1.w < (f h).1.w) ∧ Hid (RowB wr T n f) ∧ Kp (· = T) w wr) (fun iv jv _ => (intOf jv).toNat - (intOf iv).toNat)
  case atStart => exact ⟨a, m, Nat.le_refl _, by omega, Nat.le_refl _, rfl, rfl, fun h h1 h2 => by omega, fun h h1 h2 => by omega, h, Kp.refl _ _⟩
  case round =>
    clear h
    obtain ⟨i, j, hai, hij, hjb, rfl, rfl, H1, H2, HR, hk⟩ := hrel
    by_cases hlt : i < j
    · obtain ⟨c, hcm⟩ : ∃ c : Nat, c = (i + j) / 2 := ⟨_, rfl⟩
      have hc1 : i ≤ c := by omega
      have hc2 : c < j := by omega
      obtain ⟨q, hq⟩ : ∃ q : Nat, (i : Int) + (j : Int) = (q : Int) := ⟨i + j, by omega⟩
      have hq2 : (q : Int) ≤ 2000000 := by omega
      have ec : (q : Int) / 2 = (c : Int) := by omega
      have hcn : (c : Int) < (n : Int) := by omega
      have han : (m : Int) < (n : Int) := by omega
      have hmono : ∀ h, a ≤ h → h ≤ c → (f h).1.w ≤ (f c).1.w := fun h h1 h2 => by
        by_cases e : h = c
        · rw [e]; exact Int.le_refl _
        · have := hs h c h1 (by omega) (by omega)
          unfold Rf.lx at this
          omega
      have hmono2 : ∀ h, c ≤ h → h < m → (f c).1.w ≤ (f h).1.w := fun h h1 h2 => by
        by_cases e : h = c
        · rw [e]; exact Int.le_refl _
        · have := hs c h (by omega) (by omega) h2
          unfold Rf.lx at this
          omega
      have HM : Hid (_ ∧ _) := ⟨hmono, hmono2⟩
      clear hcm hmono hmono2
      by_cases hlt2 : (f m).1.w < (f c).1.w
      · have H3 : Hid (∀ h, c ≤ h → h < m → (f m).1.w < (f h).1.w) := fun h h1 h2 => by have := HM.out.2 h h1 h2; omega
        have hc4 : cmpI (f m).1.w (f c).1.w < 0 := (cmpI_lt _ _).2 hlt2
        have x1 := HR.out.cell (m) (by omega)
        have x2 := HR.out.cell (c) (by omega)
        have hltT := HR.out.lt
        obtain ⟨x10, x11⟩ := x1
        obtain ⟨x20, x21⟩ := x2
        have HC := fun u => hc.cmp u (f m).1 (f c).1
        have hc5 := hc4
        generalize hX : (f m).1 = X at x10 x11 HC hc5
        generalize hY : (f c).1 = Y at x20 x21 HC hc5
        have HX : Hid ((f m).1 = X ∧ (f c).1 = Y) := ⟨hX, hY⟩
        obtain ⟨xw, xa, xn, xc, xs⟩ := X
        obtain ⟨yw, ya, yn, yc, ys⟩ := Y
        simp only at x10 x11 x20 x21 HC hc5
        clear hc4
        clear hX hY
        go_wp2
        have hS : wr.drew.cell? ⟨T, (m) * 2, none⟩ = some (.int .i64 xw) ∧ wr.drew.cell? ⟨T, (m) * 2 + 1, none⟩ = some (.slice xa xn xc) ∧ wr.drew.cell? ⟨T, (c) * 2, none⟩ = some (.int .i64 yw) ∧ wr.drew.cell? ⟨T, (c) * 2 + 1, none⟩ = some (.slice ya yn yc) := ⟨x10, x11, x20, x21⟩
        refine regionZ (by kernel_rfl) (fun w' => w'.cell? ⟨T, (m) * 2, none⟩ = some (.int .i64 xw) ∧ w'.cell? ⟨T, (m) * 2 + 1, none⟩ = some (.slice xa xn xc) ∧ w'.cell? ⟨T, (c) * 2, none⟩ = some (.int .i64 yw) ∧ w'.cell? ⟨T, (c) * 2 + 1, none⟩ = some (.slice ya yn yc)) 999 ?_
        refine anyZ_take (i := 0) (v := ?_) rfl (by kernel_rfl) (by kernel_rfl) (by kernel_rfl) (by kernel_rfl) (fun _ _ _ h => h) (by kernel_rfl) ?_ hS ?_
        rotate_left
        · intro w hSw; (try dsimp only at hSw); go_simp; try with_reducible rfl
        try simp only [Act.put]
        refine anyZ_take (i := 1) (v := ?_) rfl (by kernel_rfl) (by kernel_rfl) (by kernel_rfl) (by kernel_rfl) (fun _ _ _ h => h) (by kernel_rfl) ?_ hS ?_
        rotate_left
        · intro w hSw; (try dsimp only at hSw); go_simp; try with_reducible rfl
        try simp only [Act.put]
        refine anyZ_take (i := 2) (v := ?_) rfl (by kernel_rfl) (by kernel_rfl) (by kernel_rfl) (by kernel_rfl) (fun _ _ _ h => h) (by kernel_rfl) ?_ hS ?_
        rotate_left
        · intro w hSw; (try dsimp only at hSw); go_simp; try with_reducible rfl
        try simp only [Act.put]
        refine anyZ_take (i := 3) (v := ?_) rfl (by kernel_rfl) (by kernel_rfl) (by kernel_rfl) (by kernel_rfl) (fun _ _ _ h => h) (by kernel_rfl) ?_ hS ?_
        rotate_left
        · intro w hSw; (try dsimp only at hSw); go_simp; try with_reducible rfl
        try simp only [Act.put]
        refine anyZ_take (i := 4) (v := ?_) rfl (by kernel_rfl) (by kernel_rfl) (by kernel_rfl) (by kernel_rfl) (fun _ _ _ h => h) (by kernel_rfl) ?_ hS ?_
        rotate_left
        · intro w hSw; (try dsimp only at hSw); go_simp; try with_reducible rfl
        try simp only [Act.put]
        refine anyZ_take (i := 5) (v := ?_) rfl (by kernel_rfl) (by kernel_rfl) (by kernel_rfl) (by kernel_rfl) (fun _ _ _ h => h) (by kernel_rfl) ?_ hS ?_
        rotate_left
        · intro w hSw; (try dsimp only at hSw); go_simp; try with_reducible rfl
        try simp only [Act.put]
        refine anyZ_take (i := 6) (v := ?_) rfl (by kernel_rfl) (by kernel_rfl) (by kernel_rfl) (by kernel_rfl) (fun _ _ _ h => h) (by kernel_rfl) ?_ hS ?_
        rotate_left
        · intro w hSw; (try dsimp only at hSw); go_simp; try with_reducible rfl
        try simp only [Act.put]
        refine anyZ_take (i := 7) (v := ?_) rfl (by kernel_rfl) (by kernel_rfl) (by kernel_rfl) (by kernel_rfl) (fun _ _ _ h => h) (by kernel_rfl) ?_ hS ?_
        rotate_left
        · intro w hSw; (try dsimp only at hSw); go_simp; try with_reducible rfl
        try simp only [Act.put]
        refine anyZ_take (i := 8) (v := ?_) rfl (by kernel_rfl) (by kernel_rfl) (by kernel_rfl) (by kernel_rfl) (fun _ _ _ h => h) (by kernel_rfl) ?_ hS ?_
        rotate_left
        · intro w hSw; (try dsimp only at hSw); go_simp; try with_reducible rfl
        try simp only [Act.put]
        refine anyZ_one (i := 9) (by kernel_rfl) rfl (fun K hK => ?_)
        go_simp
        refine (HC _).mono ?_
        rintro e w1 ⟨rfl, hb1⟩
        obtain ⟨bc, bf⟩ := bcell hb1
        have hS1 := hS
        rw [← bc T _ hltT, ← bc T _ hltT, ← bc T _ hltT, ← bc T _ hltT] at hS1
        have HR1 : RowB w1 T n (f) := RowB.below (w := wr.drew) (HR.out.kept rfl) hb1
        have hk1 : Kp (· = T) w w1 := hk.drew.trans (Kp.ofBelow hb1)
        have hlt1 := HR1.lt
        refine hK _ _ (fun _ => hS1) ?_
        clear hK K
        refine anyZ_one (i := 10) (by kernel_rfl) rfl (fun K hK => ?_)
        go_simp
        refine hK _ _ (fun _ => hS1) ?_
        clear hK K
        refine anyZ_one (i := 11) (by kernel_rfl) rfl (fun K hK => ?_)
        go_simp
        refine hK _ _ (fun _ => hS1) ?_
        clear hK K
        refine anyZ_done (by kernel_rfl) ?_ _
        clear bc bf hb1 hS x10 x11 x20 x21 hltT HC hS1
        go_wp2
        go_roundw
        case rel => exact ⟨i, c, hai, hc1, by omega, rfl, rfl, (by have q := H1; rw [HX.out.1] at q; exact q), (by have q := H3; rw [HX.out.1] at q; exact q), HR1, hk1⟩
        case measure => simp [intOf]; omega
      · have H3 : Hid (∀ h, a ≤ h → h < c + 1 → (f h).1.w ≤ (f m).1.w) := fun h h1 h2 => by have := HM.out.1 h h1 (by omega); omega
        have hc4 : ¬ cmpI (f m).1.w (f c).1.w < 0 := fun hh => hlt2 ((cmpI_lt _ _).1 hh)
        have x1 := HR.out.cell (m) (by omega)
        have x2 := HR.out.cell (c) (by omega)
        have hltT := HR.out.lt
        obtain ⟨x10, x11⟩ := x1
        obtain ⟨x20, x21⟩ := x2
        have HC := fun u => hc.cmp u (f m).1 (f c).1
        have hc5 := hc4
        generalize hX : (f m).1 = X at x10 x11 HC hc5
        generalize hY : (f c).1 = Y at x20 x21 HC hc5
        have HX : Hid ((f m).1 = X ∧ (f c).1 = Y) := ⟨hX, hY⟩
        obtain ⟨xw, xa, xn, xc, xs⟩ := X
        obtain ⟨yw, ya, yn, yc, ys⟩ := Y
        simp only at x10 x11 x20 x21 HC hc5
        clear hc4
        have hc6 : decide (cmpI xw yw < 0) = false := by simpa using hc5
        have hc7 : (0 : Int) ≤ cmpI xw yw := by omega
        clear hX hY
        go_wp2
        have hS : wr.drew.cell? ⟨T, (m) * 2, none⟩ = some (.int .i64 xw) ∧ wr.drew.cell? ⟨T, (m) * 2 + 1, none⟩ = some (.slice xa xn xc) ∧ wr.drew.cell? ⟨T, (c) * 2, none⟩ = some (.int .i64 yw) ∧ wr.drew.cell? ⟨T, (c) * 2 + 1, none⟩ = some (.slice ya yn yc) := ⟨x10, x11, x20, x21⟩
        refine regionZ (by kernel_rfl) (fun w' => w'.cell? ⟨T, (m) * 2, none⟩ = some (.int .i64 xw) ∧ w'.cell? ⟨T, (m) * 2 + 1, none⟩ = some (.slice xa xn xc) ∧ w'.cell? ⟨T, (c) * 2, none⟩ = some (.int .i64 yw) ∧ w'.cell? ⟨T, (c) * 2 + 1, none⟩ = some (.slice ya yn yc)) 999 ?_
        refine anyZ_take (i := 0) (v := ?_) rfl (by kernel_rfl) (by kernel_rfl) (by kernel_rfl) (by kernel_rfl) (fun _ _ _ h => h) (by kernel_rfl) ?_ hS ?_
        rotate_left
        · intro w hSw; (try dsimp only at hSw); go_simp; try with_reducible rfl
        try simp only [Act.put]
        refine anyZ_take (i := 1) (v := ?_) rfl (by kernel_rfl) (by kernel_rfl) (by kernel_rfl) (by kernel_rfl) (fun _ _ _ h => h) (by kernel_rfl) ?_ hS ?_
        rotate_left
        · intro w hSw; (try dsimp only at hSw); go_simp; try with_reducible rfl
        try simp only [Act.put]
        refine anyZ_take (i := 2) (v := ?_) rfl (by kernel_rfl) (by kernel_rfl) (by kernel_rfl) (by kernel_rfl) (fun _ _ _ h => h) (by kernel_rfl) ?_ hS ?_
        rotate_left
        · intro w hSw; (try dsimp only at hSw); go_simp; try with_reducible rfl
        try simp only [Act.put]
        refine anyZ_take (i := 3) (v := ?_) rfl (by kernel_rfl) (by kernel_rfl) (by kernel_rfl) (by kernel_rfl) (fun _ _ _ h => h) (by kernel_rfl) ?_ hS ?_
        rotate_left
        · intro w hSw; (try dsimp only at hSw); go_simp; try with_reducible rfl
        try simp only [Act.put]
        refine anyZ_take (i := 4) (v := ?_) rfl (by kernel_rfl) (by kernel_rfl) (by kernel_rfl) (by kernel_rfl) (fun _ _ _ h => h) (by kernel_rfl) ?_ hS ?_
        rotate_left
        · intro w hSw; (try dsimp only at hSw); go_simp; try with_reducible rfl
        try simp only [Act.put]
        refine anyZ_take (i := 5) (v := ?_) rfl (by kernel_rfl) (by kernel_rfl) (by kernel_rfl) (by kernel_rfl) (fun _ _ _ h => h) (by kernel_rfl) ?_ hS ?_
        rotate_left
        · intro w hSw; (try dsimp only at hSw); go_simp; try with_reducible rfl
        try simp only [Act.put]
        refine anyZ_take (i := 6) (v := ?_) rfl (by kernel_rfl) (by kernel_rfl) (by kernel_rfl) (by kernel_rfl) (fun _ _ _ h => h) (by kernel_rfl) ?_ hS ?_
        rotate_left
        · intro w hSw; (try dsimp only at hSw); go_simp; try with_reducible rfl
        try simp only [Act.put]
        refine anyZ_take (i := 7) (v := ?_) rfl (by kernel_rfl) (by kernel_rfl) (by kernel_rfl) (by kernel_rfl) (fun _ _ _ h => h) (by kernel_rfl) ?_ hS ?_
        rotate_left
        · intro w hSw; (try dsimp only at hSw); go_simp; try with_reducible rfl
        try simp only [Act.put]
        refine anyZ_take (i := 8) (v := ?_) rfl (by kernel_rfl) (by kernel_rfl) (by kernel_rfl) (by kernel_rfl) (fun _ _ _ h => h) (by kernel_rfl) ?_ hS ?_
        rotate_left
        · intro w hSw; (try dsimp only at hSw); go_simp; try with_reducible rfl
        try simp only [Act.put]
        refine anyZ_one (i := 9) (by kernel_rfl) rfl (fun K hK => ?_)
        go_simp
        refine (HC _).mono ?_
        rintro e w1 ⟨rfl, hb1⟩
        obtain ⟨bc, bf⟩ := bcell hb1
        have hS1 := hS
        rw [← bc T _ hltT, ← bc T _ hltT, ← bc T _ hltT, ← bc T _ hltT] at hS1
        have HR1 : RowB w1 T n (f) := RowB.below (w := wr.drew) (HR.out.kept rfl) hb1
        have hk1 : Kp (· = T) w w1 := hk.drew.trans (Kp.ofBelow hb1)
        have hlt1 := HR1.lt
        refine hK _ _ (fun _ => hS1) ?_
        clear hK K
        refine anyZ_one (i := 10) (by kernel_rfl) rfl (fun K hK => ?_)
        go_simp
        refine hK _ _ (fun _ => hS1) ?_
        clear hK K
        refine anyZ_one (i := 11) (by kernel_rfl) rfl (fun K hK => ?_)
        go_simp
        refine hK _ _ (fun _ => hS1) ?_
        clear hK K
        refine anyZ_done (by kernel_rfl) ?_ _
        clear bc bf hb1 hS x10 x11 x20 x21 hltT HC hS1
        go_wp2
        go_roundw
        case rel => exact ⟨c + 1, j, by omega, by omega, hjb, by go_num, rfl, (by have q := H3; rw [HX.out.1] at q; exact q), (by have q := H2; rw [HX.out.1] at q; exact q), HR1, hk1⟩
        case measure => simp [intOf]; omega
    · have e : i = j := by omega
      subst e
      have HF : Hid (Rf.Srt Mb.w (Rf.ins f i m) a (m + 1)) := Rf.merge_last hai hjb hs hlo H1.out H2.out
      have HIN : Hid (Rf.In f (Rf.ins f i m) a (m + 1)) := Rf.ins_in f hai hjb (Nat.lt_succ_self _)
      clear H1 H2
      go_wp2
      rename World => wB
      go_loopw [17] (fun kv wq => ∃ k : Nat, i ≤ k ∧ k ≤ m ∧ kv = .int .i64 k ∧ Hid (RowB wq T n (Rf.ins f k m)) ∧ Hid (Rf.Prm n (Rf.ins f k m) f) ∧ Kp (· = T) w wq) (fun kv _ => (intOf kv).toNat)
      case atStart => exact ⟨m, hjb, Nat.le_refl _, rfl, by rw [Rf.ins_self]; exact HR.out, by rw [Rf.ins_self]; exact Rf.Prm.refl _ _, hk⟩
      case round =>
        clear HR hk
        obtain ⟨k, hak, hki, rfl, HR, HP, hk⟩ := hrel
        by_cases hlt3 : i < k
        · have x1 := HR.out.cell k (by omega)
          have x2 := HR.out.cell (k - 1) (by omega)
          have fz := fun j => HR.out.frozen j
          have hltT := HR.out.lt
          have S1 := HR.out.swap (i := k) (j := k - 1) (by omega) (by omega) (by omega)
          rw [Rf.ins_step f (by omega) hki] at S1
          have P1 : Rf.Prm n (Rf.ins f (k - 1) m) f := by
            rw [← Rf.ins_step f (by omega) hki]
            exact (Rf.Prm.sw n _ (by omega) (by omega)).trans HP.out
          generalize (Rf.ins f k m k).1 = X at *
          generalize (Rf.ins f k m (k - 1)).1 = Y at *
          obtain ⟨xw, xa, xn, xc, xs⟩ := X
          obtain ⟨yw, ya, yn, yc, ys⟩ := Y
          obtain ⟨x10, x11⟩ := x1
          obtain ⟨x20, x21⟩ := x2
          simp only at x10 x11 x20 x21 S1
          have ek : (k : Int) - 1 = ((k - 1 : Nat) : Int) := by omega
          have hwp : IntKind.i64.wrap ((k : Int) - 1) = ((k - 1 : Nat) : Int) := by rw [IntWalk.i64_in _ (by omega)]; omega
          have hkn : ((k - 1 : Nat) : Int) < (n : Int) := by omega
          have K1 := hk.trans (swap_kp wr T k (k - 1) (.int .i64 yw) (.slice ya yn yc) (.int .i64 xw) (.slice xa xn xc))
          have HS : Hid (_ ∧ _ ∧ _) := ⟨S1, P1, K1⟩
          clear S1 P1 K1 HP HR hk
          go_wp2
          go_region
          go_wp2
          go_roundw
          case rel => exact ⟨k - 1, by omega, by omega, by go_num, HS.out.1.kept rfl, HS.out.2.1, HS.out.2.2.drew⟩
          case measure => simp [intOf]; omega
        · have e2 : k = i := by omega
          subst e2
          go_wp2
          (try simp only [Exit.inBlock, Exit.then])
          exact bodyPost_ret (results_none rfl _ _ _) rfl ⟨rfl, _, HR.out, HP.out, HIN.out, HF.out, hk⟩
end Go.Proofs.YtmfijackgekioaaGreat
