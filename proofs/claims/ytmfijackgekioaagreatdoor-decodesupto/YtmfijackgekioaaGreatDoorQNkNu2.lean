import Derived.Test.YtmfijackgekioaaGreatDoorQNj
import Derived.Test.YtmfijackgekioaaGreatDoorQNgNr9
import Derived.Test.YtmfijackgekioaaGreatDoorQWzWx4

/-
  A sample of a row: the document. For Decodes.
-/
namespace Go.Proofs.YtmfijackgekioaaGreatDoor
open Go.RowKit Go.Maps

theorem ints_get {w : World} {ao : Option Addr} {r : List Int} (h : Ints w ao r) (j : Nat) (hj : j < r.length) : ∃ b off, ao = some ⟨b, off, none⟩ ∧ w.cell? ⟨b, off + j, none⟩ = some (.int .i64 (Pm.getI r j)) := by
  obtain ⟨b, off, e, hc⟩ := h j hj
  refine ⟨b, off, e, ?_⟩
  rw [hc]
  unfold Pm.getI
  rw [List.getD_eq_getElem?_getD, List.getElem?_eq_getElem hj]
  rfl
theorem and_bit (X : Int) (e : Nat) (hX : 0 ≤ X ∧ X < 256) : bits .and .i64 (X / 2 ^ e) 1 = X / 2 ^ e % 2 := by
  obtain ⟨x, rfl⟩ := Int.eq_ofNat_of_zero_le hX.1
  have e' : ((x : Int) / 2 ^ e) = ((x / 2 ^ e : Nat) : Int) := by push_cast; rfl
  have hy : x / 2 ^ e < 256 := Nat.lt_of_le_of_lt (Nat.div_le_self _ _) (by omega)
  rw [e']
  generalize x / 2 ^ e = y at *
  have := (and_low ⟨y, hy⟩).1
  simp only at this
  rw [this]
  omega
theorem bits_range (r : Nat → Int) (s : Nat) : ∀ j, 0 ≤ Pm.bitsI r s j ∧ Pm.bitsI r s j < 2 ^ j
  | 0 => ⟨Int.le_refl _, by show (0 : Int) < 1; decide⟩
  | j + 1 => by
    have ih := bits_range r s j
    rw [Pm.bitsI, Int.pow_succ]
    omega
set_option maxRecDepth 100000 in
set_option maxHeartbeats 1000000 in
theorem sampleR (ao : Option Addr) (cap nr k D : Nat) (r : List Int) (w : World) (hi : Ints w ao r) (hr : r.length = nr) (gr : ∀ j, 0 ≤ Pm.getI r j ∧ Pm.getI r j < 256) (hD : D = 1 ∨ D = 2 ∨ D = 4 ∨ D = 8 ∨ D = 16)
    (hin : (D = 16 → 2 * k + 1 < nr) ∧ (D ≠ 16 → k * D / 8 < nr)) (hk : k ≤ 1000000) (hnr : nr ≤ 1000000) :
    Calls Tryz.prog 75 #[.slice ao nr cap, .int .i64 (k : Nat), .int .i64 (D : Nat)] w fun e w' => e = .returned (.int .i64 (Pm.sampI (Pm.getI r) D k)) ∧ ∃ m, w' = w.drewN m := by
  by_cases h16 : D = 16
  · have h1 := hin.1 h16
    have hv : Pm.sampI (Pm.getI r) D k = 256 * Pm.getI r (2 * k) + Pm.getI r (2 * k + 1) := by rw [Pm.sampI, if_pos h16]
    obtain ⟨b, off, rfl, c1⟩ := ints_get hi (2 * k) (by omega)
    obtain ⟨b', off', e', c2⟩ := ints_get hi (2 * k + 1) (by omega)
    cases e'
    have g1 := gr (2 * k)
    have g2 := gr (2 * k + 1)
    have HV : Hid (_) := hv
    have d16 : ((D : Int) == 16) = true := by rw [h16]; rfl
    generalize Pm.getI r (2 * k) = X at *
    generalize Pm.getI r (2 * k + 1) = Y at *
    obtain ⟨k2, hk2⟩ : ∃ k2, k2 = 2 * k := ⟨_, rfl⟩
    rw [← hk2] at c1 c2 h1
    have ek : (2 : Int) * (k : Int) = (k2 : Int) := by omega
    have hkm : (k2 : Int) < (nr : Int) := by omega
    have hkn : (k2 : Int) + 1 < (nr : Int) := by omega
    have kp0 : (0 : Int) ≤ (k2 : Int) + 1 := by omega
    have wk2 : IntKind.i64.wrap (k2 : Int) = (k2 : Int) := IntWalk.i64_in _ (by omega)
    have wk3 : IntKind.i64.wrap ((k2 : Int) + 1) = (k2 : Int) + 1 := IntWalk.i64_in _ (by omega)
    clear hk2 hv h16 gr hi hin
    go_enter Tryz.func75, Tryz.ntmps75
    go_wp2
    go_quiet (fail)
    go_wp2
    go_ret
    exact ⟨ret_int (by rw [HV.out]), _, rfl⟩
  · have hD8 : D = 1 ∨ D = 2 ∨ D = 4 ∨ D = 8 := by omega
    have h1 := hin.2 h16
    have hv := Pm.samp_bits (Pm.getI r) D k hD8
    have d16 : ((D : Int) == 16) = false := by rw [beq_eq_false_iff_ne]; omega
    obtain ⟨f, hf⟩ : ∃ f, f = k * D := ⟨_, rfl⟩
    have hfd : f % 8 + D ≤ 8 := by
      rw [hf]
      rcases hD8 with rfl | rfl | rfl | rfl <;> omega
    have hf8 : f ≤ 8000000 := by
      rw [hf]
      have : k * D ≤ 1000000 * 8 := Nat.mul_le_mul hk (by omega)
      omega
    rw [← hf] at hv h1
    have ek : (k : Int) * (D : Int) = (f : Int) := by rw [hf]; push_cast; rfl
    have wf : IntKind.i64.wrap (f : Int) = (f : Int) := IntWalk.i64_in _ (by omega)
    have HV : Hid (_) := hv
    have HI : Hid (_) := hi
    have D8 : D ≤ 8 := by omega
    clear hv hf hi hin h16 hD hD8
    go_enter Tryz.func75, Tryz.ntmps75
    go_wp2
    go_loop [8, 9] (fun v ix => ∃ j : Nat, j ≤ D ∧ ix = .int .i64 ((f + j : Nat) : Int) ∧ v = .int .i64 (Pm.bitsI (Pm.getI r) f j)) (fun _ ix => f + D - (intOf ix).toNat)
    case atStart => exact ⟨0, Nat.zero_le _, rfl, rfl⟩
    case round =>
      obtain ⟨j, hj, rfl, rfl⟩ := hrel
      have hbr := bits_range (Pm.getI r) f j
      have hp2 : (2 : Int) ^ j ≤ 256 := by
        have h2 : (2 : Nat) ^ j ≤ 2 ^ 8 := Nat.pow_le_pow_right (by omega) (by omega)
        have e : ((2 : Int) ^ j) = ((2 ^ j : Nat) : Int) := by push_cast; rfl
        rw [e]
        omega
      by_cases hlt : j < D
      · obtain ⟨b, off, hao, c1⟩ := ints_get HI.out ((f + j) / 8) (by omega)
        subst hao
        have g1 := gr ((f + j) / 8)
        have HB : Hid (Pm.bitsI (Pm.getI r) f (j + 1) = 2 * Pm.bitsI (Pm.getI r) f j + Pm.getI r ((f + j) / 8) / 2 ^ (7 - (f + j) % 8) % 2) := rfl
        have ha := and_bit (Pm.getI r ((f + j) / 8)) (7 - (f + j) % 8) g1
        generalize Pm.bitsI (Pm.getI r) f j = V at *
        generalize Pm.getI r ((f + j) / 8) = X at *
        obtain ⟨i, hi⟩ : ∃ i, i = f + j := ⟨_, rfl⟩
        obtain ⟨q, hq⟩ : ∃ q, q = (f + j) / 8 := ⟨_, rfl⟩
        obtain ⟨e, he⟩ : ∃ e, e = 7 - (f + j) % 8 := ⟨_, rfl⟩
        rw [← hq] at c1
        rw [← he] at ha HB
        have l1 : ((f + j : Nat) : Int) < (f : Int) + (D : Int) := by omega
        have eq : ((f + j : Nat) : Int) / 8 = (q : Int) := by omega
        have ee : 7 - ((f + j : Nat) : Int) % 8 = (e : Int) := by omega
        have hqn : (q : Int) < (nr : Int) := by omega
        have wq : IntKind.i64.wrap (q : Int) = (q : Int) := IntWalk.i64_in _ (by omega)
        have we : IntKind.i64.wrap (e : Int) = (e : Int) := IntWalk.i64_in _ (by omega)
        have HX : Hid (0 ≤ X / 2 ^ e % 2 ∧ X / 2 ^ e % 2 < 2) := ⟨Int.emod_nonneg _ (by decide), Int.emod_lt_of_pos _ (by decide)⟩
        have hx := HX.out
        obtain ⟨Y, hY⟩ : ∃ Y, Y = X / 2 ^ e % 2 := ⟨_, rfl⟩
        rw [← hY] at ha HB hx
        rw [← hi] at l1 eq ee ⊢
        have HII : Hid (i = f + j) := hi
        have hj8 : j ≤ 8 := by omega
        have hi9 : i ≤ 8000008 := by omega
        have hV : 0 ≤ V ∧ V ≤ 256 := by omega
        clear hi hq he hY HX hbr hp2
        go_wp2
        go_round
        case rel => exact ⟨j + 1, by omega, by rw [show f + (j + 1) = i + 1 by have := HII.out; omega]; go_num, by rw [HB.out]⟩
        case measure => simp [intOf]; have := HII.out; omega
      · have hje : j = D := by omega
        subst hje
        have l1 : ¬ ((f + j : Nat) : Int) < (f : Int) + (j : Int) := by omega
        go_wp2
        go_ret
        exact ⟨ret_int (by rw [HV.out]), 0, rfl⟩
end Go.Proofs.YtmfijackgekioaaGreatDoor

/-
  The columns and rows of a pass: the document. For Decodes.
-/
namespace Go.Proofs.YtmfijackgekioaaGreatDoor
open Go.RowKit Go.Maps

set_option maxRecDepth 100000 in
set_option maxHeartbeats 1000000 in
theorem pointsR (W H : Nat) (p : Int) (w : World) (hW : 1 ≤ W ∧ W ≤ 5000) (hH : 1 ≤ H ∧ H ≤ 5000) :
    Calls Tryz.prog 43 #[.int .i64 W, .int .i64 H, .int .i64 p] w
      fun e w' => ∃ v1 v2, e = .returned (.tuple #[v1, v2]) ∧ w'.ownsRow w.heap.size 3 1 v1 (Pm.nC p (min 8 H) W) (vals (Pm.colsOf p (min 8 H) W)) ∧ w'.ownsRow w.heap.size 3 1 v2 (Pm.nR p (min 8 W) H) (vals (Pm.linesOf p (min 8 W) H)) ∧ Below w.heap.size w w' := by
  obtain ⟨i0, hi, hz0, hz1, hz2⟩ := info_parts Tryz.info3
  generalize hB : w.heap.size = B
  go_enter Tryz.func43, Tryz.ntmps43
  go_wp2
  go_loopw [8, 10] (fun v i wr => ∃ c : Nat, c ≤ W ∧ i = .int .i64 c ∧ wr.ownsRow B 3 1 v (Pm.nC p (min 8 H) c) (vals (Pm.colsOf p (min 8 H) c)) ∧ Below B w wr) (fun _ i _ => W - (intOf i).toNat)
  case atStart => exact ⟨0, Nat.zero_le _, rfl, World.ownsRow_nil _ _ _ _, Below.refl _ _⟩
  case round =>
    obtain ⟨c, hc, rfl, hown, hbel⟩ := hrel
    have hcn := Pm.nC_le p (min 8 H) c
    by_cases hlt : c < W
    · go_wp2
      go_loop [11, 12] (fun th i => ∃ r : Nat, r ≤ min 8 H ∧ i = .int .i64 r ∧ th = .bool (Pm.thereC p c r)) (fun _ i => min 8 H - (intOf i).toNat)
      case atStart => exact ⟨0, Nat.zero_le _, rfl, rfl⟩
      case round =>
        obtain ⟨r, hr, rfl, rfl⟩ := hrel
        by_cases hlr : r < 8 ∧ r < H
        · have l1 := hlr.1
          have l2 := hlr.2
          have HT : Hid (Pm.thereC p c (r + 1) = (Pm.thereC p c r || (Pm.pass c r == p))) := rfl
          cases hth : Pm.thereC p c r
          · rw [hth] at HT
            go_wp2_with (go_at_call 76; refine (pass52 c r _ (by omega) (by omega)).mono ?_; rintro e w' ⟨rfl, rfl⟩)
            go_round
            case rel => exact ⟨r + 1, by omega, by go_num, by rw [HT.out]; rfl⟩
            case measure => simp [intOf]; omega
          · rw [hth] at HT
            go_wp2_with (go_at_call 76; refine (pass52 c r _ (by omega) (by omega)).mono ?_; rintro e w' ⟨rfl, rfl⟩)
            go_round
            case rel => exact ⟨r + 1, by omega, by go_num, by rw [HT.out]; rfl⟩
            case measure => simp [intOf]; omega
        · have HRM : Hid (r = min 8 H) := by show _ = _; omega
          have hx : 8 ≤ r ∨ (r < 8 ∧ H ≤ r) := by omega
          have HN : Hid (Pm.nC p (min 8 H) (c + 1) = Pm.nC p (min 8 H) c + if Pm.thereC p c (min 8 H) then 1 else 0) := rfl
          have HC : Hid (Pm.colsOf p (min 8 H) (c + 1) = Pm.colsOf p (min 8 H) c ++ if Pm.thereC p c (min 8 H) = true then [(c : Int)] else []) := rfl
          cases hth : Pm.thereC p c r
          · rw [← HRM.out, hth, HRM.out] at HN HC
            rcases hx with hx | ⟨hx, hy⟩
            all_goals
              go_wp2
              go_roundw
              case rel => exact ⟨c + 1, by omega, by go_num, by rw [HN.out, HC.out]; simpa using hown, hbel⟩
              case measure => simp [intOf]; omega
          · rw [← HRM.out, hth, HRM.out] at HN HC
            rcases hx with hx | ⟨hx, hy⟩
            all_goals
              go_wp2_with (at_builtin; refine wpList_append_own _ rfl _ _ 24 rfl B 3 i0 (.int .i64 0) 1 8 Tryz.underlying24 hi hz0 hz1 hz2 rfl (by decide) _ _ _ rfl (hown.alloc _) ⟨wr.heap.size, 0, none⟩ 1 1 [.int .i64 c] rfl rfl (cell_one_new _ _ _) (by intro u hu; simp at hu; subst hu; rfl) (by unfold maxLen; omega) (by omega) (by have := hbel.size; simp; omega) ?_; intro v' w2 hown' hgrow _)
              have R2 : w2.ownsRow B 3 1 v' (Pm.nC p (min 8 H) (c + 1)) (vals (Pm.colsOf p (min 8 H) (c + 1))) ∧ Below B w w2 :=
                ⟨by rw [HN.out, HC.out]; simpa [vals] using hown', (hbel.alloc (by have := hbel.size; omega) _).grown hgrow (by have := hbel.size; simp; omega) (fun b hb => (hown.lt b hb).1)⟩
              clear hown' hgrow hown hbel
              go_wp2
              go_roundw
              case rel => exact ⟨c + 1, by omega, by go_num, R2.1, R2.2⟩
              case measure => simp [intOf]; omega
    · have hcW : c = W := by omega
      subst hcW
      have HO1 : Hid (_ ∧ _) := ⟨hown, hbel⟩
      obtain ⟨ao1, c1, rfl⟩ := own_slice hown
      generalize hWM : wr = wm at *
      clear hown hbel hWM
      go_wp2
      go_loopw [9, 14] (fun v i wr => ∃ r : Nat, r ≤ H ∧ i = .int .i64 r ∧ wr.ownsRow wm.heap.size 3 1 v (Pm.nR p (min 8 c) r) (vals (Pm.linesOf p (min 8 c) r)) ∧ Below wm.heap.size wm wr) (fun _ i _ => H - (intOf i).toNat)
      case atStart => exact ⟨0, Nat.zero_le _, rfl, World.ownsRow_nil _ _ _ _, Below.refl _ _⟩
      case round =>
        obtain ⟨r, hr, rfl, hown, hbel⟩ := hrel
        have hcn2 := Pm.nR_le p (min 8 c) r
        by_cases hlt2 : r < H
        · go_wp2
          go_loop [15, 16] (fun th i => ∃ k : Nat, k ≤ min 8 c ∧ i = .int .i64 k ∧ th = .bool (Pm.thereR p r k)) (fun _ i => min 8 c - (intOf i).toNat)
          case atStart => exact ⟨0, Nat.zero_le _, rfl, rfl⟩
          case round =>
            obtain ⟨k, hk, rfl, rfl⟩ := hrel
            by_cases hlr : k < 8 ∧ k < c
            · have l1 := hlr.1
              have l2 := hlr.2
              have HT : Hid (Pm.thereR p r (k + 1) = (Pm.thereR p r k || (Pm.pass k r == p))) := rfl
              cases hth : Pm.thereR p r k
              all_goals
                rw [hth] at HT
                go_wp2_with (go_at_call 76; refine (pass52 k r _ (by omega) (by omega)).mono ?_; rintro e w' ⟨rfl, rfl⟩)
                go_round
                case rel => exact ⟨k + 1, by omega, by go_num, by rw [HT.out]; rfl⟩
                case measure => simp [intOf]; omega
            · have HRM : Hid (k = min 8 c) := by show _ = _; omega
              have hx : 8 ≤ k ∨ (k < 8 ∧ c ≤ k) := by omega
              have HN : Hid (Pm.nR p (min 8 c) (r + 1) = Pm.nR p (min 8 c) r + if Pm.thereR p r (min 8 c) then 1 else 0) := rfl
              have HC : Hid (Pm.linesOf p (min 8 c) (r + 1) = Pm.linesOf p (min 8 c) r ++ if Pm.thereR p r (min 8 c) = true then [(r : Int)] else []) := rfl
              cases hth : Pm.thereR p r k
              · rw [← HRM.out, hth, HRM.out] at HN HC
                rcases hx with hx | ⟨hx, hy⟩
                all_goals
                  go_wp2
                  go_roundw
                  case rel => exact ⟨r + 1, by omega, by go_num, by rw [HN.out, HC.out]; simpa using hown, hbel⟩
                  case measure => simp [intOf]; omega
              · rw [← HRM.out, hth, HRM.out] at HN HC
                rcases hx with hx | ⟨hx, hy⟩
                all_goals
                  go_wp2_with (at_builtin; refine wpList_append_own _ rfl _ _ 24 rfl wm.heap.size 3 i0 (.int .i64 0) 1 8 Tryz.underlying24 hi hz0 hz1 hz2 rfl (by decide) _ _ _ rfl (hown.alloc _) ⟨wr.heap.size, 0, none⟩ 1 1 [.int .i64 r] rfl rfl (cell_one_new _ _ _) (by intro u hu; simp at hu; subst hu; rfl) (by unfold maxLen; omega) (by omega) (by have := hbel.size; simp; omega) ?_; intro v' w2 hown' hgrow _)
                  have R2 : w2.ownsRow wm.heap.size 3 1 v' (Pm.nR p (min 8 c) (r + 1)) (vals (Pm.linesOf p (min 8 c) (r + 1))) ∧ Below wm.heap.size wm w2 :=
                    ⟨by rw [HN.out, HC.out]; simpa [vals] using hown', (hbel.alloc (by have := hbel.size; omega) _).grown hgrow (by have := hbel.size; simp; omega) (fun b hb => (hown.lt b hb).1)⟩
                  clear hown' hgrow hown hbel
                  go_wp2
                  go_roundw
                  case rel => exact ⟨r + 1, by omega, by go_num, R2.1, R2.2⟩
                  case measure => simp [intOf]; omega
        · have hrH : r = H := by omega
          subst hrH
          obtain ⟨ao2, c2, rfl⟩ := own_slice hown
          obtain ⟨ho1, hb1⟩ := HO1.out
          have hBm : B ≤ wm.heap.size := by have := hb1.size; omega
          have HE : Hid (_ ∧ _ ∧ _) := ⟨own_keep ho1 (fun g hg => hbel.block g (ho1.lt g hg).2), own_mono hown hBm, hb1.trans (hbel.mono hBm)⟩
          clear hown hbel ho1 hb1 HO1
          go_wp2
          go_ret2
          exact ⟨_, _, rfl, HE.out.1, HE.out.2.1, HE.out.2.2⟩

end Go.Proofs.YtmfijackgekioaaGreatDoor
