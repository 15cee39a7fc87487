import Derived.Test.YtmfijackgekioaaDoorWk
namespace Go.Proofs.YtmfijackgekioaaDoor
open Go.RowKit

theorem Tryd.info3 : (Tryd.prog.info? 3).map (fun i => (i.zero, i.size, i.bytes)) = some (some (.int .i64 0), 1, 8) := by kernel_rfl

theorem own_slice {w : World} {base e n : Nat} {v : Value} {xs : List Value} (h : w.ownsRow base e 1 v n xs) :
    ∃ ao cap, v = .slice ao n cap := by
  rcases h.2 with ⟨rfl, rfl⟩ | ⟨g, cap, cur, rfl, hb, hg, hnc, hcm, hcs, htake⟩
  · exact ⟨_, _, rfl⟩
  · exact ⟨_, _, rfl⟩

set_option maxRecDepth 100000 in
set_option maxHeartbeats 1000000 in
theorem points34 (W H : Nat) (p : Int) (w : World) (hW : 1 ≤ W ∧ W ≤ 5000) (hH : 1 ≤ H ∧ H ≤ 5000) :
    Calls Tryd.prog 21 #[.int .i64 W, .int .i64 H, .int .i64 p] w
      fun e w' => ∃ ao1 c1 ao2 c2, e = .returned (.tuple #[.slice ao1 (Pm.nC p (min 8 H) W) c1, .slice ao2 (Pm.nR p (min 8 W) H) c2]) ∧ Below w.heap.size w w' := by
  obtain ⟨i0, hi, hz0, hz1, hz2⟩ := info_parts Tryd.info3
  generalize hB : w.heap.size = B
  go_enter Tryd.func21, Tryd.ntmps21
  go_wp2
  go_loopw [8, 10] (fun v i wr => ∃ c : Nat, c ≤ W ∧ i = .int .i64 c ∧ (∃ xs, wr.ownsRow B 3 1 v (Pm.nC p (min 8 H) c) xs) ∧ Below B w wr) (fun _ i _ => W - (intOf i).toNat)
  case atStart => exact ⟨0, Nat.zero_le _, rfl, ⟨[], World.ownsRow_nil _ _ _ _⟩, Below.refl _ _⟩
  case round =>
    obtain ⟨c, hc, rfl, ⟨xs, hown⟩, hbel⟩ := hrel
    have hcn := Pm.nC_le p (min 8 H) c
    by_cases hlt : c < W
    · go_wp2
      go_loop [11, 12] (fun th i => ∃ r : Nat, r ≤ min 8 H ∧ i = .int .i64 r ∧ th = .bool (Pm.thereC p c r)) (fun _ i => min 8 H - (intOf i).toNat)
      case atStart => exact ⟨0, Nat.zero_le _, rfl, rfl⟩
      case round =>
        obtain ⟨r, hr, rfl, rfl⟩ := hrel
        by_cases hlr : r < 8 ∧ r < H
        · have l1 := hlr.1
          have l2 := hlr.2
          have HT : Hid (Pm.thereC p c (r + 1) = (Pm.thereC p c r || (Pm.pass c r == p))) := rfl
          cases hth : Pm.thereC p c r
          · rw [hth] at HT
            go_wp2_with (go_at_call 27; refine (pass52 c r _ (by omega) (by omega)).mono ?_; rintro e w' ⟨rfl, rfl⟩)
            go_round
            case rel => exact ⟨r + 1, by omega, by go_num, by rw [HT.out]; rfl⟩
            case measure => simp [intOf]; omega
          · rw [hth] at HT
            go_wp2_with (go_at_call 27; refine (pass52 c r _ (by omega) (by omega)).mono ?_; rintro e w' ⟨rfl, rfl⟩)
            go_round
            case rel => exact ⟨r + 1, by omega, by go_num, by rw [HT.out]; rfl⟩
            case measure => simp [intOf]; omega
        · have HRM : Hid (r = min 8 H) := by show _ = _; omega
          have hx : 8 ≤ r ∨ (r < 8 ∧ H ≤ r) := by omega
          have HN : Hid (Pm.nC p (min 8 H) (c + 1) = Pm.nC p (min 8 H) c + if Pm.thereC p c (min 8 H) then 1 else 0) := rfl
          cases hth : Pm.thereC p c r
          · rw [← HRM.out, hth, HRM.out] at HN
            rcases hx with hx | ⟨hx, hy⟩
            all_goals
              go_wp2
              go_roundw
              case rel => exact ⟨c + 1, by omega, by go_num, ⟨xs, by rw [HN.out]; exact hown⟩, hbel⟩
              case measure => simp [intOf]; omega
          · rw [← HRM.out, hth, HRM.out] at HN
            rcases hx with hx | ⟨hx, hy⟩
            all_goals
              go_wp2_with (at_builtin; refine wpList_append_own _ rfl _ _ 22 rfl B 3 i0 (.int .i64 0) 1 8 Tryd.underlying22 hi hz0 hz1 hz2 rfl (by decide) _ _ _ rfl (hown.alloc _) ⟨wr.heap.size, 0, none⟩ 1 1 [.int .i64 c] rfl rfl (cell_one_new _ _ _) (by intro u hu; simp at hu; subst hu; rfl) (by unfold maxLen; omega) (by omega) (by have := hbel.size; simp; omega) ?_; intro v' w2 hown' hgrow _)
              have R2 : (∃ xs, w2.ownsRow B 3 1 v' (Pm.nC p (min 8 H) (c + 1)) xs) ∧ Below B w w2 :=
                ⟨⟨_, by rw [HN.out]; exact hown'⟩, (hbel.alloc (by have := hbel.size; omega) _).grown hgrow (by have := hbel.size; simp; omega) (fun b hb => (hown.lt b hb).1)⟩
              clear hown' hgrow hown hbel
              go_wp2
              go_roundw
              case rel => exact ⟨c + 1, by omega, by go_num, R2.1, R2.2⟩
              case measure => simp [intOf]; omega
    · have hcW : c = W := by omega
      subst hcW
      obtain ⟨ao1, c1, rfl⟩ := own_slice hown
      clear hown
      go_wp2
      go_loopw [9, 14] (fun v i wr => ∃ r : Nat, r ≤ H ∧ i = .int .i64 r ∧ (∃ xs, wr.ownsRow B 3 1 v (Pm.nR p (min 8 c) r) xs) ∧ Below B w wr) (fun _ i _ => H - (intOf i).toNat)
      case atStart => exact ⟨0, Nat.zero_le _, rfl, ⟨[], World.ownsRow_nil _ _ _ _⟩, hbel⟩
      case round =>
        clear hbel
        obtain ⟨r, hr, rfl, ⟨ys, hown⟩, hbel⟩ := hrel
        have hcn2 := Pm.nR_le p (min 8 c) r
        by_cases hlt2 : r < H
        · go_wp2
          go_loop [15, 16] (fun th i => ∃ k : Nat, k ≤ min 8 c ∧ i = .int .i64 k ∧ th = .bool (Pm.thereR p r k)) (fun _ i => min 8 c - (intOf i).toNat)
          case atStart => exact ⟨0, Nat.zero_le _, rfl, rfl⟩
          case round =>
            obtain ⟨k, hk, rfl, rfl⟩ := hrel
            by_cases hlr : k < 8 ∧ k < c
            · have l1 := hlr.1
              have l2 := hlr.2
              have HT : Hid (Pm.thereR p r (k + 1) = (Pm.thereR p r k || (Pm.pass k r == p))) := rfl
              cases hth : Pm.thereR p r k
              all_goals
                rw [hth] at HT
                go_wp2_with (go_at_call 27; refine (pass52 k r _ (by omega) (by omega)).mono ?_; rintro e w' ⟨rfl, rfl⟩)
                go_round
                case rel => exact ⟨k + 1, by omega, by go_num, by rw [HT.out]; rfl⟩
                case measure => simp [intOf]; omega
            · have HRM : Hid (k = min 8 c) := by show _ = _; omega
              have hx : 8 ≤ k ∨ (k < 8 ∧ c ≤ k) := by omega
              have HN : Hid (Pm.nR p (min 8 c) (r + 1) = Pm.nR p (min 8 c) r + if Pm.thereR p r (min 8 c) then 1 else 0) := rfl
              cases hth : Pm.thereR p r k
              · rw [← HRM.out, hth, HRM.out] at HN
                rcases hx with hx | ⟨hx, hy⟩
                all_goals
                  go_wp2
                  go_roundw
                  case rel => exact ⟨r + 1, by omega, by go_num, ⟨ys, by rw [HN.out]; exact hown⟩, hbel⟩
                  case measure => simp [intOf]; omega
              · rw [← HRM.out, hth, HRM.out] at HN
                rcases hx with hx | ⟨hx, hy⟩
                all_goals
                  go_wp2_with (at_builtin; refine wpList_append_own _ rfl _ _ 22 rfl B 3 i0 (.int .i64 0) 1 8 Tryd.underlying22 hi hz0 hz1 hz2 rfl (by decide) _ _ _ rfl (hown.alloc _) ⟨wr.heap.size, 0, none⟩ 1 1 [.int .i64 r] rfl rfl (cell_one_new _ _ _) (by intro u hu; simp at hu; subst hu; rfl) (by unfold maxLen; omega) (by omega) (by have := hbel.size; simp; omega) ?_; intro v' w2 hown' hgrow _)
                  have R2 : (∃ xs, w2.ownsRow B 3 1 v' (Pm.nR p (min 8 c) (r + 1)) xs) ∧ Below B w w2 :=
                    ⟨⟨_, by rw [HN.out]; exact hown'⟩, (hbel.alloc (by have := hbel.size; omega) _).grown hgrow (by have := hbel.size; simp; omega) (fun b hb => (hown.lt b hb).1)⟩
                  clear hown' hgrow hown hbel
                  go_wp2
                  go_roundw
                  case rel => exact ⟨r + 1, by omega, by go_num, R2.1, R2.2⟩
                  case measure => simp [intOf]; omega
        · have hrH : r = H := by omega
          subst hrH
          obtain ⟨ao2, c2, rfl⟩ := own_slice hown
          go_wp2
          go_ret2
          exact ⟨ao1, c1, ao2, c2, rfl, hbel⟩

end Go.Proofs.YtmfijackgekioaaDoor
