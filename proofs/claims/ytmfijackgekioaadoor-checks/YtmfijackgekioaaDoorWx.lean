import Derived.Test.YtmfijackgekioaaDoorWq
namespace Go.Proofs.YtmfijackgekioaaDoor
open Go.RowKit

set_option maxRecDepth 100000 in
set_option maxHeartbeats 400000 in
theorem passes33 (on : Bool) (w : World) :
    Calls Tryd.prog 20 #[.bool on] w fun e w' => e = .returned (.slice (some ⟨w.heap.size, 0, none⟩) (Pm.pn on) (Pm.pn on)) ∧ Below w.heap.size w w' ∧ w.heap.size < w'.heap.size ∧
      ∀ k, k < Pm.pn on → w'.cell? ⟨w.heap.size, k, none⟩ = some (.int .i64 (Pm.pq on k)) := by
  cases on
  · go_enter Tryd.func20, Tryd.ntmps20
    go_wp2
    go_ret
    refine ⟨rfl, (Below.refl _ _).alloc (Nat.le_refl _) _, by simp, ?_⟩
    intro k hk
    have h0 : k = 0 := by simp [Pm.pn] at hk; omega
    subst h0
    simp [Pm.pq]
  · go_enter Tryd.func20, Tryd.ntmps20
    go_wp2
    go_ret
    refine ⟨rfl, (Below.refl _ _).alloc (Nat.le_refl _) _, by simp, ?_⟩
    intro k hk
    simp only [Pm.pn, if_true] at hk
    match k, hk with
    | 0, _ => simp [Pm.pq]
    | 1, _ => simp [Pm.pq]
    | 2, _ => simp [Pm.pq]
    | 3, _ => simp [Pm.pq]
    | 4, _ => simp [Pm.pq]
    | 5, _ => simp [Pm.pq]
    | 6, _ => simp [Pm.pq]

set_option maxRecDepth 100000 in
set_option maxHeartbeats 1000000 in
theorem raw15 (W H : Nat) (kd dp : Int) (on : Bool) (w : World) (hW : 1 ≤ W ∧ W ≤ 5000) (hH : 1 ≤ H ∧ H ≤ 5000) (hd : 1 ≤ dp ∧ dp ≤ 16) :
    Calls Tryd.prog 12 #[.int .i64 W, .int .i64 H, .int .i64 kd, .int .i64 dp, .bool on] w
      fun e w' => e = .returned (.int .i64 (Pm.refTo W H (Pm.chan kd dp) dp on (Pm.pn on))) ∧ Below w.heap.size w w' := by
  have hch := Pm.chan_range kd dp
  have hpn : Pm.pn on ≤ 7 := by cases on <;> decide
  go_enter Tryd.func12, Tryd.ntmps12
  go_wp2_with fail
  refine (passes33 on _).mono ?_
  rintro e w1 ⟨rfl, hb1, hs1, hc1⟩
  generalize hn : Pm.pn on = n at *
  go_wp2
  go_loopw [11, 13] (fun v i wr => ∃ k : Nat, k ≤ n ∧ i = .int .i64 k ∧ v = .int .i64 (Pm.refTo W H (Pm.chan kd dp) dp on k) ∧ Below w1.heap.size w1 wr) (fun _ i _ => n - (intOf i).toNat)
  case atStart => exact ⟨0, Nat.zero_le _, rfl, rfl, Below.refl _ _⟩
  case round =>
    obtain ⟨k, hk, rfl, rfl, hbel⟩ := hrel
    by_cases hlt : k < n
    · have hcell : wr.cell? ⟨w.heap.size, k, none⟩ = some (.int .i64 (Pm.pq on k)) := (hbel.cell hs1).trans (hc1 k hlt)
      have hrt := Pm.refTo_range W H (Pm.chan kd dp) dp on hW.2 hH.2 hch hd k
      have HN : Hid (Pm.refTo W H (Pm.chan kd dp) dp on (k + 1) = Pm.refTo W H (Pm.chan kd dp) dp on k + Pm.refOne W H (Pm.chan kd dp) dp (Pm.pq on k)) := rfl
      go_wp2_with fail
      refine (points34 W H _ _ hW hH).mono ?_
      rintro e w2 ⟨ao1, c1, ao2, c2, rfl, hb2⟩
      have hb3 := hbel.trans (hb2.mono hbel.size)
      have g1 := Pm.nC_le (Pm.pq on k) (min 8 H) W
      have g2 := Pm.nR_le (Pm.pq on k) (min 8 W) H
      have hbd := Pm.ref_bounds (Pm.nC (Pm.pq on k) (min 8 H) W) (Pm.nR (Pm.pq on k) (min 8 W) H) (Pm.chan kd dp) dp (by omega) (by omega) hch hd
      obtain ⟨b1, b2, b3⟩ := hbd
      clear hbel hb2 hcell
      by_cases h0 : 0 < Pm.nC (Pm.pq on k) (min 8 H) W
      · have HO : Hid (Pm.refOne W H (Pm.chan kd dp) dp (Pm.pq on k) = (Pm.nR (Pm.pq on k) (min 8 W) H : Int) * (1 + ((Pm.nC (Pm.pq on k) (min 8 H) W : Int) * Pm.chan kd dp * dp + 7) / 8)) := by
          show _ = _; rw [Pm.refOne, if_pos h0]
        go_wp2_with (go_at_call 10; refine (chan13 _ _ _).mono ?_; rintro e w' ⟨rfl, rfl⟩)
        go_roundw
        case rel => exact ⟨k + 1, by omega, by go_num, by rw [HN.out, HO.out], hb3⟩
        case measure => simp [intOf]; omega
      · have HO : Hid (Pm.refOne W H (Pm.chan kd dp) dp (Pm.pq on k) = 0) := by show _ = _; rw [Pm.refOne, if_neg h0]
        go_wp2
        go_roundw
        case rel => exact ⟨k + 1, by omega, by go_num, by rw [HN.out, HO.out, Int.add_zero], hb3⟩
        case measure => simp [intOf]; omega
    · have hkn : k = n := by omega
      subst hkn
      go_wp2
      go_ret
      exact ⟨ret_int (by rw [hn]), hb1.trans (hbel.mono (by omega))⟩

end Go.Proofs.YtmfijackgekioaaDoor
