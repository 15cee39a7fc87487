import Derived.Test.YtmfijackgekioaaDoorWr
namespace Go.Proofs.YtmfijackgekioaaDoor
open Go.RowKit

theorem tab_facts {wd ht : Int} (b : Int) (hw : 1 ≤ wd ∧ wd ≤ 5000) (hh : 1 ≤ ht ∧ ht ≤ 5000) (k : Nat) (hk : k < 7) :
    ∃ c0 r0 cs rs : Int, Pm.Rnd wd ht b k c0 r0 cs rs ∧ ∀ w : World, (Instr.index 46 (.agg tab42) (.int .i64 (k : Int))).run Tryd.prog w = .ok (row6 c0 r0 cs rs) w := by
  match k, hk with
  | 0, _ => exact ⟨_, _, _, _, Pm.rnd0 b hw hh, tab_at0⟩
  | 1, _ => exact ⟨_, _, _, _, Pm.rnd1 b hw hh, tab_at1⟩
  | 2, _ => exact ⟨_, _, _, _, Pm.rnd2 b hw hh, tab_at2⟩
  | 3, _ => exact ⟨_, _, _, _, Pm.rnd3 b hw hh, tab_at3⟩
  | 4, _ => exact ⟨_, _, _, _, Pm.rnd4 b hw hh, tab_at4⟩
  | 5, _ => exact ⟨_, _, _, _, Pm.rnd5 b hw hh, tab_at5⟩
  | 6, _ => exact ⟨_, _, _, _, Pm.rnd6 b hw hh, tab_at6⟩

theorem rawTo_range {wd ht : Int} (b : Int) (hw : 1 ≤ wd ∧ wd ≤ 5000) (hh : 1 ≤ ht ∧ ht ≤ 5000) (hb : 0 ≤ b ∧ b ≤ 64) (k : Nat) (hk : k ≤ 7) :
    0 ≤ Pm.rawTo wd ht b k ∧ Pm.rawTo wd ht b k ≤ 200010000 * k := by
  induction k with
  | zero => simp [Pm.rawTo]
  | succ k ih =>
    obtain ⟨c0, r0, cs, rs, R, _⟩ := tab_facts b hw hh k (by omega)
    have h1 := Pm.one_range wd ht b c0 r0 cs rs R.bc R.br hb
    have h2 := ih (by omega)
    rw [R.next]
    omega

theorem steps_cnt (s t e : Int) (w : World) (hs : 0 ≤ s ∧ s ≤ 8) (ht : 1 ≤ t ∧ t ≤ 8) (he : 0 ≤ e ∧ e ≤ 5000) (h : 0 ≤ e - s + t - 1) :
    Calls Tryd.prog 28 #[.int .i64 s, .int .i64 t, .int .i64 e] w fun x w' => x = .returned (.int .i64 (Pm.cnt s t e)) ∧ w' = w := steps71 s t e w hs ht he h

theorem info_tab : (Tryd.prog.info? 46).map (·.size) = some tab42.size := by kernel_rfl

set_option maxRecDepth 100000 in
set_option maxHeartbeats 1000000 in
theorem each_seven (wd ht kd dp : Int) (pv sv : Value) (B : Nat) (bits : Int) (w : World) (tt : TypeId) (fr : Nat × Nat)
    (hT : w.heap[0]? = some (.cells tab42 tt fr))
    (hb : w.heap[B]? = some (.cells #[.int .i64 wd, .int .i64 ht, .int .i64 kd, .int .i64 dp, .bool true, pv, sv] 24 (0, 0))) (hs : w.heap[B + 1]? = some (.cells #[.int .i64 0] 3 (0, 0)))
    (hwd : 1 ≤ wd ∧ wd ≤ 5000) (hht : 1 ≤ ht ∧ ht ≤ 5000) (hch : Pm.chan kd dp ≠ 0) (hbt : bits = Pm.chan kd dp * dp) :
    Calls Tryd.prog 22 #[img wd ht kd dp true pv sv, .func (.func 23) #[] #[.pointer (some ⟨B + 1, 0, none⟩), .pointer (some ⟨B, 0, none⟩)]] w
      fun e w' => e = .returned (.tuple #[]) ∧ w'.heap[B + 1]? = some (.cells #[.int .i64 (Pm.rawTo wd ht bits 7)] 3 (0, 0)) ∧ Kp (· = B + 1) w w' := by
  have HT : Hid (w.heap[0]? = some (.cells tab42 tt fr)) := hT
  clear hT
  have hbits : 0 ≤ bits ∧ bits ≤ 64 := by rw [hbt]; exact Pm.pb_range kd dp hch
  have lb := lt_of_block hb
  have ls := lt_of_block hs
  go_enter Tryd.func22, Tryd.ntmps22
  go_wp2_with (refine wpList_load_row rfl 46 _ rfl 0 rfl tt tab42 fr _ (blk_old HT.out _) Tryd.underlying46 rfl info_tab ?_)
  go_loopw [17] (fun i wr => ∃ k : Nat, k ≤ 7 ∧ i = .int .i64 k ∧ wr.heap[B + 1]? = some (.cells #[.int .i64 (Pm.rawTo wd ht bits k)] 3 (0, 0)) ∧ Kp (· = B + 1) (w.alloc (.cells #[.int .i64 wd, .int .i64 ht, .int .i64 kd, .int .i64 dp, .bool true, pv, sv] 24)) wr) (fun i _ => 7 - (intOf i).toNat)
  case atStart => exact ⟨0, Nat.zero_le _, rfl, blk_old hs _, Kp.refl _ _⟩
  case round =>
    obtain ⟨k, hk, rfl, hsz, hkp⟩ := hrel
    by_cases hlt : k < 7
    · obtain ⟨c0, r0, cs, rs, R, hidx⟩ := tab_facts bits hwd hht k hlt
      have hsr := rawTo_range bits hwd hht hbits k hk
      have hsz' := hkp.size
      rw [World.size_alloc] at hsz'
      have hlt2 : w.heap.size < wr.heap.size := by omega
      have hlt3 : B < wr.heap.size := by omega
      have hlt4 : B + 1 < wr.heap.size := by omega
      have m0 : wr.cell? ⟨w.heap.size, 0, none⟩ = some (.int .i64 wd) := (hkp.cell (by simp) (by simp; omega)).trans (by simp)
      have m1 : wr.cell? ⟨w.heap.size, 1, none⟩ = some (.int .i64 ht) := (hkp.cell (by simp) (by simp; omega)).trans (by simp)
      have hbr : wr.heap[B]? = some (.cells #[.int .i64 wd, .int .i64 ht, .int .i64 kd, .int .i64 dp, .bool true, pv, sv] 24 (0, 0)) := (hkp.block B (by simp; omega) (by omega)).trans (blk_old hb _)
      have HN : Hid (Pm.rawTo wd ht bits (k + 1) = Pm.rawTo wd ht bits k + Pm.one wd ht bits c0 r0 cs rs) := R.next
      have p1 := R.pc
      have p2 := R.pr
      have b1 := R.bc
      have b2 := R.br
      have ho := Pm.one_range wd ht bits c0 r0 cs rs R.bc R.br hbits
      go_wp2_with fail
      refine (steps_cnt c0 cs wd _ R.hc0 R.hcs (by omega) R.pc).mono ?_
      rintro e w' ⟨rfl, rfl⟩
      go_wp2_with fail
      refine (steps_cnt r0 rs ht _ R.hr0 R.hrs (by omega) R.pr).mono ?_
      rintro e w' ⟨rfl, rfl⟩
      clear p1 p2
      by_cases d1 : 0 < Pm.cnt c0 cs wd
      · by_cases d2 : 0 < Pm.cnt r0 rs ht
        · have HO : Hid (Pm.one wd ht bits c0 r0 cs rs = Pm.ad (Pm.cnt c0 cs wd) (Pm.cnt r0 rs ht) bits) := by show _ = _; rw [Pm.one, if_pos ⟨d1, d2⟩]
          go_wp2_with fail
          refine (cl50 wd ht kd dp true pv sv c0 r0 cs rs (Pm.cnt c0 cs wd) (Pm.cnt r0 rs ht) B bits (Pm.rawTo wd ht bits k) _ (blk_old hbr _) (blk_old hsz _) R.bc R.br hch hbt (by omega)).mono ?_
          rintro e w1 ⟨rfl, h1, h2⟩
          have R2 : w1.heap[B + 1]? = some (.cells #[.int .i64 (Pm.rawTo wd ht bits (k + 1))] 3 (0, 0)) ∧ Kp (· = B + 1) (w.alloc (.cells #[.int .i64 wd, .int .i64 ht, .int .i64 kd, .int .i64 dp, .bool true, pv, sv] 24)) w1 :=
            ⟨by rw [HN.out, HO.out]; exact h1, (hkp.alloc _).trans h2⟩
          clear h1 h2 hsz hkp
          go_wp2
          go_roundw
          case rel => exact ⟨k + 1, by omega, by go_num, R2.1, R2.2⟩
          case measure => simp [intOf]; omega
        · have HO : Hid (Pm.one wd ht bits c0 r0 cs rs = 0) := by show _ = _; rw [Pm.one, if_neg (by omega)]
          go_wp2
          go_roundw
          case rel => exact ⟨k + 1, by omega, by go_num, by rw [HN.out, HO.out, Int.add_zero]; exact blk_old hsz _, hkp.alloc _⟩
          case measure => simp [intOf]; omega
      · have HO : Hid (Pm.one wd ht bits c0 r0 cs rs = 0) := by show _ = _; rw [Pm.one, if_neg (by omega)]
        go_wp2
        go_roundw
        case rel => exact ⟨k + 1, by omega, by go_num, by rw [HN.out, HO.out, Int.add_zero]; exact blk_old hsz _, hkp.alloc _⟩
        case measure => simp [intOf]; omega
    · have hk2 : k = 7 := by omega
      subst hk2
      go_wp2
      go_end0
      exact ⟨rfl, hsz, ((Kp.refl _ _).alloc _).trans hkp⟩

end Go.Proofs.YtmfijackgekioaaDoor
