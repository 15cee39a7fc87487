import Derived.Test.YtmfijackgekioaaGreatDoorQSbSl2
import Derived.Test.YtmfijackgekioaaGreatDoorQSr

namespace Go.Proofs.YtmfijackgekioaaGreatDoor
open Go.RowKit

theorem own_shape {w : World} {base e n : Nat} {v : Value} {xs : List Value} (h : w.ownsRow base e 1 v n xs) (hn : 0 < n) :
    ∃ g cap, v = .slice (some ⟨g, 0, none⟩) n cap ∧ n ≤ cap ∧ cap ≤ maxLen ∧ base ≤ g ∧ g < w.heap.size := by
  have hlt := h.lt
  rcases h.2 with ⟨h', hx⟩ | ⟨g, cap, cur, rfl, hb, hg, hnc, hcm, hcs, htake⟩
  · omega
  · exact ⟨g, cap, rfl, hnc, hcm, hb, (hlt g rfl).2⟩

abbrev irow (N : Nat) (f : Nat → Int) : List Value := (List.range N).map fun p => Value.int .i64 (f p)

theorem irow_get {N p : Nat} (f : Nat → Int) (h : p < N) : (irow N f)[p]? = some (.int .i64 (f p)) := by simp [irow, h]
theorem irow_set (N p : Nat) (f g : Nat → Int) (h : ∀ q, g q = if q = p then g p else f q) : (irow N f).set p (.int .i64 (g p)) = irow N g := by
  rw [irow, Mx.set_range]
  apply List.map_congr_left
  intro q _
  by_cases e : q = p
  · subst e; simp
  · rw [if_neg e, h q, if_neg e]
theorem irow_congr {N : Nat} {f g : Nat → Int} (h : ∀ q, f q = g q) : irow N f = irow N g := List.map_congr_left fun q _ => by rw [h q]

theorem low_n (s : ByteArray) (n X : Nat) (w : World) (hs : s.size ≤ 5000000) (hn : n = 8 * s.size) (hX : X = Mx.num s.data.toList) :
    Calls Tryz.prog 77 #[.string s] w fun e w' => ∃ v, e = .returned v ∧ w'.ownsRow w.heap.size 3 1 v n (irow n (Mx.bit X)) ∧ Below w.heap.size w w' := by
  subst hn hX
  refine (low10 s w hs).mono ?_
  rintro e w' ⟨v, rfl, h1, h2⟩
  refine ⟨v, rfl, ?_, h2⟩
  rw [Mx.low_bits, List.map_map] at h1
  simpa [irow, Function.comp_def] using h1

theorem and_one_f (a j : Nat) (h : a.testBit j = false) : bits .and .i64 ((a : Int) / 2 ^ j) 1 = 0 := by
  rw [and_oneS]; rw [Nat.testBit_eq_decide_div_mod_eq] at h; simp at h; omega
theorem and_one_t (a j : Nat) (h : a.testBit j = true) : bits .and .i64 ((a : Int) / 2 ^ j) 1 = 1 := by
  rw [and_oneS]; rw [Nat.testBit_eq_decide_div_mod_eq] at h; simp at h; omega

set_option maxRecDepth 100000 in
set_option maxHeartbeats 1000000 in
theorem crc6 (s : ByteArray) (n : Nat) (w : World) (hs : s.size ≤ 5000000) (hn0 : n = 8 * s.size) :
    Calls Tryz.prog 71 #[.string s] w fun e w' => e = .returned (.int .i64 (4294967295 - (Mx.crcR s.data.toList : Int))) ∧ Below w.heap.size w w' := by
  obtain ⟨i0, hi, hz0, hz1, hz2⟩ := info_parts Tryz.info3
  have hn : n ≤ 40000000 := by omega
  have HN : Hid (n = 8 * s.size) := hn0
  clear hn0
  have hbz : ∀ p, n ≤ p → Mx.bit (Mx.num s.data.toList) p = 0 := fun p hp => Mx.bit_high _ _ _ (Mx.num_lt _) (by have := HN.out; simp; omega)
  have HE : Hid (Mx.stps n (Mx.num s.data.toList ^^^ 4294967295) = Mx.crcR s.data.toList) := by
    rw [HN.out]; have := Mx.crc_end s.data.toList; simpa [Hid] using this
  generalize hX : Mx.num s.data.toList = X at *
  have HX : Hid (X = Mx.num s.data.toList) := hX.symm
  clear hX
  have HR : Hid (Mx.crcR s.data.toList < 4294967296) := Mx.crcR_lt _
  generalize Mx.crcR s.data.toList = C at *
  generalize hB : w.heap.size = B at *
  go_enter Tryz.func71, Tryz.ntmps71
  go_wp2_with (go_at_call 77; refine (low_n s n X _ hs HN.out HX.out).mono ?_; rintro e w1 ⟨v, rfl, hown, hbel⟩; obtain ⟨ao, cap, rfl⟩ := own_slice hown; rw [hB] at hown hbel)
  go_loopw [3, 5] (fun v i wr => ∃ k : Nat, k ≤ 32 ∧ i = .int .i64 k ∧ wr.ownsRow B 3 1 v (n + k) (irow (n + k) (Mx.bit X)) ∧ Below B w wr) (fun _ i _ => 32 - (intOf i).toNat)
  case atStart => exact ⟨0, Nat.zero_le _, rfl, hown, hbel⟩
  case round =>
    clear hown hbel
    obtain ⟨k, hk, rfl, hown, hbel⟩ := hrel
    by_cases hlt : k < 32
    · go_wp2_with (at_builtin; refine wpList_append_own _ rfl _ _ 24 rfl B 3 i0 (.int .i64 0) 1 8 Tryz.underlying24 hi hz0 hz1 hz2 rfl (by decide) _ _ _ rfl (hown.alloc _) ⟨wr.heap.size, 0, none⟩ 1 1 [.int .i64 0] rfl rfl ?c1 ?c2 ?c3 ?c4 ?c5 ?_)
      case c1 => exact cell_one_new _ _ _
      case c2 => intro u hu; simp at hu; subst hu; rfl
      case c3 => unfold maxLen; omega
      case c4 => omega
      case c5 => have := hbel.size; simp; omega
      · intro v' w2 hown' hgrow _
        have R : w2.ownsRow B 3 1 v' (n + (k + 1)) (irow (n + (k + 1)) (Mx.bit X)) ∧ Below B w w2 := by
          refine ⟨?_, (hbel.alloc (by have := hbel.size; omega) _).grown hgrow (by have := hbel.size; simp; omega) (fun b hb => (hown.lt b hb).1)⟩
          have e : irow (n + (k + 1)) (Mx.bit X) = irow (n + k) (Mx.bit X) ++ [.int .i64 0] := by
            rw [← Nat.add_assoc, irow, List.range_succ, List.map_append]; simp [hbz (n + k) (by omega)]
          rw [e]
          exact hown'
        clear hown' hgrow hown hbel
        go_wp2
        go_roundw
        case rel => exact ⟨k + 1, by omega, by go_num, R.1, R.2⟩
        case measure => simp [intOf]; omega
    · have hk2 : k = 32 := by omega
      subst hk2
      obtain ⟨g, cap2, rfl, hcap, hcm, hBg, hgs⟩ := own_shape hown (by omega)
      go_wp2
      go_loopw [6] (fun i wr => ∃ k : Nat, k ≤ 32 ∧ i = .int .i64 k ∧ wr.ownsRow B 3 1 (.slice (some ⟨g, 0, none⟩) (n + 32) cap2) (n + 32) (irow (n + 32) (Mx.trn k X)) ∧ Below B w wr) (fun i _ => 32 - (intOf i).toNat)
      case atStart => exact ⟨0, Nat.zero_le _, rfl, by rw [irow_congr (Mx.trn_zero X)]; exact hown, hbel⟩
      case round =>
        clear hown hbel
        obtain ⟨k, hk, rfl, hown, hbel⟩ := hrel
        by_cases hlt : k < 32
        · have hcell : wr.cell? ⟨g, k, none⟩ = some (.int .i64 (Mx.trn k X k)) := (hown.cellAt k (by omega)).trans (irow_get _ (by omega))
          have hfr : wr.frozen? ⟨g, k, none⟩ = false := hown.frozenAt k
          have hr := Mx.trn_range k X k
          have R := hown.stored k (.int .i64 (1 - Mx.trn k X k))
          have hb2 := hbel.setCell (p := ⟨g, k, none⟩) hBg (.int .i64 (1 - Mx.trn k X k))
          have es := irow_set (n + 32) k (Mx.trn k X) (Mx.trn (k + 1) X) (fun q => by rw [Mx.trn_succ k X q, Mx.trn_succ k X k]; simp)
          rw [Mx.trn_succ k X k, if_pos rfl] at es
          rw [es] at R
          have HR2 : Hid ((wr.setCell ⟨g, k, none⟩ (.int .i64 (1 - Mx.trn k X k))).ownsRow B 3 1 (.slice (some ⟨g, 0, none⟩) (n + 32) cap2) (n + 32) (irow (n + 32) (Mx.trn (k + 1) X)) ∧ Below B w (wr.setCell ⟨g, k, none⟩ (.int .i64 (1 - Mx.trn k X k)))) := ⟨R.1, hb2⟩
          clear R hb2 es
          go_wp2
          go_roundw
          case rel => exact ⟨k + 1, by omega, by go_num, HR2.out.1, HR2.out.2⟩
          case measure => simp [intOf]; omega
        · have hk2 : k = 32 := by omega
          subst hk2
          rw [irow_congr (Mx.trn_all X)] at hown
          generalize X ^^^ 4294967295 = Y at *
          go_wp2
          go_loopw [7] (fun i wr => ∃ k : Nat, k ≤ n ∧ i = .int .i64 k ∧ wr.ownsRow B 3 1 (.slice (some ⟨g, 0, none⟩) (n + 32) cap2) (n + 32) (irow (n + 32) (Mx.val k (Mx.stps k Y))) ∧ Below B w wr) (fun i _ => n - (intOf i).toNat)
          case atStart => exact ⟨0, Nat.zero_le _, rfl, hown, hbel⟩
          case round =>
            clear hown hbel
            obtain ⟨i, hin, rfl, hown, hbel⟩ := hrel
            by_cases hlt : i < n
            · have hcell : wr.cell? ⟨g, i, none⟩ = some (.int .i64 (Mx.bit (Mx.stps i Y) 0)) := (hown.cellAt i (by omega)).trans ((irow_get _ (by omega)).trans (by simp [Mx.val]))
              have hfr : wr.frozen? ⟨g, i, none⟩ = false := hown.frozenAt i
              have HS : Hid (Mx.stps (i + 1) Y = Mx.stp (Mx.stps i Y)) := rfl
              generalize Mx.stps i Y = x at *
              rcases Mx.bit_01 x 0 with h01 | h01
              · rw [h01] at hcell
                go_wp2
                go_roundw
                case rel => exact ⟨i + 1, by omega, by go_num, by rw [HS.out, irow_congr (fun p => Mx.val_even i x p h01)]; exact hown, hbel⟩
                case measure => simp [intOf]; omega
              · rw [h01] at hcell
                have R := hown.stored i (.int .i64 0)
                have hb2 := hbel.setCell (p := ⟨g, i, none⟩) hBg (.int .i64 0)
                have es := irow_set (n + 32) i (Mx.val i x) (Mx.val (i + 1) (x / 2)) (fun q => by rw [← Mx.val_wipe i x q, ← Mx.val_wipe i x i]; simp)
                rw [← Mx.val_wipe i x i, if_pos rfl] at es
                rw [es] at R
                have HR2 : Hid ((wr.setCell ⟨g, i, none⟩ (.int .i64 0)).ownsRow B 3 1 (.slice (some ⟨g, 0, none⟩) (n + 32) cap2) (n + 32) (irow (n + 32) (Mx.val (i + 1) (x / 2))) ∧ Below B w (wr.setCell ⟨g, i, none⟩ (.int .i64 0))) := ⟨R.1, hb2⟩
                clear R hb2 es
                go_wp2
                go_loopw [8] (fun kk wr => ∃ k : Nat, k ≤ 32 ∧ kk = .int .i64 k ∧ wr.ownsRow B 3 1 (.slice (some ⟨g, 0, none⟩) (n + 32) cap2) (n + 32) (irow (n + 32) (Mx.val (i + 1) (x / 2 ^^^ Mx.pm k))) ∧ Below B w wr) (fun kk _ => 32 - (intOf kk).toNat)
                case atStart => exact ⟨0, Nat.zero_le _, rfl, by simpa [Mx.pm] using HR2.out.1, HR2.out.2⟩
                case round =>
                  clear hown hbel HR2 hcell hfr
                  obtain ⟨k, hk, rfl, hown, hbel⟩ := hrel
                  by_cases hlt2 : k < 32
                  · cases hD : Nat.testBit 79764919 k
                    · have eD : bits .and .i64 (79764919 / 2 ^ k) 1 = 0 := and_one_f 79764919 k hD
                      have HP : Hid (Mx.pm (k + 1) = Mx.pm k) := by show Mx.pm (k + 1) = Mx.pm k; rw [Mx.pm, hD]; rfl
                      clear hD
                      go_wp2
                      go_roundw
                      case rel => exact ⟨k + 1, by omega, by go_num, by rw [HP.out]; exact hown, hbel⟩
                      case measure => simp [intOf]; omega
                    · have eD : bits .and .i64 (79764919 / 2 ^ k) 1 = 1 := and_one_t 79764919 k hD
                      have HP : Hid (Mx.pm (k + 1) = Mx.pm k ^^^ 2 ^ (31 - k)) := by show Mx.pm (k + 1) = _; rw [Mx.pm, hD]; rfl
                      clear hD
                      have hcell : wr.cell? ⟨g, i + 32 - k, none⟩ = some (.int .i64 (Mx.val (i + 1) (x / 2 ^^^ Mx.pm k) (i + 32 - k))) := (hown.cellAt (i + 32 - k) (by omega)).trans (irow_get _ (by omega))
                      have hfr : wr.frozen? ⟨g, i + 32 - k, none⟩ = false := hown.frozenAt _
                      have hr := Mx.val_range (i + 1) (x / 2 ^^^ Mx.pm k) (i + 32 - k)
                      have R := hown.stored (i + 32 - k) (.int .i64 (1 - Mx.val (i + 1) (x / 2 ^^^ Mx.pm k) (i + 32 - k)))
                      have hb2 := hbel.setCell (p := ⟨g, i + 32 - k, none⟩) hBg (.int .i64 (1 - Mx.val (i + 1) (x / 2 ^^^ Mx.pm k) (i + 32 - k)))
                      have es := irow_set (n + 32) (i + 32 - k) (Mx.val (i + 1) (x / 2 ^^^ Mx.pm k)) (Mx.val (i + 1) ((x / 2 ^^^ Mx.pm k) ^^^ 2 ^ (31 - k))) (fun q => by rw [Mx.val_flip i _ k q hlt2, Mx.val_flip i _ k (i + 32 - k) hlt2]; simp)
                      rw [Mx.val_flip i _ k (i + 32 - k) hlt2, if_pos rfl] at es
                      rw [es] at R
                      have HR2 : Hid ((wr.setCell ⟨g, i + 32 - k, none⟩ (.int .i64 (1 - Mx.val (i + 1) (x / 2 ^^^ Mx.pm k) (i + 32 - k)))).ownsRow B 3 1 (.slice (some ⟨g, 0, none⟩) (n + 32) cap2) (n + 32) (irow (n + 32) (Mx.val (i + 1) ((x / 2 ^^^ Mx.pm k) ^^^ 2 ^ (31 - k)))) ∧ Below B w (wr.setCell ⟨g, i + 32 - k, none⟩ (.int .i64 (1 - Mx.val (i + 1) (x / 2 ^^^ Mx.pm k) (i + 32 - k))))) := ⟨R.1, hb2⟩
                      clear R hb2 es
                      generalize Mx.val (i + 1) (x / 2 ^^^ Mx.pm k) (i + 32 - k) = y at *
                      go_wp2
                      go_roundw
                      case rel => exact ⟨k + 1, by omega, by go_num, by rw [HP.out, ← Nat.xor_assoc]; exact HR2.out.1, HR2.out.2⟩
                      case measure => simp [intOf]; omega
                  · have hk2 : k = 32 := by omega
                    subst hk2
                    go_wp2
                    go_roundw
                    case rel => exact ⟨i + 1, by omega, by go_num, by rw [HS.out, ← Mx.odd_all x h01]; exact hown, hbel⟩
                    case measure => simp [intOf]; omega
            · have hk2 : i = n := by omega
              subst hk2
              rw [HE.out] at hown
              have hC := HR.out
              go_wp2
              go_loopw [9, 10] (fun v kk wr => ((∃ m : Nat, m < 32 ∧ kk = .int .i64 m ∧ v = .int .i64 (((4294967295 - C) / 2 ^ (m + 1) : Nat) : Int)) ∨ kk = .int .i64 (-1) ∧ v = .int .i64 (4294967295 - (C : Int))) ∧ wr.ownsRow B 3 1 (.slice (some ⟨g, 0, none⟩) (i + 32) cap2) (i + 32) (irow (i + 32) (Mx.val i C)) ∧ Below B w wr) (fun _ kk _ => (intOf kk + 1).toNat)
              case atStart => exact ⟨.inl ⟨31, by omega, rfl, by rw [show (4294967295 - C) / 2 ^ (31 + 1) = 0 from Nat.div_eq_of_lt (by omega)]; rfl⟩, hown, hbel⟩
              case round =>
                clear hown hbel
                obtain ⟨hm, hown, hbel⟩ := hrel
                rcases hm with ⟨m, hm, rfl, rfl⟩ | ⟨rfl, rfl⟩
                · have hcell : wr.cell? ⟨g, i + m, none⟩ = some (.int .i64 (Mx.bit C m)) := (hown.cellAt (i + m) (by omega)).trans ((irow_get _ (by omega)).trans (by simp [Mx.val, show ¬ i + m < i by omega]))
                  have hr := Mx.bit_range C m
                  have HO : Hid (2 * (((4294967295 - C) / 2 ^ (m + 1) : Nat) : Int) + 1 - Mx.bit C m = (((4294967295 - C) / 2 ^ m : Nat) : Int)) := Mx.off_step C m hC hm
                  have hv : (4294967295 - C) / 2 ^ (m + 1) ≤ 4294967295 := Nat.le_trans (Nat.div_le_self _ _) (by omega)
                  generalize (4294967295 - C) / 2 ^ (m + 1) = y at *
                  go_wp2
                  go_roundw
                  case rel =>
                    refine ⟨?_, hown, hbel⟩
                    rw [HO.out]
                    match m, hm with
                    | 0, _ => exact .inr ⟨rfl, by rw [Nat.pow_zero, Nat.div_one]; go_num⟩
                    | m' + 1, hm => exact .inl ⟨m', by omega, by go_num, rfl⟩
                  case measure => simp [intOf]
                · go_wp2
                  go_ret
                  exact ⟨rfl, hbel⟩

end Go.Proofs.YtmfijackgekioaaGreatDoor
