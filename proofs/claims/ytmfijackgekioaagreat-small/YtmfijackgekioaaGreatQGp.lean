import Derived.Test.YtmfijackgekioaaGreatQGn
import Derived.Test.YtmfijackgekioaaGreatQJaJb2

/-
  A text's period: the program. For Deflates.
-/
namespace Go.Proofs.YtmfijackgekioaaGreat
open Go.RowKit

theorem make_big (n : Nat) (hn : n ≤ 100000) (Z : List Value) (hZ : Z = List.replicate n (.int .i64 0)) (u : World) :
    (Instr.makeSlice 39 (.int .i64 (n : Int)) (.int .i64 (n : Int))).run Tryz.prog u =
      .ok (.slice (some ⟨u.heap.size, 0, none⟩) n n) (u.alloc (.cells Z.toArray 3)) := by
  obtain ⟨i0, hi, hz0, hz1, hz2⟩ := info_parts Tryz.info3
  have h := run_make (P := Tryz.prog) u 39 3 i0 (.int .i64 0) Tryz.underlying39 hi hz0 .i64 .i64 (n : Int) (n : Int) (by omega) (Int.le_refl _) (by rw [hz2]; omega) (by omega)
  have e2 : (madeCells #[Value.int .i64 0] n) = Z.toArray := by
    rw [hZ, ← toList_madeCells_one]
  simpa [hz1, Value.cells, e2] using h

/-- The longest borders of the beginnings up to i. -/
def Brds (T : List UInt8) (bs : List Int) (i : Nat) : Prop := ∀ m : Nat, 1 ≤ m → m ≤ i → ∃ b : Nat, bs.getD m 0 = (b : Int) ∧ Rf.Mxb T m b
theorem Brds.set {T : List UInt8} {bs : List Int} {i : Nat} (h : Brds T bs i) (b : Nat) (hb : Rf.Mxb T (i + 1) b) (hl : i + 1 < bs.length) : Brds T (bs.set (i + 1) (b : Int)) (i + 1) := fun m h1 h2 => by
  by_cases e : m = i + 1
  · subst e
    exact ⟨b, by rw [List.getD_eq_getElem?_getD, List.getElem?_set]; simp [hl], hb⟩
  · obtain ⟨c, hc, hm⟩ := h m h1 (by omega)
    refine ⟨c, ?_, hm⟩
    rw [← hc, List.getD_eq_getElem?_getD, List.getD_eq_getElem?_getD, List.getElem?_set_ne (by omega)]

/-- What the list of borders holds. -/
def Bord (bs : List Int) : Prop := ∀ j : Nat, 0 ≤ bs.getD j 0 ∧ (1 ≤ j → bs.getD j 0 < (j : Int))
theorem bord_zero (n : Nat) : Bord (List.replicate n 0) := fun j => by
  have : (List.replicate n (0 : Int)).getD j 0 = 0 := by
    rw [List.getD_eq_getElem?_getD, List.getElem?_replicate]
    split <;> rfl
  omega
theorem Bord.set {bs : List Int} (h : Bord bs) (i : Nat) (x : Int) (h0 : 0 ≤ x) (h1 : x < (i : Int)) : Bord (bs.set i x) := fun j => by
  have := h j
  rw [List.getD_eq_getElem?_getD] at this ⊢
  rw [List.getElem?_set]
  split
  · split
    · simp only [Option.getD_some]
      omega
    · simp
      omega
  · omega

set_option maxRecDepth 100000 in
set_option maxHeartbeats 4000000 in
theorem period86 (U : ByteArray) (w : World) (hU : U.size ≤ 65536) :
    Calls Tryz.prog 87 #[.string U] w fun e w' => ∃ per : Nat, e = .returned (.int .i64 per) ∧ (0 < U.size → 1 ≤ per) ∧ per ≤ U.size ∧ Rf.Least U.data.toList per ∧ Below w.heap.size w w' := by
  obtain ⟨n, hn⟩ : ∃ n, U.size = n := ⟨_, rfl⟩
  obtain ⟨n1, hn1⟩ : ∃ n1, n + 1 = n1 := ⟨_, rfl⟩
  obtain ⟨Z, hZ⟩ : ∃ Z : List Value, Z = List.replicate n1 (.int .i64 0) := ⟨_, rfl⟩
  have hmk : ∀ u : World, (Instr.makeSlice 39 (.int .i64 (n1 : Int)) (.int .i64 (n1 : Int))).run Tryz.prog u = .ok (.slice (some ⟨u.heap.size, 0, none⟩) n1 n1) (u.alloc (.cells Z.toArray 3)) := fun u => make_big n1 (by omega) Z hZ u
  have HZ : Hid (Z = vals (List.replicate n1 0)) := by show _ = _; rw [hZ, vals_replicate]
  have hwn : IntKind.i64.wrap ((n : Int) + 1) = (n1 : Int) := (IntWalk.i64_in _ (by omega)).trans (by omega)
  have idx := fun (j : Nat) (h : j < n) (u : World) => idx_str U j (by omega) (j : Int) rfl u
  have IDX : Hid (∀ (j : Nat) (_ : j < n) (u : World), (Instr.index 9 (.string U) (.int .i64 (j : Int))).run Tryz.prog u = .ok (.int .u8 ((U.data.toList.getD j 0).toNat : Nat)) u) := idx
  have HUL : Hid (U.data.toList.length = n) := by show _ = _; rw [Array.length_toList]; exact hn
  have EQ : Hid (∀ i j : Nat, (U.data.toList.getD i 0).toNat = (U.data.toList.getD j 0).toNat → U.data.toList.getD j 0 = U.data.toList.getD i 0) := fun i j h => (UInt8.toNat_inj.1 h).symm
  have NE : Hid (∀ i j : Nat, ¬ (U.data.toList.getD i 0).toNat = (U.data.toList.getD j 0).toNat → U.data.toList.getD j 0 ≠ U.data.toList.getD i 0) := fun i j h e => h (by rw [e])
  clear hZ idx
  rw [hn]
  go_enter Tryz.func87, Tryz.ntmps87
  go_wp2
  go_loopw [4, 5] (fun bv iv wr => ∃ (b i : Nat) (bs : List Int), bv = .int .i64 b ∧ iv = .int .i64 i ∧ 1 ≤ i ∧ b < i ∧ (i ≤ n ∨ i = 1) ∧ bs.length = n1 ∧ Hid (Bord bs ∧ Brds U.data.toList bs i ∧ Rf.Mxb U.data.toList i b) ∧ Hid (Lst wr w.heap.size bs) ∧ Below w.heap.size w wr) (fun _ iv _ => n - (intOf iv).toNat)
  case atStart =>
    refine ⟨0, 1, List.replicate n1 0, rfl, rfl, Nat.le_refl _, by omega, .inr rfl, by simp, ⟨bord_zero _, fun m h1 h2 => ⟨0, by rw [List.getD_eq_getElem?_getD, List.getElem?_replicate]; split <;> rfl, by rw [show m = 1 by omega]; exact Rf.mxb_one _⟩, Rf.mxb_one _⟩, ?_, below_alloc _ _⟩
    show _ = _
    rw [← HZ.out]
    exact blk_new w _
  case round =>
    obtain ⟨b, i, bs, rfl, rfl, hi1, hbi, hin, hbl, HB, HL, hbe⟩ := hrel
    by_cases hlt : i < n
    · have hlti : (i : Int) < (n : Int) := by omega
      have ix := IDX.out i hlt
      have EQi := EQ.out i
      have NEi := NE.out i
      generalize (U.data.toList.getD i 0).toNat = x at *
      have EQI : Hid (∀ j : Nat, x = (U.data.toList.getD j 0).toNat → U.data.toList.getD j 0 = U.data.toList.getD i 0) := EQi
      have NEI : Hid (∀ j : Nat, ¬ x = (U.data.toList.getD j 0).toNat → U.data.toList.getD j 0 ≠ U.data.toList.getD i 0) := NEi
      clear EQi NEi
      go_wp2
      go_loopw [4] (fun bv wq => ∃ b : Nat, bv = .int .i64 b ∧ b < i ∧ Hid (Rf.Cand U.data.toList i b) ∧ Hid (Lst wq w.heap.size bs) ∧ Below w.heap.size w wq) (fun bv _ => (intOf bv).toNat)
      case atStart => exact ⟨b, rfl, hbi, HB.out.2.2.cand, HL, hbe⟩
      case round =>
        clear HL hbe hbi
        obtain ⟨b, rfl, hbi, HCA, HL, hbe⟩ := hrel
        have iy := IDX.out b (by omega)
        have EQb := EQI.out b
        have NEb := NEI.out b
        generalize (U.data.toList.getD b 0).toNat = y at *
        have EQB : Hid (x = y → U.data.toList.getD b 0 = U.data.toList.getD i 0) := EQb
        have NEB : Hid (¬ x = y → U.data.toList.getD b 0 ≠ U.data.toList.getD i 0) := NEb
        clear EQb NEb
        by_cases hb0 : 0 < b
        · have hbd : decide ((b : Int) > 0) = true := by simp; omega
          by_cases hxy : x = y
          · have hxe : ((x : Int) != (y : Int)) = false := by simp [hxy]
            have hxq : ((x : Int) == (y : Int)) = true := by simp [hxy]
            have ci := HL.out.at_ (i + 1) (by omega)
            have fzL : ∀ j, wr.frozen? ⟨w.heap.size, j, none⟩ = false := fun j => frozen_of_row wr w.heap.size j _ _ HL.out
            have hlL : w.heap.size < wr.heap.size := lt_of_block HL.out
            have HB2 : Hid (Bord (bs.set (i + 1) ((b : Int) + 1)) ∧ Brds U.data.toList (bs.set (i + 1) ((b : Int) + 1)) (i + 1) ∧ Rf.Mxb U.data.toList (i + 1) (b + 1)) := ⟨HB.out.1.set (i + 1) _ (by omega) (by omega), HB.out.2.1.set (b + 1) (HCA.out.hit (EQB.out hxy)) (by omega), HCA.out.hit (EQB.out hxy)⟩
            have HS : ∀ m, Hid (Lst ((wr.drewN m).setCell ⟨w.heap.size, i + 1, none⟩ (.int .i64 ((b : Int) + 1))) w.heap.size (bs.set (i + 1) ((b : Int) + 1))) := fun m => Lst.set (w := wr.drewN m) HL.out (i + 1) _
            have HBE : Hid (∀ m, Below w.heap.size w ((wr.drewN m).setCell ⟨w.heap.size, i + 1, none⟩ (.int .i64 ((b : Int) + 1)))) := fun m => (below_drewN hbe m).setCell (p := ⟨w.heap.size, i + 1, none⟩) (Nat.le_refl _) _
            go_wp2
            go_quiet (fail)
            go_wp2
            go_quiet (fail)
            go_wp2
            go_roundw
            case rel => exact ⟨b + 1, i + 1, bs.set (i + 1) ((b : Int) + 1), by go_num, by go_num, by omega, by omega, by omega, by rw [List.length_set]; exact hbl, HB2, HS _, HBE.out _⟩
            case measure => simp [intOf]; omega
          · have hxe : ((x : Int) != (y : Int)) = true := by simp; omega
            have hbb := HB.out.1 b
            have HC2 := HB.out.2.1 b (by omega) (by omega)
            have cb := HL.out.at_ b (by omega)
            obtain ⟨b2, hb2⟩ : ∃ b2 : Nat, bs.getD b 0 = (b2 : Int) := ⟨(bs.getD b 0).toNat, by omega⟩
            rw [hb2] at cb hbb HC2
            have HCB : Hid (Rf.Cand U.data.toList i b2) := by
              obtain ⟨c, e, hm⟩ := HC2
              have : b2 = c := by omega
              subst this
              exact HCA.out.next (NEB.out hxy) hm
            clear HC2
            go_wp2
            go_quiet (fail)
            go_wp2
            go_roundw
            case rel => exact ⟨b2, rfl, by omega, HCB, HL, below_drewN hbe _⟩
            case measure => simp [intOf]; omega
        · have hbd : decide ((b : Int) > 0) = false := by simp; omega
          by_cases hxy : x = y
          · have hxq : ((x : Int) == (y : Int)) = true := by simp [hxy]
            have ci := HL.out.at_ (i + 1) (by omega)
            have fzL : ∀ j, wr.frozen? ⟨w.heap.size, j, none⟩ = false := fun j => frozen_of_row wr w.heap.size j _ _ HL.out
            have hlL : w.heap.size < wr.heap.size := lt_of_block HL.out
            have HB2 : Hid (Bord (bs.set (i + 1) ((b : Int) + 1)) ∧ Brds U.data.toList (bs.set (i + 1) ((b : Int) + 1)) (i + 1) ∧ Rf.Mxb U.data.toList (i + 1) (b + 1)) := ⟨HB.out.1.set (i + 1) _ (by omega) (by omega), HB.out.2.1.set (b + 1) (HCA.out.hit (EQB.out hxy)) (by omega), HCA.out.hit (EQB.out hxy)⟩
            have HS : ∀ m, Hid (Lst ((wr.drewN m).setCell ⟨w.heap.size, i + 1, none⟩ (.int .i64 ((b : Int) + 1))) w.heap.size (bs.set (i + 1) ((b : Int) + 1))) := fun m => Lst.set (w := wr.drewN m) HL.out (i + 1) _
            have HBE : Hid (∀ m, Below w.heap.size w ((wr.drewN m).setCell ⟨w.heap.size, i + 1, none⟩ (.int .i64 ((b : Int) + 1)))) := fun m => (below_drewN hbe m).setCell (p := ⟨w.heap.size, i + 1, none⟩) (Nat.le_refl _) _
            go_wp2
            go_quiet (fail)
            go_wp2
            go_quiet (fail)
            go_wp2
            go_roundw
            case rel => exact ⟨b + 1, i + 1, bs.set (i + 1) ((b : Int) + 1), by go_num, by go_num, by omega, by omega, by omega, by rw [List.length_set]; exact hbl, HB2, HS _, HBE.out _⟩
            case measure => simp [intOf]; omega
          · have hxq : ((x : Int) == (y : Int)) = false := by simp; omega
            have ci := HL.out.at_ (i + 1) (by omega)
            have fzL : ∀ j, wr.frozen? ⟨w.heap.size, j, none⟩ = false := fun j => frozen_of_row wr w.heap.size j _ _ HL.out
            have hlL : w.heap.size < wr.heap.size := lt_of_block HL.out
            have hb00 : b = 0 := by omega
            have HB2 : Hid (Bord (bs.set (i + 1) (b : Int)) ∧ Brds U.data.toList (bs.set (i + 1) (b : Int)) (i + 1) ∧ Rf.Mxb U.data.toList (i + 1) b) := by
              have hmx : Rf.Mxb U.data.toList (i + 1) b := by
                have h1 := HCA.out
                have h2 := NEB.out hxy
                rw [hb00] at h1 h2 ⊢
                exact h1.miss h2
              exact ⟨HB.out.1.set (i + 1) _ (by omega) (by omega), HB.out.2.1.set b hmx (by omega), hmx⟩
            clear hb00
            have HS : ∀ m, Hid (Lst ((wr.drewN m).setCell ⟨w.heap.size, i + 1, none⟩ (.int .i64 (b : Int))) w.heap.size (bs.set (i + 1) (b : Int))) := fun m => Lst.set (w := wr.drewN m) HL.out (i + 1) _
            have HBE : Hid (∀ m, Below w.heap.size w ((wr.drewN m).setCell ⟨w.heap.size, i + 1, none⟩ (.int .i64 (b : Int)))) := fun m => (below_drewN hbe m).setCell (p := ⟨w.heap.size, i + 1, none⟩) (Nat.le_refl _) _
            go_wp2
            go_quiet (fail)
            go_wp2
            go_quiet (fail)
            go_wp2
            go_roundw
            case rel => exact ⟨b, i + 1, bs.set (i + 1) (b : Int), by go_num, by go_num, by omega, by omega, by omega, by rw [List.length_set]; exact hbl, HB2, HS _, HBE.out _⟩
            case measure => simp [intOf]; omega
    · have hlti : ¬ (i : Int) < (n : Int) := by omega
      have hwb : IntKind.i64.wrap ((n : Int) - (b : Int)) = ((n - b : Nat) : Int) := (IntWalk.i64_in _ (by omega)).trans (by omega)
      go_wp2
      go_ret
      refine ⟨n - b, ret_int (by first | exact hwb | omega), by omega, by omega, ?_, hbe⟩
      have hul := HUL.out
      by_cases h0 : n = 0
      · rw [show n - b = 0 by omega]
        exact Rf.least_nil (by omega)
      · rw [← hul]
        refine Rf.least_of ?_
        rw [hul, ← show i = n by omega]
        exact HB.out.2.2
end Go.Proofs.YtmfijackgekioaaGreat
