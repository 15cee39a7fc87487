import Derived.Test.YtmfijackgekioaaQ48

/-
  A text's period: the program. For Deflates.
-/
namespace Go.Proofs.Ytmfijackgekioaa
open Go.RowKit

theorem make_big (n : Nat) (hn : n ≤ 100000) (Z : List Value) (hZ : Z = List.replicate n (.int .i64 0)) (u : World) :
    (Instr.makeSlice 27 (.int .i64 (n : Int)) (.int .i64 (n : Int))).run Try.prog u =
      .ok (.slice (some ⟨u.heap.size, 0, none⟩) n n) (u.alloc (.cells Z.toArray 3)) := by
  obtain ⟨i0, hi, hz0, hz1, hz2⟩ := info_parts Try.info3
  have h := run_make (P := Try.prog) u 27 3 i0 (.int .i64 0) Try.underlying27 hi hz0 .i64 .i64 (n : Int) (n : Int) (by omega) (Int.le_refl _) (by rw [hz2]; omega) (by omega)
  have e2 : (madeCells #[Value.int .i64 0] n) = Z.toArray := by
    rw [hZ, ← toList_madeCells_one]
  simpa [hz1, Value.cells, e2] using h

/-- What the list of borders holds. -/
def Bord (bs : List Int) : Prop := ∀ j : Nat, 0 ≤ bs.getD j 0 ∧ (1 ≤ j → bs.getD j 0 < (j : Int))
theorem bord_zero (n : Nat) : Bord (List.replicate n 0) := fun j => by
  have : (List.replicate n (0 : Int)).getD j 0 = 0 := by
    rw [List.getD_eq_getElem?_getD, List.getElem?_replicate]
    split <;> rfl
  omega
theorem Bord.set {bs : List Int} (h : Bord bs) (i : Nat) (x : Int) (h0 : 0 ≤ x) (h1 : x < (i : Int)) : Bord (bs.set i x) := fun j => by
  have := h j
  rw [List.getD_eq_getElem?_getD] at this ⊢
  rw [List.getElem?_set]
  split
  · split
    · simp only [Option.getD_some]
      omega
    · simp
      omega
  · omega

set_option maxRecDepth 100000 in
set_option maxHeartbeats 4000000 in
theorem period86 (U : ByteArray) (w : World) (hU : U.size ≤ 65536) :
    Calls Try.prog 86 #[.string U] w fun e w' => ∃ per : Nat, e = .returned (.int .i64 per) ∧ (0 < U.size → 1 ≤ per) ∧ per ≤ U.size ∧ Below w.heap.size w w' := by
  obtain ⟨n, hn⟩ : ∃ n, U.size = n := ⟨_, rfl⟩
  obtain ⟨n1, hn1⟩ : ∃ n1, n + 1 = n1 := ⟨_, rfl⟩
  obtain ⟨Z, hZ⟩ : ∃ Z : List Value, Z = List.replicate n1 (.int .i64 0) := ⟨_, rfl⟩
  have hmk : ∀ u : World, (Instr.makeSlice 27 (.int .i64 (n1 : Int)) (.int .i64 (n1 : Int))).run Try.prog u = .ok (.slice (some ⟨u.heap.size, 0, none⟩) n1 n1) (u.alloc (.cells Z.toArray 3)) := fun u => make_big n1 (by omega) Z hZ u
  have HZ : Hid (Z = vals (List.replicate n1 0)) := by show _ = _; rw [hZ, vals_replicate]
  have hwn : IntKind.i64.wrap ((n : Int) + 1) = (n1 : Int) := (IntWalk.i64_in _ (by omega)).trans (by omega)
  have idx := fun (j : Nat) (h : j < n) (u : World) => idx_str U j (by omega) (j : Int) rfl u
  have IDX : Hid (∀ (j : Nat) (_ : j < n) (u : World), (Instr.index 9 (.string U) (.int .i64 (j : Int))).run Try.prog u = .ok (.int .u8 ((U.data.toList.getD j 0).toNat : Nat)) u) := idx
  clear hZ idx
  rw [hn]
  go_enter Try.func86, Try.ntmps86
  go_wp2
  go_loopw [4, 5] (fun bv iv wr => ∃ (b i : Nat) (bs : List Int), bv = .int .i64 b ∧ iv = .int .i64 i ∧ 1 ≤ i ∧ b < i ∧ (i ≤ n ∨ i = 1) ∧ bs.length = n1 ∧ Hid (Bord bs) ∧ Hid (Lst wr w.heap.size bs) ∧ Below w.heap.size w wr) (fun _ iv _ => n - (intOf iv).toNat)
  case atStart =>
    refine ⟨0, 1, List.replicate n1 0, rfl, rfl, Nat.le_refl _, by omega, .inr rfl, by simp, bord_zero _, ?_, below_alloc _ _⟩
    show _ = _
    rw [← HZ.out]
    exact blk_new w _
  case round =>
    obtain ⟨b, i, bs, rfl, rfl, hi1, hbi, hin, hbl, HB, HL, hbe⟩ := hrel
    by_cases hlt : i < n
    · have hlti : (i : Int) < (n : Int) := by omega
      have ix := IDX.out i hlt
      generalize (U.data.toList.getD i 0).toNat = x at *
      go_wp2
      go_loopw [4] (fun bv wq => ∃ b : Nat, bv = .int .i64 b ∧ b < i ∧ Hid (Lst wq w.heap.size bs) ∧ Below w.heap.size w wq) (fun bv _ => (intOf bv).toNat)
      case atStart => exact ⟨b, rfl, hbi, HL, hbe⟩
      case round =>
        clear HL hbe hbi
        obtain ⟨b, rfl, hbi, HL, hbe⟩ := hrel
        have iy := IDX.out b (by omega)
        generalize (U.data.toList.getD b 0).toNat = y at *
        by_cases hb0 : 0 < b
        · have hbd : decide ((b : Int) > 0) = true := by simp; omega
          by_cases hxy : x = y
          · have hxe : ((x : Int) != (y : Int)) = false := by simp [hxy]
            have hxq : ((x : Int) == (y : Int)) = true := by simp [hxy]
            have ci := HL.out.at_ (i + 1) (by omega)
            have fzL : ∀ j, wr.frozen? ⟨w.heap.size, j, none⟩ = false := fun j => frozen_of_row wr w.heap.size j _ _ HL.out
            have hlL : w.heap.size < wr.heap.size := lt_of_block HL.out
            have HB2 : Hid (Bord (bs.set (i + 1) ((b : Int) + 1))) := HB.out.set (i + 1) _ (by omega) (by omega)
            have HS : ∀ m, Hid (Lst ((wr.drewN m).setCell ⟨w.heap.size, i + 1, none⟩ (.int .i64 ((b : Int) + 1))) w.heap.size (bs.set (i + 1) ((b : Int) + 1))) := fun m => Lst.set (w := wr.drewN m) HL.out (i + 1) _
            have HBE : Hid (∀ m, Below w.heap.size w ((wr.drewN m).setCell ⟨w.heap.size, i + 1, none⟩ (.int .i64 ((b : Int) + 1)))) := fun m => (below_drewN hbe m).setCell (p := ⟨w.heap.size, i + 1, none⟩) (Nat.le_refl _) _
            go_wp2
            go_quiet (fail)
            go_wp2
            go_quiet (fail)
            go_wp2
            go_roundw
            case rel => exact ⟨b + 1, i + 1, bs.set (i + 1) ((b : Int) + 1), by go_num, by go_num, by omega, by omega, by omega, by rw [List.length_set]; exact hbl, HB2, HS _, HBE.out _⟩
            case measure => simp [intOf]; omega
          · have hxe : ((x : Int) != (y : Int)) = true := by simp; omega
            have hbb := HB.out b
            have cb := HL.out.at_ b (by omega)
            obtain ⟨b2, hb2⟩ : ∃ b2 : Nat, bs.getD b 0 = (b2 : Int) := ⟨(bs.getD b 0).toNat, by omega⟩
            rw [hb2] at cb hbb
            go_wp2
            go_quiet (fail)
            go_wp2
            go_roundw
            case rel => exact ⟨b2, rfl, by omega, HL, below_drewN hbe _⟩
            case measure => simp [intOf]; omega
        · have hbd : decide ((b : Int) > 0) = false := by simp; omega
          by_cases hxy : x = y
          · have hxq : ((x : Int) == (y : Int)) = true := by simp [hxy]
            have ci := HL.out.at_ (i + 1) (by omega)
            have fzL : ∀ j, wr.frozen? ⟨w.heap.size, j, none⟩ = false := fun j => frozen_of_row wr w.heap.size j _ _ HL.out
            have hlL : w.heap.size < wr.heap.size := lt_of_block HL.out
            have HB2 : Hid (Bord (bs.set (i + 1) ((b : Int) + 1))) := HB.out.set (i + 1) _ (by omega) (by omega)
            have HS : ∀ m, Hid (Lst ((wr.drewN m).setCell ⟨w.heap.size, i + 1, none⟩ (.int .i64 ((b : Int) + 1))) w.heap.size (bs.set (i + 1) ((b : Int) + 1))) := fun m => Lst.set (w := wr.drewN m) HL.out (i + 1) _
            have HBE : Hid (∀ m, Below w.heap.size w ((wr.drewN m).setCell ⟨w.heap.size, i + 1, none⟩ (.int .i64 ((b : Int) + 1)))) := fun m => (below_drewN hbe m).setCell (p := ⟨w.heap.size, i + 1, none⟩) (Nat.le_refl _) _
            go_wp2
            go_quiet (fail)
            go_wp2
            go_quiet (fail)
            go_wp2
            go_roundw
            case rel => exact ⟨b + 1, i + 1, bs.set (i + 1) ((b : Int) + 1), by go_num, by go_num, by omega, by omega, by omega, by rw [List.length_set]; exact hbl, HB2, HS _, HBE.out _⟩
            case measure => simp [intOf]; omega
          · have hxq : ((x : Int) == (y : Int)) = false := by simp; omega
            have ci := HL.out.at_ (i + 1) (by omega)
            have fzL : ∀ j, wr.frozen? ⟨w.heap.size, j, none⟩ = false := fun j => frozen_of_row wr w.heap.size j _ _ HL.out
            have hlL : w.heap.size < wr.heap.size := lt_of_block HL.out
            have HB2 : Hid (Bord (bs.set (i + 1) (b : Int))) := HB.out.set (i + 1) _ (by omega) (by omega)
            have HS : ∀ m, Hid (Lst ((wr.drewN m).setCell ⟨w.heap.size, i + 1, none⟩ (.int .i64 (b : Int))) w.heap.size (bs.set (i + 1) (b : Int))) := fun m => Lst.set (w := wr.drewN m) HL.out (i + 1) _
            have HBE : Hid (∀ m, Below w.heap.size w ((wr.drewN m).setCell ⟨w.heap.size, i + 1, none⟩ (.int .i64 (b : Int)))) := fun m => (below_drewN hbe m).setCell (p := ⟨w.heap.size, i + 1, none⟩) (Nat.le_refl _) _
            go_wp2
            go_quiet (fail)
            go_wp2
            go_quiet (fail)
            go_wp2
            go_roundw
            case rel => exact ⟨b, i + 1, bs.set (i + 1) (b : Int), by go_num, by go_num, by omega, by omega, by omega, by rw [List.length_set]; exact hbl, HB2, HS _, HBE.out _⟩
            case measure => simp [intOf]; omega
    · have hlti : ¬ (i : Int) < (n : Int) := by omega
      have hwb : IntKind.i64.wrap ((n : Int) - (b : Int)) = ((n - b : Nat) : Int) := (IntWalk.i64_in _ (by omega)).trans (by omega)
      go_wp2
      go_ret
      exact ⟨n - b, ret_int (by first | exact hwb | omega), by omega, by omega, hbe⟩
end Go.Proofs.Ytmfijackgekioaa
