/-
  The program's lists of lengths: the fixed ones, whether they are full, whether distances may be.
-/
import Derived.Test.YtmfijackgekioaaUk
import Derived.Test.YtmfijackgekioaaRu
import Derived.Test.YtmfijackgekioaaRo
namespace Go.Proofs.Ytmfijackgekioaa
open Go.RowKit

theorem shl_lit (x : Int) (h1 : 0 < x) (h2 : x ≤ 15) : ((2 ^ (15 - x).toNat : Nat)) = 32768 / 2 ^ x.toNat := by
  have e : (15 - x).toNat = 15 - x.toNat := by omega
  rw [e, show (32768 : Nat) = 2 ^ 15 from rfl, Nat.pow_div (by omega) (by omega)]

set_option maxRecDepth 100000 in
set_option maxHeartbeats 1000000 in
theorem full71 (ao : Option Addr) (cap : Nat) (ls : List Int) (n : Nat) (w : World) (hn0 : ls.length = n) (hn : n ≤ 320) (hint : Ints w ao ls) (hrg : ∀ j, ls.getD j 0 ≤ 15) :
    Calls Try.prog 71 #[.slice ao n cap] w fun e w' => e = .returned (.bool (Rf.full ls)) ∧ w' = w := by
  go_enter Try.func71, Try.ntmps71
  go_wp2
  go_loop [3, 8] (fun s i => ∃ k : Nat, k ≤ n ∧ i = .int .i64 k ∧ s = .int .i64 (Rf.fs ls k)) (fun _ i => n - (intOf i).toNat)
  case atStart => exact ⟨0, Nat.zero_le _, rfl, rfl⟩
  case round =>
    obtain ⟨k, hk, rfl, rfl⟩ := hrel
    have hfs := Rf.fs_le ls k
    by_cases hlt : k < n
    · obtain ⟨b, off, rfl, hc⟩ := hint k (by omega)
      obtain ⟨x, hx⟩ : ∃ x : Int, x = ls[k] := ⟨_, rfl⟩
      have hx2 : ls.getD k 0 = x := by rw [hx]; simp [List.getD, List.getElem?_eq_getElem (show k < ls.length by omega)]
      have hx15 : x ≤ 15 := by rw [← hx2]; exact hrg k
      rw [← hx] at hc
      have HF : Hid (Rf.fs ls (k + 1) = Rf.fs ls k + if 0 < x then 32768 / 2 ^ x.toNat else 0) := by show _ = _; rw [← hx2]; rfl
      have hfb : (Rf.fs ls k : Int) ≤ 10485760 := by omega
      clear hx hx2 hrg hfs
      by_cases h0 : 0 < x
      · obtain ⟨y, hy⟩ : ∃ y : Nat, y = 32768 / 2 ^ x.toNat := ⟨_, rfl⟩
        have hyb : y ≤ 32768 := by rw [hy]; exact Nat.div_le_self _ _
        have e0 : (2 : Nat) ^ (15 - x).toNat = y := by rw [hy, shl_lit x h0 hx15]
        have e1 : (2 : Int) ^ (15 - x).toNat = (y : Int) := by rw [← e0]; simp
        have e2 : (1 : Int) * 2 ^ (15 - x).toNat = (y : Int) := by rw [Int.one_mul]; exact e1
        have e3 : (0 : Int) ≤ 15 - x := by omega
        have HF2 : Hid (Rf.fs ls (k + 1) = Rf.fs ls k + y) := by show _ = _; rw [HF.out, if_pos h0, ← hy]
        clear hy HF e0
        go_wp2
        go_round
        case rel => exact ⟨k + 1, by omega, by go_num, by rw [HF2.out]; go_num⟩
        case measure => simp [intOf]; omega
      · have HF2 : Hid (Rf.fs ls (k + 1) = Rf.fs ls k) := by show _ = _; rw [HF.out, if_neg h0]; rfl
        clear HF
        go_wp2
        go_round
        case rel => exact ⟨k + 1, by omega, by go_num, by rw [HF2.out]⟩
        case measure => simp [intOf]; omega
    · have hkn : k = n := by omega
      subst hkn
      go_wp2
      go_ret
      refine ⟨ret_bool ?_, rfl⟩
      rw [Rf.full, hn0, Bool.eq_iff_iff]
      simp
      omega

set_option maxRecDepth 100000 in
set_option maxHeartbeats 1000000 in
theorem fixS60 (w : World) :
    Calls Try.prog 60 #[] w fun e w' => e = .returned (.slice (some ⟨w.heap.size, 0, none⟩) 288 288) ∧ Lst w' w.heap.size Rf.fixS ∧ Below w.heap.size w w' := by
  obtain ⟨Z, hZ⟩ : ∃ Z : List Value, Z = List.replicate 288 (.int .i64 0) := ⟨_, rfl⟩
  have hmk : ∀ u : World, (Instr.makeSlice 27 (.int .i64 288) (.int .i64 288)).run Try.prog u = .ok (.slice (some ⟨u.heap.size, 0, none⟩) 288 288) (u.alloc (.cells Z.toArray 3)) := fun u => make_n 288 (by omega) Z hZ u
  have HZ : Hid (Z = vals (part 288 0 Rf.fixL)) := by show _ = _; rw [hZ, part_zero, vals_replicate]
  clear hZ
  go_enter Try.func60, Try.ntmps60
  go_wp2
  go_loopw [6] (fun i wr => ∃ k : Nat, k ≤ 288 ∧ i = .int .i64 k ∧ Lst wr w.heap.size (part 288 k Rf.fixL) ∧ Below w.heap.size w wr) (fun i _ => 288 - (intOf i).toNat)
  case atStart => exact ⟨0, Nat.zero_le _, rfl, (blk_new w _).trans (by rw [HZ.out]), (Below.refl _ _).alloc (Nat.le_refl _) _⟩
  case round =>
    obtain ⟨k, hk, rfl, hl, hb⟩ := hrel
    by_cases hlt : k < 288
    · obtain ⟨x, c1⟩ : ∃ x, wr.cell? ⟨w.heap.size, k, none⟩ = some (.int .i64 x) := ⟨_, hl.cell k (by simp; omega)⟩
      have f1 : wr.frozen? ⟨w.heap.size, k, none⟩ = false := frozen_of_row wr _ _ _ _ hl
      obtain ⟨y, hy⟩ : ∃ y : Int, y = Rf.fixL k := ⟨_, rfl⟩
      have HL : Hid (Lst (wr.setCell ⟨w.heap.size, k, none⟩ (.int .i64 y)) w.heap.size (part 288 (k + 1) Rf.fixL) ∧ Below w.heap.size w (wr.setCell ⟨w.heap.size, k, none⟩ (.int .i64 y))) := ⟨by rw [hy, ← part_set]; exact hl.set k _, hb.setCell (Nat.le_refl _) _⟩
      have hd : decide ((k : Int) < 288) = true := by simp; omega
      unfold Rf.fixL at hy
      by_cases h1 : k < 144
      · rw [if_pos h1] at hy
        subst hy
        go_wp2
        go_roundw
        case rel => exact ⟨k + 1, by omega, by go_num, HL.out.1, HL.out.2⟩
        case measure => simp [intOf]; omega
      · rw [if_neg h1] at hy
        by_cases h2 : k < 256
        · rw [if_pos h2] at hy
          subst hy
          go_wp2
          go_roundw
          case rel => exact ⟨k + 1, by omega, by go_num, HL.out.1, HL.out.2⟩
          case measure => simp [intOf]; omega
        · rw [if_neg h2] at hy
          by_cases h3 : k < 280
          · rw [if_pos h3] at hy
            subst hy
            go_wp2
            go_roundw
            case rel => exact ⟨k + 1, by omega, by go_num, HL.out.1, HL.out.2⟩
            case measure => simp [intOf]; omega
          · rw [if_neg h3] at hy
            subst hy
            go_wp2
            go_roundw
            case rel => exact ⟨k + 1, by omega, by go_num, HL.out.1, HL.out.2⟩
            case measure => simp [intOf]; omega
    · have hk2 : k = 288 := by omega
      subst hk2
      go_wp2
      go_ret
      refine ⟨rfl, ?_, hb⟩
      rw [Rf.fixS, ← part_all]
      exact hl

/-- The program's distances of a block of kind 1: the 30 that mean something. -/
def fixP : List Int := (List.range 30).map fun _ => 5

set_option maxRecDepth 100000 in
set_option maxHeartbeats 1000000 in
theorem fixD61 (w : World) :
    Calls Try.prog 61 #[] w fun e w' => e = .returned (.slice (some ⟨w.heap.size, 0, none⟩) 30 30) ∧ Lst w' w.heap.size fixP ∧ Below w.heap.size w w' := by
  obtain ⟨Z, hZ⟩ : ∃ Z : List Value, Z = List.replicate 30 (.int .i64 0) := ⟨_, rfl⟩
  have hmk : ∀ u : World, (Instr.makeSlice 27 (.int .i64 30) (.int .i64 30)).run Try.prog u = .ok (.slice (some ⟨u.heap.size, 0, none⟩) 30 30) (u.alloc (.cells Z.toArray 3)) := fun u => make_n 30 (by omega) Z hZ u
  have HZ : Hid (Z = vals (part 30 0 fun _ => 5)) := by show _ = _; rw [hZ, part_zero, vals_replicate]
  clear hZ
  go_enter Try.func61, Try.ntmps61
  go_wp2
  go_loopw [6] (fun i wr => ∃ k : Nat, k ≤ 30 ∧ i = .int .i64 k ∧ Lst wr w.heap.size (part 30 k fun _ => 5) ∧ Below w.heap.size w wr) (fun i _ => 30 - (intOf i).toNat)
  case atStart => exact ⟨0, Nat.zero_le _, rfl, (blk_new w _).trans (by rw [HZ.out]), (Below.refl _ _).alloc (Nat.le_refl _) _⟩
  case round =>
    obtain ⟨k, hk, rfl, hl, hb⟩ := hrel
    by_cases hlt : k < 30
    · obtain ⟨x, c1⟩ : ∃ x, wr.cell? ⟨w.heap.size, k, none⟩ = some (.int .i64 x) := ⟨_, hl.cell k (by simp; omega)⟩
      have f1 : wr.frozen? ⟨w.heap.size, k, none⟩ = false := frozen_of_row wr _ _ _ _ hl
      have HL : Hid (Lst (wr.setCell ⟨w.heap.size, k, none⟩ (.int .i64 5)) w.heap.size (part 30 (k + 1) fun _ => 5) ∧ Below w.heap.size w (wr.setCell ⟨w.heap.size, k, none⟩ (.int .i64 5))) := ⟨by rw [← part_set]; exact hl.set k _, hb.setCell (Nat.le_refl _) _⟩
      go_wp2
      go_roundw
      case rel => exact ⟨k + 1, by omega, by go_num, HL.out.1, HL.out.2⟩
      case measure => simp [intOf]; omega
    · have hk2 : k = 30 := by omega
      subst hk2
      go_wp2
      go_ret
      refine ⟨rfl, ?_, hb⟩
      rw [fixP, ← part_all]
      exact hl

/-- How many lengths there are; the program's test of distances is the document's. -/
def cntF (far : List Int) : Nat → Nat
  | 0 => 0
  | k + 1 => cntF far k + if 0 < far.getD k 0 then 1 else 0
theorem cnt_sum (far : List Int) (h0 : ∀ j, 0 ≤ far.getD j 0) : ∀ k, (cntF far k : Int) ≤ Rf.sumF far k ∧ (cntF far k = 0 ↔ Rf.sumF far k = 0) ∧ Rf.onesF far k ≤ cntF far k ∧ (Rf.sumF far k = 1 → Rf.onesF far k = 1 ∧ cntF far k = 1) := by
  intro k
  induction k with
  | zero => simp [cntF, Rf.sumF, Rf.onesF]
  | succ k ih =>
    have := h0 k
    simp only [cntF, Rf.sumF, Rf.onesF]
    obtain ⟨i1, i2, i3, i4⟩ := ih
    by_cases hz : 0 < far.getD k 0
    · rw [if_pos hz]
      by_cases h1 : far.getD k 0 = 1
      · rw [if_pos h1, h1]
        exact ⟨by omega, by omega, by omega, fun h => by have := i2.2 (by omega); omega⟩
      · rw [if_neg h1]
        exact ⟨by omega, by omega, by omega, fun h => by omega⟩
    · rw [if_neg hz, if_neg (by omega)]
      have e : far.getD k 0 = 0 := by omega
      rw [e]
      exact ⟨by omega, by omega, by omega, fun h => by have := i4 (by omega); omega⟩
theorem dists_eq (far : List Int) (h0 : ∀ j, 0 ≤ far.getD j 0) :
    (decide (cntF far far.length = 0) || (decide (cntF far far.length = 1) && decide (Rf.sumF far far.length = 1)) || Rf.full far) = !(!Rf.full far && (decide (Rf.sumF far far.length ≠ 0) && (decide (Rf.sumF far far.length ≠ 1) || decide (Rf.onesF far far.length ≠ 1)))) := by
  have h := cnt_sum far h0 far.length
  obtain ⟨i1, i2, i3, i4⟩ := h
  cases Rf.full far
  · by_cases hs : Rf.sumF far far.length = 0
    · have := i2.2 hs
      simp [hs, this]
    · by_cases h1 : Rf.sumF far far.length = 1
      · have := i4 h1
        simp [h1, this.1, this.2]
      · have hc : ¬ cntF far far.length = 0 := fun e => hs (i2.1 e)
        simp [hs, h1, hc]
  · simp

def distOk (far : List Int) : Bool := !(!Rf.full far && (decide (Rf.sumF far far.length ≠ 0) && (decide (Rf.sumF far far.length ≠ 1) || decide (Rf.onesF far far.length ≠ 1))))
theorem sumF_le (far : List Int) (h0 : ∀ j, 0 ≤ far.getD j 0) (h1 : ∀ j, far.getD j 0 ≤ 15) (k : Nat) : 0 ≤ Rf.sumF far k ∧ Rf.sumF far k ≤ 15 * k ∧ cntF far k ≤ k := by
  induction k with
  | zero => simp [Rf.sumF, cntF]
  | succ k ih =>
    have a := h0 k
    have b := h1 k
    simp only [Rf.sumF, cntF]
    refine ⟨by omega, by omega, ?_⟩
    split <;> omega

set_option maxRecDepth 100000 in
set_option maxHeartbeats 1000000 in
theorem may72 (ao : Option Addr) (cap : Nat) (far : List Int) (n : Nat) (w : World) (hn0 : far.length = n) (hn : n ≤ 320) (hint : Ints w ao far) (h0 : ∀ j, 0 ≤ far.getD j 0) (hrg : ∀ j, far.getD j 0 ≤ 15) :
    Calls Try.prog 72 #[.slice ao n cap] w fun e w' => e = .returned (.bool (distOk far)) ∧ w' = w := by
  have hfull := full71 ao cap far n w hn0 hn hint hrg
  have HD : Hid (_ = distOk far) := dists_eq far h0
  have HSL : Hid (∀ k, 0 ≤ Rf.sumF far k ∧ Rf.sumF far k ≤ 15 * k ∧ cntF far k ≤ k) := sumF_le far h0 hrg
  go_enter Try.func72, Try.ntmps72
  go_wp2
  go_loop [3, 4, 9] (fun c s i => ∃ k : Nat, k ≤ n ∧ i = .int .i64 k ∧ c = .int .i64 (cntF far k) ∧ s = .int .i64 (Rf.sumF far k)) (fun _ _ i => n - (intOf i).toNat)
  case atStart => exact ⟨0, Nat.zero_le _, rfl, rfl, rfl⟩
  case round =>
    obtain ⟨k, hk, rfl, rfl, rfl⟩ := hrel
    obtain ⟨s1, s2, s3⟩ := HSL.out k
    by_cases hlt : k < n
    · obtain ⟨b, off, rfl, hc⟩ := hint k (by omega)
      obtain ⟨x, hx⟩ : ∃ x : Int, x = far[k] := ⟨_, rfl⟩
      have hx2 : far.getD k 0 = x := by rw [hx]; simp [List.getD, List.getElem?_eq_getElem (show k < far.length by omega)]
      have hx15 : x ≤ 15 := by rw [← hx2]; exact hrg k
      have hx0 : 0 ≤ x := by rw [← hx2]; exact h0 k
      rw [← hx] at hc
      have HF : Hid (cntF far (k + 1) = cntF far k + (if 0 < x then 1 else 0) ∧ Rf.sumF far (k + 1) = Rf.sumF far k + x) := by show _ ∧ _; rw [← hx2]; exact ⟨rfl, rfl⟩
      clear hx hx2 hrg h0 hfull hint
      by_cases hz : 0 < x
      · rw [if_pos hz] at HF
        go_wp2
        go_round
        case rel => exact ⟨k + 1, by omega, by go_num, by rw [HF.out.1]; go_num, by rw [HF.out.2]⟩
        case measure => simp [intOf]; omega
      · rw [if_neg hz] at HF
        have hx : x = 0 := by omega
        subst hx
        go_wp2
        go_round
        case rel => exact ⟨k + 1, by omega, by go_num, by rw [HF.out.1]; rfl, by rw [HF.out.2]; simp⟩
        case measure => simp [intOf]; omega
    · have hkn : k = n := by omega
      subst hkn
      rw [hn0] at HD
      clear hint
      by_cases q0 : cntF far k = 0
      · have q0' : ((cntF far k : Nat) : Int) = 0 := by omega
        go_wp2
        go_ret
        refine ⟨ret_bool ?_, rfl⟩
        rw [← HD.out]
        simp [q0]
      · have q0' : ¬ ((cntF far k : Nat) : Int) = 0 := by omega
        by_cases q1 : cntF far k = 1
        · have q1' : ((cntF far k : Nat) : Int) = 1 := by omega
          by_cases q2 : Rf.sumF far k = 1
          · go_wp2
            go_ret
            refine ⟨ret_bool ?_, rfl⟩
            rw [← HD.out]
            simp [q1, q2]
          · go_wp2_with fail
            refine hfull.mono ?_
            rintro e w' ⟨rfl, rfl⟩
            go_wp2
            go_ret
            refine ⟨ret_bool ?_, rfl⟩
            rw [← HD.out]
            simp [q1, q2]
        · have q1' : ¬ ((cntF far k : Nat) : Int) = 1 := by omega
          go_wp2_with fail
          refine hfull.mono ?_
          rintro e w' ⟨rfl, rfl⟩
          go_wp2
          go_ret
          refine ⟨ret_bool ?_, rfl⟩
          rw [← HD.out]
          simp [q0, q1]

end Go.Proofs.Ytmfijackgekioaa
