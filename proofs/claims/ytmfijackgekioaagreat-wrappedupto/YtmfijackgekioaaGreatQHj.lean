import Derived.Test.YtmfijackgekioaaGreatQHeHk2
import Derived.Test.YtmfijackgekioaaGreatQHg

/-
  Numbers of four bytes as the statements read and write them; what is wrapped and has another tail.
-/
namespace Go.Proofs.YtmfijackgekioaaGreat
open Go.RowKit

theorem i64_xor_nat (x y : Nat) (hx : x < 4294967296) (hy : y < 4294967296) : bits .xor .i64 (x : Int) (y : Int) = ((x ^^^ y : Nat) : Int) := by
  have hz : x ^^^ y < 4294967296 := Nat.xor_lt_two_pow (n := 32) hx hy
  have key : (BitVec.ofInt 64 (x : Int) ^^^ BitVec.ofInt 64 (y : Int)).toNat = x ^^^ y := by
    rw [BitVec.toNat_xor, BitVec.toNat_ofInt, BitVec.toNat_ofInt]
    have t1 : ((y : Int) % ((2 ^ 64 : Nat) : Int)).toNat = y := by omega
    have t2 : ((x : Int) % ((2 ^ 64 : Nat) : Int)).toNat = x := by omega
    rw [t1, t2]
  show IntKind.i64.wrap ((BitVec.ofInt 64 (x : Int) ^^^ BitVec.ofInt 64 (y : Int)).toNat : Nat) = _
  rw [key, IntKind.wrap_i64]
  omega

set_option maxRecDepth 100000 in
set_option maxHeartbeats 2000000 in
theorem toldK (n : Nat) (w : World) (hn : n < 4294967296) :
    Calls Tryz.prog 17 #[.int .i64 n] w fun e w' => e = .returned (.string ⟨(four n).toArray⟩) ∧ Below w.heap.size w w' := by
  have hcv := four_string n hn w
  go_enter Tryz.func17, Tryz.ntmps17
  go_wp2
  go_ret
  exact ⟨rfl, below_alloc w _⟩

set_option maxRecDepth 100000 in
set_option maxHeartbeats 2000000 in
theorem fourK (s : ByteArray) (k : Nat) (w : World) (hs : s.size ≤ 1000000000) (hk : k + 4 ≤ s.size) :
    Calls Tryz.prog 16 #[.string s, .int .i64 k] w fun e w' => e = .returned (.int .i64 (fourAt s k)) ∧ ∃ n, w' = w.drewN n := by
  have q0 : k < s.size := by omega
  have q1 : k + 1 < s.size := by omega
  have q2 : k + 2 < s.size := by omega
  have q3 : k + 3 < s.size := by omega
  have e0 := byteAt_eq s k q0
  have e1 := byteAt_eq s (k + 1) q1
  have e2 := byteAt_eq s (k + 2) q2
  have e3 := byteAt_eq s (k + 3) q3
  have l0 := byteAt_lt s k
  have l1 := byteAt_lt s (k + 1)
  have l2 := byteAt_lt s (k + 2)
  have l3 := byteAt_lt s (k + 3)
  have HF : Hid (fourAt s k = byteAt s k * 16777216 + byteAt s (k + 1) * 65536 + byteAt s (k + 2) * 256 + byteAt s (k + 3)) := rfl
  generalize fourAt s k = V at *
  generalize byteAt s k = b0 at *
  generalize byteAt s (k + 1) = b1 at *
  generalize byteAt s (k + 2) = b2 at *
  generalize byteAt s (k + 3) = b3 at *
  have o1 := i64_or_sum ((b0 : Int) * 16777216) ((b1 : Int) * 65536) (b0 * 16777216) (b1 * 65536) 24 (by omega) (by omega) (by omega) (by omega) (by omega) (by omega)
  have o2 := i64_or_sum ((b0 : Int) * 16777216 + (b1 : Int) * 65536) ((b2 : Int) * 256) (b0 * 16777216 + b1 * 65536) (b2 * 256) 16 (by omega) (by omega) (by omega) (by omega) (by omega) (by omega)
  have o3 := i64_or_sum ((b0 : Int) * 16777216 + (b1 : Int) * 65536 + (b2 : Int) * 256) (b3 : Int) (b0 * 16777216 + b1 * 65536 + b2 * 256) b3 8 (by omega) (by omega) (by omega) (by omega) (by omega) rfl
  have O : Hid (_ ∧ _ ∧ _) := ⟨o1, o2, o3⟩
  clear o1 o2 o3
  have p0 : (k : Int) < (s.size : Int) := by omega
  have p1 : (k : Int) + 1 < (s.size : Int) := by omega
  have p2 : (k : Int) + 2 < (s.size : Int) := by omega
  have p3 : (k : Int) + 3 < (s.size : Int) := by omega
  have g1 : (0 : Int) ≤ (k : Int) + 1 := by omega
  have g2 : (0 : Int) ≤ (k : Int) + 2 := by omega
  have g3 : (0 : Int) ≤ (k : Int) + 3 := by omega
  have x1 : IntKind.i64.wrap ((k : Int) + 1) = ((k + 1 : Nat) : Int) := by rw [IntWalk.i64_in _ (by omega)]; omega
  have x2 : IntKind.i64.wrap ((k : Int) + 2) = ((k + 2 : Nat) : Int) := by rw [IntWalk.i64_in _ (by omega)]; omega
  have x3 : IntKind.i64.wrap ((k : Int) + 3) = ((k + 3 : Nat) : Int) := by rw [IntWalk.i64_in _ (by omega)]; omega
  have y0 : IntKind.i64.wrap (b0 : Int) = b0 := IntWalk.i64_in _ (by omega)
  have y1 : IntKind.i64.wrap (b1 : Int) = b1 := IntWalk.i64_in _ (by omega)
  have y2 : IntKind.i64.wrap (b2 : Int) = b2 := IntWalk.i64_in _ (by omega)
  have y3 : IntKind.i64.wrap (b3 : Int) = b3 := IntWalk.i64_in _ (by omega)
  have z0 : IntKind.i64.wrap ((b0 : Int) * 16777216) = (b0 : Int) * 16777216 := IntWalk.i64_in _ (by omega)
  have z1 : IntKind.i64.wrap ((b1 : Int) * 65536) = (b1 : Int) * 65536 := IntWalk.i64_in _ (by omega)
  have z2 : IntKind.i64.wrap ((b2 : Int) * 256) = (b2 : Int) * 256 := IntWalk.i64_in _ (by omega)
  clear hk
  go_enter Tryz.func16, Tryz.ntmps16
  go_wp2
  go_quiet (fail)
  go_wp2
  go_ret
  exact ⟨ret_int (by simp only [O.out.1, O.out.2.1, O.out.2.2]; rw [HF.out]), _, rfl⟩

set_option maxHeartbeats 400000 in
theorem adlerM (s : ByteArray) (w : World) (hs : s.size ≤ maxLen) :
    Calls Tryz.prog 15 #[.string s] w fun e w' => e = .returned (.int .i64 (Mx.adler s.data.toList)) ∧ w' = w := by
  have h := adlerP s w hs
  go_enter Tryz.func15, Tryz.ntmps15
  go_wp2_with fail
  refine h.mono ?_
  rintro e w' ⟨rfl, rfl⟩
  go_wp2
  go_ret
  exact ⟨rfl, rfl⟩

/-- What is wrapped, with another tail. -/
theorem wrap_tail {P b Y : ByteArray} {W ks : List Int} {R : List UInt8} (hP : Rf.Holds P.data.toList W) (hwh : Rf.Whole b.data.toList b.data.toList.length W ks) (hY : Y.data.toList = [120, 156] ++ (P.data.toList ++ R)) :
    wcode Y (b.size : Int) = (if R.length ≠ 4 then 8 else if R ≠ four (Mx.adler b.data.toList) then 9 else 0) ∧ wtext Y (b.size : Int) = if R.length = 4 ∧ R = four (Mx.adler b.data.toList) then b else ⟨#[]⟩ := by
  have hbl : b.data.toList.length = b.size := by rw [Array.length_toList]; rfl
  have hPl : P.data.toList.length = P.size := by rw [Array.length_toList]; rfl
  have hYl : Y.data.toList.length = Y.size := by rw [Array.length_toList]; rfl
  have hz : Y.size = P.size + R.length + 2 := by rw [← hYl, hY]; simp only [List.length_append, List.length_cons, List.length_nil]; omega
  have hPs := Rf.used_whole hP
  have hmid : (Y.extract 2 Y.size).data.toList = P.data.toList ++ R := by
    rw [ByteArray.data_extract, Array.toList_extract, List.extract_eq_take_drop, hY, List.drop_append_of_le_length (by simp)]
    rw [List.take_of_length_le (by simp; omega)]
    rfl
  have hm : mid Y (b.size : Int) = ⟨W.length, false, false, b.data.toList, ks⟩ := by
    unfold mid
    show Rf.inflate (Mx.low (Y.extract 2 Y.size).data.toList) _ = _
    rw [hmid, ← hbl]
    exact hwh _ (at_more hP)
  have h0 : byteAt Y 0 = 120 := by unfold byteAt; rw [hY]; rfl
  have h1 : byteAt Y 1 = 156 := by unfold byteAt; rw [hY]; rfl
  have hd : Y.data.toList.drop ((W.length + 7) / 8 + 2) = R := by
    rw [hY, hPs, ← List.append_assoc, List.drop_append]
    have e : P.data.toList.length + 2 - ([120, 156] ++ P.data.toList).length = 0 := by simp
    rw [e, List.drop_of_length_le (by simp), List.nil_append, List.drop_zero]
  have hc : wcode Y (b.size : Int) = (if R.length ≠ 4 then 8 else if R ≠ four (Mx.adler b.data.toList) then 9 else 0) := by
    unfold wcode
    rw [hm, h0, h1]
    rw [if_neg (by rintro (q | q); omega; exact q (by decide)), if_neg (show ¬ (false || false) = true by decide)]
    simp only
    rw [hd]
    by_cases q : R.length = 4
    · rw [if_neg (by omega), if_neg (show ¬ R.length ≠ 4 by omega)]
    · rw [if_pos (by omega), if_pos q]
  refine ⟨hc, ?_⟩
  unfold wtext
  by_cases q : R.length = 4
  · by_cases q2 : R = four (Mx.adler b.data.toList)
    · rw [if_neg (show ¬ R.length ≠ 4 by omega), if_neg (fun h => h q2)] at hc
      rw [hc, if_pos rfl, if_pos ⟨q, q2⟩, hm]
    · rw [if_neg (show ¬ R.length ≠ 4 by omega), if_pos q2] at hc
      rw [hc, if_neg (by decide), if_neg (fun h => q2 h.2)]
  · rw [if_pos q] at hc
    rw [hc, if_neg (by decide), if_neg (fun h => q h.1)]
theorem four_inj (a c : Nat) (ha : a < 4294967296) (hc : c < 4294967296) (h : four (a : Int) = four (c : Int)) : a = c := by
  have e : ∀ x y : Int, 0 ≤ x → x < 256 → 0 ≤ y → y < 256 → UInt8.ofNat x.toNat = UInt8.ofNat y.toNat → x = y := fun x y h0 h1 h2 h3 h => by
    have := congrArg UInt8.toNat h
    rw [UInt8.toNat_ofNat', UInt8.toNat_ofNat'] at this
    omega
  unfold four at h
  simp only [List.cons.injEq, and_true] at h
  have h1 := e _ _ (by omega) (by omega) (by omega) (by omega) h.1
  have h2 := e _ _ (by omega) (by omega) (by omega) (by omega) h.2.1
  have h3 := e _ _ (by omega) (by omega) (by omega) (by omega) h.2.2.1
  have h4 := e _ _ (by omega) (by omega) (by omega) (by omega) h.2.2.2
  omega
theorem four_at_wrap {P b : ByteArray} : fourAt (wrapB P b) (P.size + 2) = Mx.adler b.data.toList := by
  have hz := wrapB_size P b
  have ha := adler_lt b.data.toList
  refine (four_iff (wrapB P b) (P.size + 2) (by omega) _ ha.1 ha.2).1 ?_
  rw [wrapB_list, ← List.append_assoc, List.drop_append]
  have hPl : P.data.toList.length = P.size := by rw [Array.length_toList]; rfl
  have e : P.size + 2 - ([120, 156] ++ P.data.toList).length = 0 := by simp only [List.length_append, List.length_cons, List.length_nil]; omega
  rw [e, List.drop_of_length_le (by simp only [List.length_append, List.length_cons, List.length_nil]; omega), List.nil_append, List.drop_zero]
end Go.Proofs.YtmfijackgekioaaGreat
