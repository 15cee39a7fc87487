import Derived.Test.YtmfijackgekioaaGreatQHj
import Derived.ProofKit
import Derived.OpenShut
import Derived.JoinedCond
import Derived.BigQuiet

/-
  Wrapped: what is wrapped comes out again; with another tail it is refused.
-/
namespace Go.Proofs.YtmfijackgekioaaGreat
open Go.ChangeShapes Go.WideShapes Go.ChangeAt Go.RowKit
open Go.ChangeMaps (open_string shut_string)

theorem nonempty_empty {P : ByteArray} (h : 0 < P.size) : P.toList.isEmpty = false := by
  rw [ByteArray.toList_eq]
  cases hl : P.data.toList with
  | nil =>
    have : P.data.toList.length = P.size := by rw [Array.length_toList]; rfl
    rw [hl] at this
    simp at this
    omega
  | cons _ _ => rfl
theorem take_list (X : ByteArray) (n : Nat) : (X.extract 0 n).data.toList = X.data.toList.take n := by
  rw [ByteArray.data_extract, Array.toList_extract, List.extract_eq_take_drop, List.drop_zero, Nat.sub_zero]

/-- What the four unwrappings answer. -/
theorem wrapped_four {P b : ByteArray} {W ks : List Int} (hP : Rf.Holds P.data.toList W) (hwh : Rf.Whole b.data.toList b.data.toList.length W ks) (more : ByteArray) (x : Nat) (hx : x < 4294967296) (hne : (x : Int) ≠ Mx.adler b.data.toList) :
    (wcode (wrapB P b) (b.size : Int) = 0 ∧ wtext (wrapB P b) (b.size : Int) = b) ∧
    (wcode ((wrapB P b).extract 0 (P.size + 2) ++ ⟨(four (x : Int)).toArray⟩) (b.size : Int) = 9 ∧ wtext ((wrapB P b).extract 0 (P.size + 2) ++ ⟨(four (x : Int)).toArray⟩) (b.size : Int) = ⟨#[]⟩) ∧
    (wcode ((wrapB P b).extract 0 (P.size + 5)) (b.size : Int) = 8 ∧ wtext ((wrapB P b).extract 0 (P.size + 5)) (b.size : Int) = ⟨#[]⟩) ∧
    (0 < more.size → wcode (wrapB P b ++ more) (b.size : Int) = 8 ∧ wtext (wrapB P b ++ more) (b.size : Int) = ⟨#[]⟩) := by
  have hPl : P.data.toList.length = P.size := by rw [Array.length_toList]; rfl
  have f4 : ∀ a, (four a).length = 4 := fun _ => rfl
  obtain ⟨a, ha⟩ : ∃ a : Nat, Mx.adler b.data.toList = (a : Int) := ⟨(Mx.adler b.data.toList).toNat, by have := adler_lt b.data.toList; omega⟩
  have ha2 : a < 4294967296 := by have := adler_lt b.data.toList; omega
  refine ⟨?_, ?_, ?_, fun hm => ?_⟩
  · have h := wrap_tail hP hwh (wrapB_list P b)
    rw [if_neg (by rw [f4]; decide), if_neg (by simp), if_pos ⟨f4 _, rfl⟩] at h
    exact h
  · have hl : ((wrapB P b).extract 0 (P.size + 2) ++ ⟨(four (x : Int)).toArray⟩ : ByteArray).data.toList = [120, 156] ++ (P.data.toList ++ four (x : Int)) := by
      rw [ByteArray.data_append, Array.toList_append, take_list, wrapB_list, ← List.append_assoc, List.take_append_of_le_length (by simp only [List.length_append, List.length_cons, List.length_nil]; omega), List.take_of_length_le (by simp only [List.length_append, List.length_cons, List.length_nil]; omega)]
      simp
    have h := wrap_tail hP hwh hl
    have hn : four (x : Int) ≠ four (Mx.adler b.data.toList) := fun e => by
      rw [ha] at e hne
      exact hne (by have := four_inj x a hx ha2 e; omega)
    rw [if_neg (by rw [f4]; decide), if_pos hn, if_neg (fun q => hn q.2)] at h
    exact h
  · have hl : ((wrapB P b).extract 0 (P.size + 5)).data.toList = [120, 156] ++ (P.data.toList ++ (four (Mx.adler b.data.toList)).take 3) := by
      rw [take_list, wrapB_list, ← List.append_assoc, List.take_append, List.take_of_length_le (by simp only [List.length_append, List.length_cons, List.length_nil]; omega), List.append_assoc]
      congr 3
      simp only [List.length_append, List.length_cons, List.length_nil]; omega
    have h := wrap_tail hP hwh hl
    have h3 : ((four (Mx.adler b.data.toList)).take 3).length = 3 := rfl
    rw [if_pos (by rw [h3]; decide), if_neg (fun q => by rw [h3] at q; exact absurd q.1 (by decide))] at h
    exact h
  · have hl : (wrapB P b ++ more).data.toList = [120, 156] ++ (P.data.toList ++ (four (Mx.adler b.data.toList) ++ more.data.toList)) := by
      rw [ByteArray.data_append, Array.toList_append, wrapB_list]
      simp
    have h := wrap_tail hP hwh hl
    have hml : more.data.toList.length = more.size := by rw [Array.length_toList]; rfl
    have h3 : (four (Mx.adler b.data.toList) ++ more.data.toList).length = 4 + more.size := by rw [List.length_append, hml, f4]
    rw [if_pos (by rw [h3]; omega), if_neg (fun q => by rw [h3] at q; omega)] at h
    exact h

set_option maxRecDepth 100000 in
set_option maxHeartbeats 4000000 in
theorem wrapped6 (b more : ByteArray) (n c : Int) (w : World) (hb : b.size ≤ 1048576) (hm : more.size ≤ 1048576) (hn : -9223372036854775808 ≤ n ∧ n ≤ 9223372036854775807) (hc : -9223372036854775808 ≤ c ∧ c ≤ 9223372036854775807) :
    Calls Tryz.prog 6 #[.string b, .int .i64 n, .int .i64 c, .string more] w fun e w' => e = .returned (.bool true) ∧ Below w.heap.size w w' := by
  obtain ⟨lv, hlv⟩ : ∃ lv : Nat, pickF n 3 = (lv : Int) := ⟨(pickF n 3).toNat, by have := pickF_range n (n := 3) (by omega); omega⟩
  have hlv2 : lv ≤ 2 := by have := pickF_range n (n := 3) (by omega); omega
  have hkn := fun v => knownK v
  have hpk := fun v => pickK n 3 v hn.1 hn.2 (by omega) (by omega)
  rw [hlv] at hpk
  obtain ⟨i, hi⟩ : ∃ i : Nat, pickF c 32 = (i : Int) := ⟨(pickF c 32).toNat, by have := pickF_range c (n := 32) (by omega); omega⟩
  have hi2 : i < 32 := by have := pickF_range c (n := 32) (by omega); omega
  have hpi := fun v => pickK c 32 v hc.1 hc.2 (by omega) (by omega)
  rw [hi] at hpi
  have hwr := fun v => wrap7 b lv v hlv2 (by omega)
  have had := fun v => adlerM b v (by unfold maxLen; omega)
  obtain ⟨a, ha⟩ : ∃ a : Nat, Mx.adler b.data.toList = (a : Int) := ⟨(Mx.adler b.data.toList).toNat, by have := adler_lt b.data.toList; omega⟩
  have ha2 : a < 4294967296 := by have := adler_lt b.data.toList; omega
  rw [ha] at had
  have hp2 : 2 ^ i < 4294967296 := by have : 2 ^ i ≤ 2 ^ 31 := Nat.pow_le_pow_right (by omega) (by omega); omega
  have hxor := i64_xor_nat a (2 ^ i) ha2 hp2
  have hxl : a ^^^ 2 ^ i < 4294967296 := Nat.xor_lt_two_pow (n := 32) ha2 hp2
  have hxn : a ^^^ 2 ^ i ≠ a := fun e => by
    have := congrArg (Nat.testBit · i) e
    simp only [Nat.testBit_xor, Nat.testBit_two_pow_self] at this
    cases h : a.testBit i <;> rw [h] at this <;> simp at this
  have HB : Hid (b.size ≤ 1048576 ∧ more.size ≤ 1048576 ∧ Mx.adler b.data.toList = (a : Int)) := ⟨hb, hm, ha⟩
  have htl := fun v => toldK (a ^^^ 2 ^ i) v hxl
  generalize hX : a ^^^ 2 ^ i = x at *
  have HP2 : Hid (2 ^ i < 4294967296) := hp2
  have hsh : (1 : Int) * 2 ^ i = ((2 ^ i : Nat) : Int) := by simp
  clear hlv hlv2 hb hm hc hn hi hX ha
  go_enter Tryz.func6, Tryz.ntmps6
  go_wp2_with fail
  refine (hkn _).mono ?_
  rintro e w1 ⟨rfl, b1⟩
  go_wp2_with fail
  refine (hpk _).mono ?_
  rintro e w2 ⟨rfl, rfl⟩
  go_wp2_with fail
  refine (hwr _).mono ?_
  rintro e w3 ⟨P, W, ks, rfl, h1, h2, h3, -, b3⟩
  have hPl : P.data.toList.length = P.size := by rw [Array.length_toList]; rfl
  have hPs := Rf.used_whole h1
  have hXz0 := wrapB_size P b
  have hPb : P.size ≤ 1100000 := by have := HB.out; omega
  have hW0 : 0 < W.length := by
    cases W with
    | cons _ _ => simp
    | nil =>
      have := h2 [] ⟨Nat.le_refl _, fun j hj => by simp at hj⟩
      have e : (Rf.inflate [] (b.data.toList.length : Int)).bad = true := rfl
      rw [this] at e
      cases e
  have hP0 : 1 ≤ P.size := by omega
  obtain ⟨⟨c1, t1⟩, ⟨c2, t2⟩, ⟨c3, t3⟩, f4⟩ := wrapped_four h1 h2 more x hxl (fun e => by rw [HB.out.2.2] at e; omega)
  have u1 := fun v => unwrap15 (wrapB P b) (b.size : Int) v (by omega) (by omega) (by have := HB.out; omega)
  have u2 := fun v => unwrap15 ((wrapB P b).extract 0 (P.size + 2) ++ ⟨(four (x : Int)).toArray⟩) (b.size : Int) v (by rw [ByteArray.size_append, ByteArray.size_extract]; show _ + 4 ≤ _; omega) (by omega) (by have := HB.out; omega)
  have u3 := fun v => unwrap15 ((wrapB P b).extract 0 (P.size + 5)) (b.size : Int) v (by rw [ByteArray.size_extract]; omega) (by omega) (by have := HB.out; omega)
  have u4 := fun v => unwrap15 (wrapB P b ++ more) (b.size : Int) v (by rw [ByteArray.size_append]; have := HB.out; omega) (by omega) (by have := HB.out; omega)
  rw [c1, t1] at u1
  rw [c2, t2] at u2
  rw [c3, t3] at u3
  have hf := fun v => fourK (wrapB P b) (P.size + 2) v (by omega) (by omega)
  rw [four_at_wrap, HB.out.2.2] at hf
  have B3 : Below w.heap.size w w3 := b1.trans (b3.mono b1.size)
  have H4 : Hid (0 < more.size → wcode (wrapB P b ++ more) (b.size : Int) = 8 ∧ wtext (wrapB P b ++ more) (b.size : Int) = ⟨#[]⟩) := f4
  have H1 : Hid (wcode (wrapB P b) (b.size : Int) = 0 ∧ wtext (wrapB P b) (b.size : Int) = b) := ⟨c1, t1⟩
  have hmb : more.size ≤ 1048576 := HB.out.2.1
  have hbb : (b.size : Int) ≤ 1048576 := by have := HB.out; omega
  clear c1 t1 c2 t2 c3 t3 f4 h1 h2 h3 hPl hPs hW0 hkn hpk hwr HB hp2
  generalize wrapB P b = X at *
  obtain ⟨m, hm⟩ : ∃ m, P.size + 2 = m := ⟨_, rfl⟩
  rw [show P.size + 5 = m + 3 by omega] at u3
  rw [hm] at u2 hf
  have hXz : X.size = m + 4 := by omega
  have hmm : m ≤ 1200000 := by omega
  have hm3 : 3 ≤ m := by omega
  clear hm hPb hP0 hXz0
  go_wp2_with fail
  refine (u1 _).mono ?_
  rintro e w4 ⟨rfl, -, b4⟩
  go_wp2_with fail
  refine (had _).mono ?_
  rintro e w5 ⟨rfl, rfl⟩
  go_wp2_with fail
  refine (hf _).mono ?_
  rintro e w6 ⟨rfl, nf, rfl⟩
  have B6 : Below w.heap.size w (w5.drewN nf) := below_drewN (B3.trans (b4.mono B3.size)) nf
  clear b4 B3 b1 b3 hf had u1
  generalize w5.drewN nf = w6 at *
  go_wp2_with fail
  refine (hpi _).mono ?_
  rintro e w7 ⟨rfl, rfl⟩
  have hS : True := trivial
  have hf4 : (four (x : Int)).length = 4 := rfl
  have B7 : Below w.heap.size w w7.drew := B6.drew
  have hs1 : IntKind.i64.wrap (m : Int) = (m : Int) := IntWalk.i64_in _ (by omega)
  have hs2 : IntKind.i64.wrap ((2 : Int) ^ i) = (2 : Int) ^ i := by
    have e : (2 : Int) ^ i = ((2 ^ i : Nat) : Int) := by simp
    have key : ∀ y : Nat, y < 4294967296 → IntKind.i64.wrap (y : Int) = (y : Int) := fun y h => IntWalk.i64_in _ (by omega)
    rw [e]
    exact key _ HP2.out
  have hxor2 : bits .xor .i64 (a : Int) ((2 : Int) ^ i) = (x : Int) := by rw [← hxor]; simp
  have hm9 : m ≤ 9223372036854775803 := by omega
  have hge : 0 ≤ (m : Int) ∧ (m : Int) ≤ (m : Int) + 4 := by omega
  clear hxor hsh
  have hmi : (m : Int) ≤ (X.size : Int) := by omega
  clear B6
  go_wp2_with fail
  refine regionZ (by kernel_rfl) (fun _ => True) 999 ?_
  generalize w7.drew = v0 at *
  refine anyZ_take (i := 0) (v := ?_) rfl (by kernel_rfl) (by kernel_rfl) (by kernel_rfl) (by kernel_rfl) (fun _ _ _ h => h) (by kernel_rfl) ?_ hS ?_
  rotate_left
  · intro w hSw; (try dsimp only at hSw); go_simp; try with_reducible rfl
  try simp only [Act.put]
  refine anyZ_take (i := 1) (v := ?_) rfl (by kernel_rfl) (by kernel_rfl) (by kernel_rfl) (by kernel_rfl) (fun _ _ _ h => h) (by kernel_rfl) ?_ hS ?_
  rotate_left
  · intro w hSw; (try dsimp only at hSw); go_simp; try with_reducible rfl
  try simp only [Act.put]
  refine anyZ_take (i := 2) (v := ?_) rfl (by kernel_rfl) (by kernel_rfl) (by kernel_rfl) (by kernel_rfl) (fun _ _ _ h => h) (by kernel_rfl) ?_ hS ?_
  rotate_left
  · intro w hSw; (try dsimp only at hSw); go_simp; try with_reducible rfl
  try simp only [Act.put]
  refine anyZ_take (i := 3) (v := ?_) rfl (by kernel_rfl) (by kernel_rfl) (by kernel_rfl) (by kernel_rfl) (fun _ _ _ h => h) (by kernel_rfl) ?_ hS ?_
  rotate_left
  · intro w hSw; (try dsimp only at hSw); go_simp; try with_reducible rfl
  try simp only [Act.put]
  refine anyZ_take (i := 4) (v := .string (X.extract 0 m)) rfl (by kernel_rfl) (by kernel_rfl) (by kernel_rfl) (by kernel_rfl) (fun _ _ _ h => h) (by kernel_rfl) ?_ hS ?_
  · intro w hSw; (try dsimp only at hSw); go_simp; try with_reducible rfl
  simp only [Act.put]
  refine anyZ_take (i := 5) (v := ?_) rfl (by kernel_rfl) (by kernel_rfl) (by kernel_rfl) (by kernel_rfl) (fun _ _ _ h => h) (by kernel_rfl) ?_ hS ?_
  rotate_left
  · intro w hSw; (try dsimp only at hSw); go_simp; try with_reducible rfl
  try simp only [Act.put]
  refine anyZ_take (i := 6) (v := ?_) rfl (by kernel_rfl) (by kernel_rfl) (by kernel_rfl) (by kernel_rfl) (fun _ _ _ h => h) (by kernel_rfl) ?_ hS ?_
  rotate_left
  · intro w hSw; (try dsimp only at hSw); go_simp; try with_reducible rfl
  try simp only [Act.put]
  refine anyZ_take (i := 7) (v := .int .i64 ((2 : Int) ^ i)) rfl (by kernel_rfl) (by kernel_rfl) (by kernel_rfl) (by kernel_rfl) (fun _ _ _ h => h) (by kernel_rfl) ?_ hS ?_
  · intro w hSw; (try dsimp only at hSw); go_simp; try with_reducible rfl
  simp only [Act.put]
  refine anyZ_take (i := 8) (v := .int .i64 (x : Int)) rfl (by kernel_rfl) (by kernel_rfl) (by kernel_rfl) (by kernel_rfl) (fun _ _ _ h => h) (by kernel_rfl) ?_ hS ?_
  · intro w hSw; (try dsimp only at hSw); go_simp; try with_reducible rfl
  simp only [Act.put]
  refine anyZ_take (i := 11) (v := ?_) rfl (by kernel_rfl) (by kernel_rfl) (by kernel_rfl) (by kernel_rfl) (fun _ _ _ h => h) (by kernel_rfl) ?_ hS ?_
  rotate_left
  · intro w hSw; (try dsimp only at hSw); go_simp; try with_reducible rfl
  try simp only [Act.put]
  refine anyZ_take (i := 12) (v := ?_) rfl (by kernel_rfl) (by kernel_rfl) (by kernel_rfl) (by kernel_rfl) (fun _ _ _ h => h) (by kernel_rfl) ?_ hS ?_
  rotate_left
  · intro w hSw; (try dsimp only at hSw); go_simp; try with_reducible rfl
  try simp only [Act.put]
  refine anyZ_one (i := 9) (by kernel_rfl) rfl (fun K hK => ?_)
  go_simp
  refine (htl _).mono ?_
  rintro e v1 ⟨rfl, hb1⟩
  refine hK _ _ (fun _ => trivial) ?_
  clear hK K
  refine anyZ_take (i := 10) (v := .string (X.extract 0 m ++ ⟨(four (x : Int)).toArray⟩)) rfl (by kernel_rfl) (by kernel_rfl) (by kernel_rfl) (by kernel_rfl) (fun _ _ _ h => h) (by kernel_rfl) ?_ hS ?_
  · intro w hSw; (try dsimp only at hSw); go_simp; try with_reducible rfl
  simp only [Act.put]
  refine anyZ_one (i := 13) (by kernel_rfl) rfl (fun K hK => ?_)
  go_simp
  refine (u2 _).mono ?_
  rintro e v2 ⟨rfl, -, hb2⟩
  refine hK _ _ (fun _ => trivial) ?_
  clear hK K
  have B2 : Below w.heap.size w v2 := (B7.trans (hb1.mono B7.size)).trans (hb2.mono (Nat.le_trans B7.size hb1.size))
  refine anyZ_take (i := 14) (v := ?_) rfl (by kernel_rfl) (by kernel_rfl) (by kernel_rfl) (by kernel_rfl) (fun _ _ _ h => h) (by kernel_rfl) ?_ hS ?_
  rotate_left
  · intro w hSw; (try dsimp only at hSw); go_simp; try with_reducible rfl
  try simp only [Act.put]
  refine anyZ_take (i := 15) (v := ?_) rfl (by kernel_rfl) (by kernel_rfl) (by kernel_rfl) (by kernel_rfl) (fun _ _ _ h => h) (by kernel_rfl) ?_ hS ?_
  rotate_left
  · intro w hSw; (try dsimp only at hSw); go_simp; try with_reducible rfl
  try simp only [Act.put]
  refine anyZ_take (i := 16) (v := ?_) rfl (by kernel_rfl) (by kernel_rfl) (by kernel_rfl) (by kernel_rfl) (fun _ _ _ h => h) (by kernel_rfl) ?_ hS ?_
  rotate_left
  · intro w hSw; (try dsimp only at hSw); go_simp; try with_reducible rfl
  try simp only [Act.put]
  refine anyZ_take (i := 17) (v := ?_) rfl (by kernel_rfl) (by kernel_rfl) (by kernel_rfl) (by kernel_rfl) (fun _ _ _ h => h) (by kernel_rfl) ?_ hS ?_
  rotate_left
  · intro w hSw; (try dsimp only at hSw); go_simp; try with_reducible rfl
  try simp only [Act.put]
  refine anyZ_take (i := 18) (v := ?_) rfl (by kernel_rfl) (by kernel_rfl) (by kernel_rfl) (by kernel_rfl) (fun _ _ _ h => h) (by kernel_rfl) ?_ hS ?_
  rotate_left
  · intro w hSw; (try dsimp only at hSw); go_simp; try with_reducible rfl
  try simp only [Act.put]
  refine anyZ_done (by kernel_rfl) ?_ _
  clear hb1 hb2 B7 htl u2 hxor2 hs2 HP2
  have hm33 : ((m : Int) + 3) ≤ (X.size : Int) := by omega
  by_cases hm0 : more.size = 0
  · have hme : more = ⟨#[]⟩ := by
      cases more with
      | mk d => rw [Array.eq_empty_of_size_eq_zero (show d.size = 0 from hm0)]
    subst hme
    have hXe : X ++ (⟨#[]⟩ : ByteArray) = X := ByteArray.append_empty
    have q1 : wcode (X ++ (⟨#[]⟩ : ByteArray)) (b.size : Int) = 0 := by rw [hXe]; exact H1.out.1
    have q2 : wtext (X ++ (⟨#[]⟩ : ByteArray)) (b.size : Int) = b := by rw [hXe]; exact H1.out.2
    rw [q1, q2] at u4
    clear H4 H1 hXe hm0 q1 q2
    go_wp2_with fail
    refine (u3 _).mono ?_
    rintro e w8 ⟨rfl, -, b8⟩
    go_wp2_with fail
    refine (u4 _).mono ?_
    rintro e w9 ⟨rfl, -, b9⟩
    have B9 : Below w.heap.size w w9 := (B2.trans (b8.mono B2.size)).trans (b9.mono (Nat.le_trans B2.size b8.size))
    go_wp2
    go_ret
    exact ⟨rfl, B9⟩
  · have hme := nonempty_empty (P := more) (by omega)
    obtain ⟨x1, x2⟩ := H4.out (by omega)
    rw [x1, x2] at u4
    clear H4 H1 hm0 x1 x2
    go_wp2_with fail
    refine (u3 _).mono ?_
    rintro e w8 ⟨rfl, -, b8⟩
    go_wp2_with fail
    refine (u4 _).mono ?_
    rintro e w9 ⟨rfl, -, b9⟩
    have B9 : Below w.heap.size w w9 := (B2.trans (b8.mono B2.size)).trans (b9.mono (Nat.le_trans B2.size b8.size))
    go_wp2
    go_ret
    exact ⟨rfl, B9⟩

theorem Tryz.ownWd : ownKnob Tryz.prog.godebug = none := by kernel_rfl

theorem shortWd {H : Type} {x0 : ByteArray} {x1 : Int} {x2 : Int} {x3 : ByteArray} (hk : Rows.uptoSmall H [.lit (.string x0.data.toList), .lit (.int .i64 x1), .lit (.int .i64 x2), .lit (.string x3.data.toList)] = true) : x0.size ≤ 1048576 ∧ x3.size ≤ 1048576 := by
  have h : Rows.uptoBulkAll [DataW.lit (H := H) (.string x0.data.toList), .lit (.int .i64 x1), .lit (.int .i64 x2), .lit (.string x3.data.toList)] ≤ 1048576 := of_decide_eq_true hk
  simp only [Rows.uptoBulkAll, Rows.uptoBulk] at h
  have ex0 : x0.data.toList.length = x0.size := by rw [Array.length_toList]; rfl
  have ex3 : x3.data.toList.length = x3.size := by rw [Array.length_toList]; rfl
  refine ⟨by omega, by omega⟩

set_option maxRecDepth 100000 in
theorem contractWd (H : Type) (enc : TypeId × Value → H) (W : World) (base : Nat) (args : Array Value) (ds gs : List (DataW H)) (before : List MemPlace)
    (hval : ∀ (j : Nat) t v, Tryz.f6.params[j]? = some t → args[j]? = some v → Value.okWide Tryz.prog W .any base t v)
    (hW : DataW.Whole enc Tryz.prog Tryz.f6.params.toList Rows.wrappedSpec.vars false W args.toList ds gs before) (hk : Rows.uptoSmall H (ds ++ gs) = true) :
    Calls Tryz.prog 6 args W fun e W' => ∃ v, e = .returned v ∧ Rows.wrappedSpec.post enc Tryz.prog Tryz.f6 false true false false W args v W' := by
  have hW' := hW
  obtain ⟨p, q, hA0, hV, rfl, hfz, hnd⟩ := hW
  have hA : DataW.TrodAll enc Tryz.prog W 0 (fun _ => true) true Tryz.f6.params.toList args.toList ds p := hA0
  rw [Tryz.params6] at hA hval
  obtain ⟨v0, vs0, d0, ds0, p0, q0, hargs, rfl, rfl, h0, r0⟩ := trodAll_cons hA
  obtain ⟨v1, vs1, d1, ds1, p1, q1, hargs1, rfl, rfl, h1, r1⟩ := trodAll_cons r0
  obtain ⟨v2, vs2, d2, ds2, p2, q2, hargs2, rfl, rfl, h2, r2⟩ := trodAll_cons r1
  obtain ⟨v3, vs3, d3, ds3, p3, q3, hargs3, rfl, rfl, h3, r3⟩ := trodAll_cons r2
  obtain ⟨rfl, rfl, rfl⟩ := trodAll_nil r3
  obtain rfl : args = #[v0, v1, v2, v3] := by cases args; simp_all
  obtain ⟨rfl, rfl⟩ := trodVars_none hV
  obtain ⟨x0, rfl, rfl, rfl, hm0⟩ := open_string Tryz.underlying9 (hval 0 9 v0 rfl rfl) h0
  obtain ⟨x1, rfl, rfl, rfl, hm1⟩ := open_int Tryz.underlying3 (hval 1 3 v1 rfl rfl) h1
  obtain ⟨x2, rfl, rfl, rfl, hm2⟩ := open_int Tryz.underlying3 (hval 2 3 v2 rfl rfl) h2
  obtain ⟨x3, rfl, rfl, rfl, hm3⟩ := open_string Tryz.underlying9 (hval 3 9 v3 rfl rfl) h3
  clear hA0
  simp only [List.append_nil] at hW' hk
  have hr1 : -9223372036854775808 ≤ x1 ∧ x1 ≤ 9223372036854775807 := by
    have h9 := hm1
    simp [Lit.wf, IntKind.min, IntKind.max, IntKind.bits, IntKind.signed] at h9
    omega
  have hr2 : -9223372036854775808 ≤ x2 ∧ x2 ≤ 9223372036854775807 := by
    have h9 := hm2
    simp [Lit.wf, IntKind.min, IntKind.max, IntKind.bits, IntKind.signed] at h9
    omega
  have hsh := shortWd hk
  refine (wrapped6 x0 x3 x1 x2 W hsh.1 hsh.2 hr1 hr2).mono fun e W' ⟨he, hg⟩ => ?_
  subst he
  exact ⟨_, rfl, _, _, _, [], [], [], hW', trodAll_cons_mk (shut_bool Tryz.underlying4 _) trodAll_mk0, trodAll_cons_mk (shut_string Tryz.underlying9 hm0) (trodAll_cons_mk (shut_int Tryz.underlying3 hm1) (trodAll_cons_mk (shut_int Tryz.underlying3 hm2) (trodAll_cons_mk (shut_string Tryz.underlying9 hm3) trodAll_mk0))), rfl, hg.frame _, fun h => by cases h⟩

set_option maxRecDepth 100000 in
theorem liftedWd (os : Os) (started : os.Started) (H : Type) (enc : TypeId × Value → H) (F : Stop.Interp) :
    ReturnsInHanded {} Tryz.checked os 6 .any ((Rows.OpenSpec.upto Rows.wrappedSpec).pre6 enc Tryz.prog Tryz.f6 Rows.wrappedUptoRow.domain false) (((Rows.OpenSpec.upto Rows.wrappedSpec).at F).post enc Tryz.prog Tryz.f6 false true false false) := by
  refine returnsInHanded_of_cond (C := Tryz.checked) (s := Rows.OpenSpec.upto Rows.wrappedSpec) (k := Rows.uptoSmall) rfl Tryz.ownWd started (by kernel_rfl) Tryz.func6
    (OpenSpec.witness (enc := enc) (C := Tryz.checked) (s := Rows.OpenSpec.upto Rows.wrappedSpec) (k := Rows.uptoSmall) rfl false ⟨#[], #[.string .empty, .int .i64 0, .int .i64 0, .string .empty], []⟩ 8 (by kernel_rfl) (by kernel_rfl) (by kernel_rfl)
      (x := ([.lit (.string []), .lit (.int .i64 0), .lit (.int .i64 0), .lit (.string [])], [], [])) (by kernel_rfl) rfl (by kernel_rfl)) ?_
  intro W base args ds gs before hval hW _ hk _
  exact contractWd H enc W base args ds gs before hval hW hk

theorem wrapped_holds : Rows.WrappedUptoSaid :=
  OpenClaim.holds_of_cond 6 Tryz.f6 rfl rfl rfl rfl rfl rfl rfl ⟨rfl, rfl, rfl, rfl, rfl⟩ rfl rfl rfl rfl rfl (by kernel_rfl) Tryz.func6 (by kernel_rfl)
    (of_decide_eq_true (by kernel_rfl)) (by unfold Func.isWrapper; first | (rw [if_pos (by decide +kernel)]; kernel_rfl) | (rw [if_neg (by decide +kernel)]; exact ⟨rfl, rfl⟩))
    (fun os started H enc _ F => liftedWd os started H enc F)

end Go.Proofs.YtmfijackgekioaaGreat
