import Derived.Test.YtmfijackgekioaaGreatQHbHd3
import Derived.Test.YtmfijackgekioaaGreatQHg
import Derived.Test.YtmfijackgekioaaGreatQHa
import Derived.Test.YtmfijackgekioaaGreatQGtGz2
import Derived.ProofKit
import Derived.OpenShut
import Derived.JoinedCond

/-
  Packed: what is packed comes out again; cut, or with a lesser limit, it is refused.
-/
namespace Go.Proofs.YtmfijackgekioaaGreat
open Go.ChangeShapes Go.WideShapes Go.ChangeAt Go.RowKit
open Go.ChangeMaps (open_string shut_string)

theorem low_bits (l : List UInt8) : Rf.Bits (Mx.low l) := by
  intro j
  rw [low_at]
  omega
theorem low_append (a b : List UInt8) : Mx.low (a ++ b) = Mx.low a ++ Mx.low b := by
  induction a with
  | nil => rfl
  | cons c a ih => rw [List.cons_append, Mx.low, ih, Mx.low, List.append_assoc]
theorem whole_ne {T : List UInt8} {limit : Int} {W ks : List Int} (h : Rf.Whole T limit W ks) : 0 < W.length := by
  cases W with
  | cons _ _ => simp
  | nil =>
    have := h [] ⟨Nat.le_refl _, fun j hj => by simp at hj⟩
    have e : (Rf.inflate [] limit).bad = true := rfl
    rw [this] at e
    cases e

theorem ne_nil_empty {P : ByteArray} (h : 0 < P.size) : P.toList.isEmpty = false := by
  rw [ByteArray.toList_eq]
  cases hl : P.data.toList with
  | nil =>
    have : P.data.toList.length = P.size := by rw [Array.length_toList]; rfl
    rw [hl] at this
    simp at this
    omega
  | cons _ _ => rfl
theorem answer_three (F : Rf.St) : ∃ s n e, answer F = .tuple #[.string s, .int .i64 n, .int .i64 e] := by
  unfold answer
  split
  · exact ⟨_, _, _, rfl⟩
  · exact ⟨_, _, _, rfl⟩

/-- What the three unpackings answer. -/
theorem packed_three {P b : ByteArray} {W ks : List Int} (hP : Rf.Holds P.data.toList W) (hwh : Rf.Whole b.data.toList b.data.toList.length W ks) (more : ByteArray) (k : Nat) (hk : k < P.size) :
    answer (Rf.inflate (lw (P ++ more)) (b.size : Int)) = .tuple #[.string b, .int .i64 (P.size : Int), .int .i64 0] ∧
    answer (Rf.inflate (lw (P.extract 0 k)) (b.size : Int)) = .tuple #[.string ⟨#[]⟩, .int .i64 0, .int .i64 6] ∧
    (0 < b.size → answer (Rf.inflate (lw P) ((b.size : Int) - 1)) = .tuple #[.string ⟨#[]⟩, .int .i64 0, .int .i64 7]) := by
  have hbl : b.data.toList.length = b.size := by rw [Array.length_toList]; rfl
  have hPl : P.data.toList.length = P.size := by rw [Array.length_toList]; rfl
  have hPs := Rf.used_whole hP
  have h0 : Rf.inflate (lw P) (b.size : Int) = ⟨W.length, false, false, b.data.toList, ks⟩ := by
    rw [← hbl]; exact Rf.inflate_whole hwh hP
  refine ⟨?_, ?_, ?_⟩
  · have h1 : Rf.inflate (lw (P ++ more)) (b.size : Int) = ⟨W.length, false, false, b.data.toList, ks⟩ := by
      rw [← hbl]
      refine hwh _ ?_
      show Rf.At (Mx.low (P ++ more).data.toList) 0 W
      rw [ByteArray.data_append, Array.toList_append]
      exact at_more hP
    rw [h1]
    unfold answer
    rw [if_neg (show ¬ (false || false) = true by decide), hPs, hPl]
  · have hsp : lw P = lw (P.extract 0 k) ++ Mx.low (P.data.toList.drop k) := by
      show Mx.low P.data.toList = Mx.low (P.extract 0 k).data.toList ++ _
      rw [← low_append, ByteArray.data_extract, Array.toList_extract, List.extract_eq_take_drop]
      simp
    have hln : (lw (P.extract 0 k)).length = 8 * k := by
      show (Mx.low (P.extract 0 k).data.toList).length = _
      rw [Mx.low_length, Array.length_toList]
      have : (P.extract 0 k).data.size = (P.extract 0 k).size := rfl
      rw [this, ByteArray.size_extract]
      omega
    rw [hsp] at h0
    obtain ⟨hb, hf⟩ := Rf.inflate_cut (low_bits _) h0 (by rw [hln]; omega)
    unfold answer code
    rw [hb, hf]
    rfl
  · intro hb0
    have hf := Rf.inflate_lim (l1 := (b.size : Int) - 1) (by omega) h0 (by omega) (by omega)
    unfold answer code
    rw [hf]
    simp

set_option maxRecDepth 100000 in
set_option maxHeartbeats 4000000 in
theorem packed4 (b more : ByteArray) (n c : Int) (w : World) (hb : b.size ≤ 1048576) (hm : more.size ≤ 1048576) (hn : -9223372036854775808 ≤ n ∧ n ≤ 9223372036854775807) (hc : -9223372036854775808 ≤ c ∧ c ≤ 9223372036854775807) :
    Calls Tryz.prog 4 #[.string b, .int .i64 n, .string more, .int .i64 c] w fun e w' => e = .returned (.bool true) ∧ Below w.heap.size w w' := by
  obtain ⟨lv, hlv⟩ : ∃ lv : Nat, pickF n 3 = (lv : Int) := ⟨(pickF n 3).toNat, by have := pickF_range n (n := 3) (by omega); omega⟩
  have hlv2 : lv ≤ 2 := by have := pickF_range n (n := 3) (by omega); omega
  have hkn := fun v => knownK v
  have hpk := fun v => pickK n 3 v hn.1 hn.2 (by omega) (by omega)
  rw [hlv] at hpk
  have hdf := fun v => deflate13 b lv v hlv2 (by omega)
  have HB : Hid (b.size ≤ 1048576 ∧ more.size ≤ 1048576 ∧ (-9223372036854775808 ≤ c ∧ c ≤ 9223372036854775807)) := ⟨hb, hm, hc⟩
  clear hlv hlv2 hb hm hc hn
  go_enter Tryz.func4, Tryz.ntmps4
  go_wp2_with fail
  refine (hkn _).mono ?_
  rintro e w1 ⟨rfl, b1⟩
  go_wp2_with fail
  refine (hpk _).mono ?_
  rintro e w2 ⟨rfl, rfl⟩
  go_wp2_with fail
  refine (hdf _).mono ?_
  rintro e w3 ⟨P, W, ks, rfl, h1, h2, h3, -, -, b3⟩
  have hPl : P.data.toList.length = P.size := by rw [Array.length_toList]; rfl
  have hPs := Rf.used_whole h1
  have hW0 := whole_ne h2
  have hP0 : 0 < P.size := by omega
  have hPe : P.toList.isEmpty = false := ne_nil_empty hP0
  have hPb : P.size ≤ 1100000 := by have := HB.out; omega
  have hpk2 := fun v => pickK c (P.size : Int) v HB.out.2.2.1 HB.out.2.2.2 (by omega) (by omega)
  obtain ⟨k, hk⟩ : ∃ k : Nat, pickF c (P.size : Int) = (k : Int) := ⟨(pickF c (P.size : Int)).toNat, by have := pickF_range c (n := (P.size : Int)) (by omega); omega⟩
  have hk2 : k < P.size := by have := pickF_range c (n := (P.size : Int)) (by omega); omega
  rw [hk] at hpk2
  have i1 := fun v => inflate11 (P ++ more) (b.size : Int) v (by rw [ByteArray.size_append]; have := HB.out; omega) (by omega) (by have := HB.out; omega)
  have i2 := fun v => inflate11 (P.extract 0 k) (b.size : Int) v (by rw [ByteArray.size_extract]; omega) (by omega) (by have := HB.out; omega)
  have i3 := fun v => inflate11 P ((b.size : Int) - 1) v (by omega) (by omega) (by have := HB.out; omega)
  obtain ⟨t1, t2, t3⟩ := packed_three h1 h2 more k hk2
  rw [t1] at i1
  rw [t2] at i2
  have hki : (k : Int) ≤ (P.size : Int) := by omega
  have hbs : (b.size : Int) ≤ 1048576 := by have := HB.out; omega
  have hcat : P.size + more.size ≤ maxLen := by unfold maxLen; have := HB.out; omega
  have B3 : Below w.heap.size w w3 := b1.trans (b3.mono b1.size)
  have HT3 : Hid (0 < b.size → answer (Rf.inflate (lw P) ((b.size : Int) - 1)) = .tuple #[.string ⟨#[]⟩, .int .i64 0, .int .i64 7]) := t3
  clear t1 t2 t3 h1 h2 h3 hPl hPs hW0 hk hk2 hkn hpk hdf hcat
  have hms : more.size ≤ 1048576 := HB.out.2.1
  by_cases hb0 : b.size = 0
  · have hbe : b = ⟨#[]⟩ := by
      cases b with
      | mk d => rw [Array.eq_empty_of_size_eq_zero (show d.size = 0 from hb0)]
    clear HT3 hb0 hbs HB
    subst hbe
    obtain ⟨s3, n3, e3, ha3⟩ := answer_three (Rf.inflate (lw P) (((⟨#[]⟩ : ByteArray).size : Int) - 1))
    rw [ha3] at i3
    clear ha3
    simp only [show ((⟨#[]⟩ : ByteArray).size : Int) = 0 from rfl] at i1 i2 i3
    go_wp2_with fail
    refine (i1 _).mono ?_
    rintro e w4 ⟨rfl, b4⟩
    go_wp2_with fail
    refine (hpk2 _).mono ?_
    rintro e w5 ⟨rfl, rfl⟩
    go_wp2_with fail
    refine (i2 _).mono ?_
    rintro e w6 ⟨rfl, b6⟩
    go_wp2_with fail
    refine (i3 _).mono ?_
    rintro e w7 ⟨rfl, b7⟩
    have B7 : Below w.heap.size w w7 := (B3.trans (b4.mono B3.size)).trans ((b6.trans (b7.mono b6.size)).mono (Nat.le_trans B3.size b4.size))
    go_wp2
    go_ret
    exact ⟨rfl, B7⟩
  · have e3 := HT3.out (by omega)
    rw [e3] at i3
    have hbe : b.toList.isEmpty = false := ne_nil_empty (by omega)
    clear e3 HT3 HB
    go_wp2_with fail
    refine (i1 _).mono ?_
    rintro e w4 ⟨rfl, b4⟩
    go_wp2_with fail
    refine (hpk2 _).mono ?_
    rintro e w5 ⟨rfl, rfl⟩
    go_wp2_with fail
    refine (i2 _).mono ?_
    rintro e w6 ⟨rfl, b6⟩
    go_wp2_with fail
    refine (i3 _).mono ?_
    rintro e w7 ⟨rfl, b7⟩
    have B7 : Below w.heap.size w w7 := (B3.trans (b4.mono B3.size)).trans ((b6.trans (b7.mono b6.size)).mono (Nat.le_trans B3.size b4.size))
    go_wp2
    go_ret
    exact ⟨rfl, B7⟩
theorem Tryz.ownPk : ownKnob Tryz.prog.godebug = none := by kernel_rfl

theorem shortPk {H : Type} {x0 : ByteArray} {x1 : Int} {x2 : ByteArray} {x3 : Int} (hk : Rows.uptoSmall H [.lit (.string x0.data.toList), .lit (.int .i64 x1), .lit (.string x2.data.toList), .lit (.int .i64 x3)] = true) : x0.size ≤ 1048576 ∧ x2.size ≤ 1048576 := by
  have h : Rows.uptoBulkAll [DataW.lit (H := H) (.string x0.data.toList), .lit (.int .i64 x1), .lit (.string x2.data.toList), .lit (.int .i64 x3)] ≤ 1048576 := of_decide_eq_true hk
  simp only [Rows.uptoBulkAll, Rows.uptoBulk] at h
  have ex0 : x0.data.toList.length = x0.size := by rw [Array.length_toList]; rfl
  have ex2 : x2.data.toList.length = x2.size := by rw [Array.length_toList]; rfl
  refine ⟨by omega, by omega⟩

set_option maxRecDepth 100000 in
theorem contractPk (H : Type) (enc : TypeId × Value → H) (W : World) (base : Nat) (args : Array Value) (ds gs : List (DataW H)) (before : List MemPlace)
    (hval : ∀ (j : Nat) t v, Tryz.f4.params[j]? = some t → args[j]? = some v → Value.okWide Tryz.prog W .any base t v)
    (hW : DataW.Whole enc Tryz.prog Tryz.f4.params.toList Rows.packedSpec.vars false W args.toList ds gs before) (hk : Rows.uptoSmall H (ds ++ gs) = true) :
    Calls Tryz.prog 4 args W fun e W' => ∃ v, e = .returned v ∧ Rows.packedSpec.post enc Tryz.prog Tryz.f4 false true false false W args v W' := by
  have hW' := hW
  obtain ⟨p, q, hA0, hV, rfl, hfz, hnd⟩ := hW
  have hA : DataW.TrodAll enc Tryz.prog W 0 (fun _ => true) true Tryz.f4.params.toList args.toList ds p := hA0
  rw [Tryz.params4] at hA hval
  obtain ⟨v0, vs0, d0, ds0, p0, q0, hargs, rfl, rfl, h0, r0⟩ := trodAll_cons hA
  obtain ⟨v1, vs1, d1, ds1, p1, q1, hargs1, rfl, rfl, h1, r1⟩ := trodAll_cons r0
  obtain ⟨v2, vs2, d2, ds2, p2, q2, hargs2, rfl, rfl, h2, r2⟩ := trodAll_cons r1
  obtain ⟨v3, vs3, d3, ds3, p3, q3, hargs3, rfl, rfl, h3, r3⟩ := trodAll_cons r2
  obtain ⟨rfl, rfl, rfl⟩ := trodAll_nil r3
  obtain rfl : args = #[v0, v1, v2, v3] := by cases args; simp_all
  obtain ⟨rfl, rfl⟩ := trodVars_none hV
  obtain ⟨x0, rfl, rfl, rfl, hm0⟩ := open_string Tryz.underlying9 (hval 0 9 v0 rfl rfl) h0
  obtain ⟨x1, rfl, rfl, rfl, hm1⟩ := open_int Tryz.underlying3 (hval 1 3 v1 rfl rfl) h1
  obtain ⟨x2, rfl, rfl, rfl, hm2⟩ := open_string Tryz.underlying9 (hval 2 9 v2 rfl rfl) h2
  obtain ⟨x3, rfl, rfl, rfl, hm3⟩ := open_int Tryz.underlying3 (hval 3 3 v3 rfl rfl) h3
  clear hA0
  simp only [List.append_nil] at hW' hk
  have hr1 : -9223372036854775808 ≤ x1 ∧ x1 ≤ 9223372036854775807 := by
    have h9 := hm1
    simp [Lit.wf, IntKind.min, IntKind.max, IntKind.bits, IntKind.signed] at h9
    omega
  have hr3 : -9223372036854775808 ≤ x3 ∧ x3 ≤ 9223372036854775807 := by
    have h9 := hm3
    simp [Lit.wf, IntKind.min, IntKind.max, IntKind.bits, IntKind.signed] at h9
    omega
  have hsh := shortPk hk
  refine (packed4 x0 x2 x1 x3 W hsh.1 hsh.2 hr1 hr3).mono fun e W' ⟨he, hg⟩ => ?_
  subst he
  exact ⟨_, rfl, _, _, _, [], [], [], hW', trodAll_cons_mk (shut_bool Tryz.underlying4 _) trodAll_mk0, trodAll_cons_mk (shut_string Tryz.underlying9 hm0) (trodAll_cons_mk (shut_int Tryz.underlying3 hm1) (trodAll_cons_mk (shut_string Tryz.underlying9 hm2) (trodAll_cons_mk (shut_int Tryz.underlying3 hm3) trodAll_mk0))), rfl, hg.frame _, fun h => by cases h⟩

set_option maxRecDepth 100000 in
theorem liftedPk (os : Os) (started : os.Started) (H : Type) (enc : TypeId × Value → H) (F : Stop.Interp) :
    ReturnsInHanded {} Tryz.checked os 4 .any ((Rows.OpenSpec.upto Rows.packedSpec).pre6 enc Tryz.prog Tryz.f4 Rows.packedUptoRow.domain false) (((Rows.OpenSpec.upto Rows.packedSpec).at F).post enc Tryz.prog Tryz.f4 false true false false) := by
  refine returnsInHanded_of_cond (C := Tryz.checked) (s := Rows.OpenSpec.upto Rows.packedSpec) (k := Rows.uptoSmall) rfl Tryz.ownPk started (by kernel_rfl) Tryz.func4
    (OpenSpec.witness (enc := enc) (C := Tryz.checked) (s := Rows.OpenSpec.upto Rows.packedSpec) (k := Rows.uptoSmall) rfl false ⟨#[], #[.string .empty, .int .i64 0, .string .empty, .int .i64 0], []⟩ 8 (by kernel_rfl) (by kernel_rfl) (by kernel_rfl)
      (x := ([.lit (.string []), .lit (.int .i64 0), .lit (.string []), .lit (.int .i64 0)], [], [])) (by kernel_rfl) rfl (by kernel_rfl)) ?_
  intro W base args ds gs before hval hW _ hk _
  exact contractPk H enc W base args ds gs before hval hW hk

theorem packed_holds : Rows.PackedUptoSaid :=
  OpenClaim.holds_of_cond 4 Tryz.f4 rfl rfl rfl rfl rfl rfl rfl ⟨rfl, rfl, rfl, rfl, rfl⟩ rfl rfl rfl rfl rfl (by kernel_rfl) Tryz.func4 (by kernel_rfl)
    (of_decide_eq_true (by kernel_rfl)) (by unfold Func.isWrapper; first | (rw [if_pos (by decide +kernel)]; kernel_rfl) | (rw [if_neg (by decide +kernel)]; exact ⟨rfl, rfl⟩))
    (fun os started H enc _ F => liftedPk os started H enc F)

end Go.Proofs.YtmfijackgekioaaGreat
