/-
  Small: what repeats is packed small.
-/
import Derived.Test.YtmfijackgekioaaGreatQJc
import Derived.Test.YtmfijackgekioaaGreatQHg
import Derived.Test.YtmfijackgekioaaGreatQGtGz2
import Derived.ProofKit
import Derived.OpenShut
import Derived.JoinedCond
import Derived.ChangeSame
import Derived.JoinedOf
import Derived.JoinedAt
namespace Go.Proofs.YtmfijackgekioaaGreat
open Go.ChangeShapes Go.WideShapes Go.ChangeAt Go.RowKit
open Go.ChangeMaps (open_string shut_string)

/-- A piece over and over. -/
def repB (pc : ByteArray) : Nat → ByteArray
  | 0 => ⟨#[]⟩
  | k + 1 => repB pc k ++ pc
theorem repB_size (pc : ByteArray) : ∀ k, (repB pc k).size = k * pc.size
  | 0 => by rw [Nat.zero_mul]; rfl
  | k + 1 => by rw [repB, ByteArray.size_append, repB_size pc k, Nat.add_mul, Nat.one_mul]
theorem repB_get (pc : ByteArray) : ∀ k i, i < k * pc.size → (repB pc k).data.toList.getD i 0 = pc.data.toList.getD (i % pc.size) 0
  | 0, i, h => by simp at h
  | k + 1, i, h => by
    have hl : (repB pc k).data.toList.length = k * pc.size := by rw [Array.length_toList]; exact repB_size pc k
    rw [repB, ByteArray.data_append, Array.toList_append, List.getD_eq_getElem?_getD]
    by_cases hi : i < k * pc.size
    · rw [List.getElem?_append_left (by omega), ← List.getD_eq_getElem?_getD, repB_get pc k i hi]
    · rw [Nat.add_mul, Nat.one_mul] at h
      rw [List.getElem?_append_right (by omega), hl, ← List.getD_eq_getElem?_getD]
      congr 1
      have e : i = (i - k * pc.size) + pc.size * k := by rw [Nat.mul_comm pc.size k]; omega
      have e2 : i % pc.size = i - k * pc.size := by
        rw [e, Nat.add_mul_mod_self_left, Nat.mod_eq_of_lt (by omega)]
        rw [← e]
      exact e2.symm
theorem repB_per (pc : ByteArray) (k : Nat) : Rf.Per (repB pc k).data.toList pc.size := by
  intro i hi
  have hl : (repB pc k).data.toList.length = k * pc.size := by rw [Array.length_toList]; exact repB_size pc k
  rw [hl] at hi
  rw [repB_get pc k i (by omega), repB_get pc k (i + pc.size) hi, Nat.add_mod_right]

theorem ne_empty2 {P : ByteArray} (h : P ≠ ⟨#[]⟩) : P.toList.isEmpty = false := by
  rw [ByteArray.toList_eq]
  cases hl : P.data.toList with
  | nil =>
    refine absurd ?_ h
    cases P with
    | mk d =>
      congr 1
      exact Array.toList_inj.1 hl
  | cons _ _ => rfl

/-- What the laws ask of the sizes. -/
theorem small_size {b P : ByteArray} {W : List Int} {q m : Nat} (hq : 1 ≤ q) (hq2 : q ≤ 20000) (hb : b.size ≤ 119999) (hper : Rf.Per b.data.toList q) (hP : Rf.Holds P.data.toList W)
    (hc : ∃ per, PerOk b per ∧ (Rf.Per b.data.toList per → per ≤ 32768 → W.length ≤ 11 * per + 31 + 26 * (b.size / 258) + 41 * (b.size / 65535 + 1))) (hm : m = b.size) : P.size ≤ 2 * q + 50 + m / 50 := by
  obtain ⟨per, hpo, h⟩ := hc
  obtain ⟨h1, h2⟩ := Rf.per_whole hper hq (by omega) hpo.2
  have h3 := h h1 (by omega)
  have h4 := Rf.used_whole hP
  have h5 : P.data.toList.length = P.size := by rw [Array.length_toList]; rfl
  subst hm
  omega

set_option maxRecDepth 100000 in
set_option maxHeartbeats 4000000 in
theorem small5 (piece : ByteArray) (n c : Int) (w : World) (hn : -9223372036854775808 ≤ n ∧ n ≤ 9223372036854775807) (hc : -9223372036854775808 ≤ c ∧ c ≤ 9223372036854775807) :
    Calls Tryz.prog 5 #[.string piece, .int .i64 n, .int .i64 c] w fun e w' => e = .returned (.bool true) ∧ Below w.heap.size w w' := by
  have hkn := fun v => knownK v
  obtain ⟨tm, htm⟩ : ∃ tm : Nat, pickF n 200 = (tm : Int) := ⟨(pickF n 200).toNat, by have := pickF_range n (n := 200) (by omega); omega⟩
  have htm2 : tm < 200 := by have := pickF_range n (n := 200) (by omega); omega
  have hpk := fun v => pickK n 200 v hn.1 hn.2 (by omega) (by omega)
  rw [htm] at hpk
  obtain ⟨lv, hlv⟩ : ∃ lv : Nat, pickF c 2 = (lv : Int) := ⟨(pickF c 2).toNat, by have := pickF_range c (n := 2) (by omega); omega⟩
  have hlv2 : lv < 2 := by have := pickF_range c (n := 2) (by omega); omega
  have hpk2 := fun v => pickK c 2 v hc.1 hc.2 (by omega) (by omega)
  rw [hlv] at hpk2
  clear htm hlv hn hc
  obtain ⟨pc, hpc⟩ : ∃ pc : ByteArray, pc = if piece = ⟨#[]⟩ then ⟨#[97]⟩ else if 20000 < piece.size then piece.extract 0 20000 else piece := ⟨_, rfl⟩
  have HPC : Hid (1 ≤ pc.size ∧ pc.size ≤ 20000) := by
    show _ ∧ _
    rw [hpc]
    split
    · decide
    · rename_i h0
      split
      · rw [ByteArray.size_extract]; omega
      · refine ⟨Nat.one_le_iff_ne_zero.2 fun e => h0 ?_, by omega⟩
        cases piece with
        | mk d => rw [Array.eq_empty_of_size_eq_zero (show d.size = 0 from e)]
  go_enter Tryz.func5, Tryz.ntmps5
  go_wp2_with fail
  refine (hkn _).mono ?_
  rintro e w1 ⟨rfl, b1⟩
  clear hkn
  have hc3 : piece = ⟨#[]⟩ ∨ (piece ≠ ⟨#[]⟩ ∧ 20000 < piece.size) ∨ (piece ≠ ⟨#[]⟩ ∧ ¬ 20000 < piece.size) := by
    by_cases h0 : piece = ⟨#[]⟩
    · exact .inl h0
    · by_cases h1 : 20000 < piece.size
      · exact .inr (.inl ⟨h0, h1⟩)
      · exact .inr (.inr ⟨h0, h1⟩)
  rcases hc3 with h0 | ⟨h0, h1⟩ | ⟨h0, h1⟩
  case' inl =>
    rw [if_pos h0] at hpc
    subst h0
    go_wp2_with fail
    rw [← hpc]
  case' inr.inl =>
    rw [if_neg h0, if_pos h1] at hpc
    have hpe : piece.toList.isEmpty = false := ne_empty2 h0
    have h1i : (piece.size : Int) > 20000 := by omega
    have h1j : (20000 : Int) ≤ (piece.size : Int) := by omega
    go_wp2_with fail
    rw [← hpc]
  case' inr.inr =>
    rw [if_neg h0, if_neg h1] at hpc
    have hpe : piece.toList.isEmpty = false := ne_empty2 h0
    have h1i : ¬ (piece.size : Int) > 20000 := by omega
    subst hpc
    go_wp2_with fail
  all_goals
    try clear hpc
    refine (hpk _).mono ?_
    rintro e w2 ⟨rfl, rfl⟩
    have HB1 : Hid (Below w.heap.size w w2) := b1
    clear hpk b1
    go_wp2
    go_loop [9, 10] (fun bv iv => ∃ k : Nat, k ≤ 1 + tm ∧ iv = .int .i64 k ∧ bv = .string (repB pc k) ∧ (k = 0 ∨ (k - 1) * pc.size < 100000)) (fun _ iv => 1 + tm - (intOf iv).toNat)
    case atStart => exact ⟨0, by omega, rfl, rfl, .inl rfl⟩
    case round =>
      obtain ⟨k, hk, rfl, rfl, hks⟩ := hrel
      have hsz := repB_size pc k
      have hM : k * pc.size ≤ 119999 := by
        have := HPC.out
        rcases hks with rfl | hks
        · omega
        · by_cases h0 : k = 0
          · subst h0; omega
          · have e : k * pc.size = (k - 1) * pc.size + pc.size := by
              rw [← Nat.succ_mul]
              congr 1
              omega
            omega
      have HPR : Hid (Rf.Per (repB pc k).data.toList pc.size) := repB_per pc k
      by_cases hc : k < 1 + tm ∧ (repB pc k).size < 100000
      · obtain ⟨c1, c2⟩ := hc
        have HC2 : Hid (k * pc.size < 100000) := by show _ < _; omega
        have hsm : (repB pc k).size + pc.size ≤ 200000 := by have := HPC.out; omega
        have hpcb : pc.size ≤ 20000 := HPC.out.2
        have c1i : (k : Int) < 1 + (tm : Int) := by omega
        have c2i : ((repB pc k).size : Int) < 100000 := by omega
        clear hsz
        go_wp2
        go_round
        case rel => exact ⟨k + 1, by omega, by go_num, rfl, .inr (by rw [Nat.add_sub_cancel]; exact HC2.out)⟩
        case measure => simp [intOf]; omega
      · have hk1 : 1 ≤ k := by
          refine Nat.one_le_iff_ne_zero.2 fun e => hc ?_
          subst e
          exact ⟨by omega, by rw [hsz]; omega⟩
        have hT1 : 1 ≤ (repB pc k).size := by
          rw [hsz]
          exact Nat.mul_pos (by omega) HPC.out.1
        have hT2 : (repB pc k).size ≤ 119999 := by omega
        have hc' : ¬ (k < 1 + tm) ∨ ¬ ((repB pc k).size < 100000) := by
          by_cases h : k < 1 + tm
          · exact .inr (fun h2 => hc ⟨h, h2⟩)
          · exact .inl h
        clear hsz hc hM hks
        generalize repB pc k = T at *
        have HT : Hid (1 ≤ T.size ∧ T.size ≤ 119999) := ⟨hT1, hT2⟩
        have hdf1 := fun v => deflate13 T (1 + lv) v (by omega) (by omega)
        have hdf0 := fun v => deflate13 T 0 v (by omega) (by omega)
        rw [show ((1 + lv : Nat) : Int) = 1 + (lv : Int) by omega] at hdf1
        rw [show ((0 : Nat) : Int) = 0 from rfl] at hdf0
        have hTi : (T.size : Int) ≤ 119999 := by omega
        have hcc : (k : Int) < 1 + (tm : Int) ∧ ¬ (T.size : Int) < 100000 ∨ ¬ (k : Int) < 1 + (tm : Int) := by omega
        clear hc' hT1 hT2
        rcases hcc with ⟨x1, x2⟩ | x1
        all_goals
          go_wp2_with fail
          refine (hpk2 _).mono ?_
          rintro e w3 ⟨rfl, rfl⟩
          go_wp2_with fail
          refine (hdf1 _).mono ?_
          rintro e w4 ⟨P, W, ks, rfl, g1, g2, g3, -, g5, b4⟩
          have hP1 := small_size HPC.out.1 HPC.out.2 HT.out.2 HPR.out g1 (g5 (by omega)) rfl
          have hPl : P.data.toList.length = P.size := by rw [Array.length_toList]; rfl
          have hTl : T.data.toList.length = T.size := by rw [Array.length_toList]; rfl
          have hPs := Rf.used_whole g1
          have hPb : P.size ≤ 1000000 := by have := HT.out; omega
          have hin := fun v => inflate11 P (T.size : Int) v (by omega) (by omega) (by omega)
          have hir : Rf.inflate (lw P) (T.size : Int) = ⟨W.length, false, false, T.data.toList, ks⟩ := by rw [← hTl]; exact Rf.inflate_whole g2 g1
          rw [hir] at hin
          have ea : answer ⟨W.length, false, false, T.data.toList, ks⟩ = .tuple #[.string T, .int .i64 (P.size : Int), .int .i64 0] := by
            unfold answer
            rw [if_neg (show ¬ (false || false) = true by decide), hPs, hPl]
          rw [ea] at hin
          have hp1i : (P.size : Int) ≤ 2 * (pc.size : Int) + 50 + (T.size : Int) / 50 := by omega
          have B4 : Hid (Below w.heap.size w w4) := HB1.out.trans (b4.mono HB1.out.size)
          clear ea hir g1 g2 g3 g5 hPl hTl hPs hP1 b4 hdf1
          go_wp2_with fail
          refine (hdf0 _).mono ?_
          rintro e w5 ⟨Q, W0, ks0, rfl, q1, q2, q3, q4, -, b5⟩
          have hTl : T.data.toList.length = T.size := by rw [Array.length_toList]; rfl
          have hQl : Q.data.toList.length = Q.size := by rw [Array.length_toList]; rfl
          have hQs := Rf.used_whole q1
          have hst := Rf.stored_longer (Rf.inflate_whole q2 q1) (fun x hx => by have := q4 x hx; omega)
          have hq1i : (Q.size : Int) ≤ (T.size : Int) + 5 + 5 * ((T.size : Int) / 65535) := by omega
          have hq2i : (Q.size : Int) > (T.size : Int) := by omega
          have B5 : Hid (Below w.heap.size w w5) := B4.out.trans (b5.mono B4.out.size)
          have hpcb : (pc.size : Int) ≤ 20000 := by have := HPC.out; omega
          have hQb : (Q.size : Int) ≤ 1000000 := by omega
          clear q1 q2 q3 q4 hTl hQl hQs hst b5 hdf0
          go_wp2_with fail
          refine (hin _).mono ?_
          rintro e w6 ⟨rfl, b6⟩
          have B6 : Below w.heap.size w w6 := B5.out.trans (b6.mono B5.out.size)
          clear b6 hin
          go_wp2
          go_ret
          exact ⟨rfl, B6⟩

theorem Tryz.ownSm : ownKnob Tryz.prog.godebug = none := by kernel_rfl

set_option maxRecDepth 100000 in
theorem liftedSf (os : Os) (started : os.Started) (H : Type) (enc : TypeId × Value → H) :
    ReturnsInHanded {} Tryz.checked os 5 .any (Rows.smallSpec.pre6 enc Tryz.prog Tryz.f5 Rows.smallRow.domain false) (Rows.smallSpec.post enc Tryz.prog Tryz.f5 false true false false) := by
  refine returnsInHanded_of_change (C := Tryz.checked) Tryz.ownSm started (by kernel_rfl) Tryz.func5
    (ChangeSpec.witness6 (enc := enc) (C := Tryz.checked) false ⟨#[], #[.string .empty, .int .i64 0, .int .i64 0], []⟩ 8 (by kernel_rfl) (by kernel_rfl) (by kernel_rfl) (by kernel_rfl)) ?_
  intro W base args ds gs before hval0 hW hcnd _
  have hval : ∀ (j : Nat) t v, Tryz.f5.params[j]? = some t → args[j]? = some v → Value.okWide Tryz.prog W .any base t v := hval0
  have hW' := hW
  obtain ⟨p, q, hA0, hV, rfl, hfz, hnd⟩ := hW
  have hA : DataW.TrodAll enc Tryz.prog W 0 (fun _ => true) true Tryz.f5.params.toList args.toList ds p := hA0
  rw [Tryz.params5] at hA hval
  obtain ⟨v0, vs0, d0, ds0, p0, q0, hargs, rfl, rfl, h0, r0⟩ := trodAll_cons hA
  obtain ⟨v1, vs1, d1, ds1, p1, q1, hargs1, rfl, rfl, h1, r1⟩ := trodAll_cons r0
  obtain ⟨v2, vs2, d2, ds2, p2, q2, hargs2, rfl, rfl, h2, r2⟩ := trodAll_cons r1
  obtain ⟨rfl, rfl, rfl⟩ := trodAll_nil r2
  obtain rfl : args = #[v0, v1, v2] := by cases args; simp_all
  obtain ⟨rfl, rfl⟩ := trodVars_none hV
  obtain ⟨x0, rfl, rfl, rfl, hm0⟩ := open_string Tryz.underlying9 (hval 0 9 v0 rfl rfl) h0
  obtain ⟨x1, rfl, rfl, rfl, hm1⟩ := open_int Tryz.underlying3 (hval 1 3 v1 rfl rfl) h1
  obtain ⟨x2, rfl, rfl, rfl, hm2⟩ := open_int Tryz.underlying3 (hval 2 3 v2 rfl rfl) h2
  clear hA0
  simp only [List.append_nil] at hW'
  have hr1 : -9223372036854775808 ≤ x1 ∧ x1 ≤ 9223372036854775807 := by
    have h9 := hm1
    simp [Lit.wf, IntKind.min, IntKind.max, IntKind.bits, IntKind.signed] at h9
    omega
  have hr2 : -9223372036854775808 ≤ x2 ∧ x2 ≤ 9223372036854775807 := by
    have h9 := hm2
    simp [Lit.wf, IntKind.min, IntKind.max, IntKind.bits, IntKind.signed] at h9
    omega
  refine (small5 x0 x1 x2 W hr1 hr2).mono fun e W' ⟨he, hg⟩ => ?_
  subst he
  exact ⟨_, rfl, _, _, _, [], [], [], hW', trodAll_cons_mk (shut_bool Tryz.underlying4 _) trodAll_mk0, trodAll_cons_mk (shut_string Tryz.underlying9 hm0) (trodAll_cons_mk (shut_int Tryz.underlying3 hm1) (trodAll_cons_mk (shut_int Tryz.underlying3 hm2) trodAll_mk0)), rfl, hg.frame _, fun h => by cases h⟩

theorem small_all : Rows.SmallSaid :=
  OpenClaim.holds_of_wide 5 Tryz.f5 rfl rfl rfl rfl rfl rfl rfl ⟨rfl, rfl, rfl, rfl, rfl⟩ rfl rfl rfl rfl rfl (by kernel_rfl) Tryz.func5 (by kernel_rfl)
    (of_decide_eq_true (by kernel_rfl)) (by unfold Func.isWrapper; first | (rw [if_pos (by decide +kernel)]; kernel_rfl) | (rw [if_neg (by decide +kernel)]; exact ⟨rfl, rfl⟩))
    (fun os started H enc _ => liftedSf os started H enc)
end Go.Proofs.YtmfijackgekioaaGreat
