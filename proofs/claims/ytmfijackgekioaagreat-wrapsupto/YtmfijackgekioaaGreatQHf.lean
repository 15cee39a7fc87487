import Derived.Test.YtmfijackgekioaaGreatQHeHk2
import Derived.Test.YtmfijackgekioaaGreatQGu
import Derived.Test.YtmfijackgekioaaGreatQVd
import Derived.ProofKit
import Derived.OpenShut
import Derived.JoinedCond

/-
  The law Wraps, and its row.
-/
namespace Go.Proofs.YtmfijackgekioaaGreat
open Go.ChangeShapes Go.WideShapes Go.ChangeAt Go.RowKit
open Go.ChangeMaps (open_string shut_string)

set_option maxRecDepth 100000 in
set_option maxHeartbeats 2000000 in
theorem wraps3 (b : ByteArray) (n : Int) (w : World) (hb : b.size ≤ 1048576) :
    Calls Tryz.prog 3 #[.string b, .int .i64 n] w fun e w' => e = .returned (.bool true) ∧ Below w.heap.size w w' := by
  by_cases hr : 0 ≤ n ∧ n ≤ 2
  · obtain ⟨level, rfl⟩ : ∃ level : Nat, n = (level : Int) := ⟨n.toNat, by omega⟩
    have hl : level ≤ 2 := by omega
    have hl2 : ¬ (level : Int) > 2 := by omega
    have hdf := wrap7 b level w hl (by omega)
    have HL : Hid (level ≤ 2 ∧ b.size ≤ 1048576) := ⟨hl, hb⟩
    clear hl hb hr
    go_enter Tryz.func3, Tryz.ntmps3
    go_wp2_with fail
    refine hdf.mono ?_
    rintro e w1 ⟨P, W, ks, rfl, h1, h2, h3, h4, h5⟩
    have hPl : P.data.toList.length = P.size := by rw [Array.length_toList]; rfl
    have hPs := Rf.used_whole h1
    have hz := wrapB_size P b
    obtain ⟨o1, o2, o3⟩ := wrapB_ok h1 h2 (by have := HL.out; omega) (by have := HL.out; omega)
    have hun := fun v => unwrap16 (wrapB P b) (b.size : Int) v (by have := HL.out; omega) o3
    rw [o1, o2] at hun
    have hrt := fun v => right14 P b level W ks v HL.out.1 h1 h2 h3 h4 (by have := HL.out; omega)
    have hex := wrapB_packed P b
    obtain ⟨m, hm⟩ : ∃ m, P.size + 2 = m := ⟨_, rfl⟩
    have hXz : (wrapB P b).size = m + 4 := by omega
    rw [show (wrapB P b).size - 4 = m by omega] at hex
    have hmb : m ≤ 1200000 := by have := HL.out; omega
    have hm2 : 2 ≤ m := by omega
    clear hdf h1 h2 h3 h4 o1 o2 o3 hPl hPs hz hm
    generalize wrapB P b = X at *
    go_wp2_with fail
    refine (hun _).mono ?_
    rintro e w2 ⟨rfl, b2⟩
    go_wp2_with fail
    refine (hrt _).mono ?_
    rintro e w3 ⟨rfl, b3⟩
    have hbb : Below w.heap.size w w3 := (h5.trans (b2.mono h5.size)).trans (b3.mono (Nat.le_trans h5.size b2.size))
    go_wp2
    go_ret
    exact ⟨rfl, hbb⟩
  · have hdf := wrap7n b n w hr
    have hor : n < 0 ∨ 2 < n := by omega
    clear hr
    rcases hor with h | h
    · go_enter Tryz.func3, Tryz.ntmps3
      go_wp2_with fail
      refine hdf.mono ?_
      rintro e w' ⟨rfl, rfl⟩
      go_wp2
      go_ret
      exact ⟨rfl, Below.refl _ _⟩
    · have h0 : ¬ n < 0 := by omega
      go_enter Tryz.func3, Tryz.ntmps3
      go_wp2_with fail
      refine hdf.mono ?_
      rintro e w' ⟨rfl, rfl⟩
      go_wp2
      go_ret
      exact ⟨rfl, Below.refl _ _⟩

theorem Tryz.ownWs : ownKnob Tryz.prog.godebug = none := by kernel_rfl

theorem shortWs {H : Type} {x0 : ByteArray} {x1 : Int} (hk : Rows.uptoSmall H [.lit (.string x0.data.toList), .lit (.int .i64 x1)] = true) : x0.size ≤ 1048576 := by
  have h : Rows.uptoBulkAll [DataW.lit (H := H) (.string x0.data.toList), .lit (.int .i64 x1)] ≤ 1048576 := of_decide_eq_true hk
  simp only [Rows.uptoBulkAll, Rows.uptoBulk] at h
  have ex0 : x0.data.toList.length = x0.size := by rw [Array.length_toList]; rfl
  omega

set_option maxRecDepth 100000 in
theorem contractWs (H : Type) (enc : TypeId × Value → H) (W : World) (base : Nat) (args : Array Value) (ds gs : List (DataW H)) (before : List MemPlace)
    (hval : ∀ (j : Nat) t v, Tryz.f3.params[j]? = some t → args[j]? = some v → Value.okWide Tryz.prog W .any base t v)
    (hW : DataW.Whole enc Tryz.prog Tryz.f3.params.toList Rows.wrapsSpec.vars false W args.toList ds gs before) (hk : Rows.uptoSmall H (ds ++ gs) = true) :
    Calls Tryz.prog 3 args W fun e W' => ∃ v, e = .returned v ∧ Rows.wrapsSpec.post enc Tryz.prog Tryz.f3 false true false false W args v W' := by
  have hW' := hW
  obtain ⟨p, q, hA0, hV, rfl, hfz, hnd⟩ := hW
  have hA : DataW.TrodAll enc Tryz.prog W 0 (fun _ => true) true Tryz.f3.params.toList args.toList ds p := hA0
  rw [Tryz.params3] at hA hval
  obtain ⟨v0, vs0, d0, ds0, p0, q0, hargs, rfl, rfl, h0, r0⟩ := trodAll_cons hA
  obtain ⟨v1, vs1, d1, ds1, p1, q1, hargs1, rfl, rfl, h1, r1⟩ := trodAll_cons r0
  obtain ⟨rfl, rfl, rfl⟩ := trodAll_nil r1
  obtain rfl : args = #[v0, v1] := by cases args; simp_all
  obtain ⟨rfl, rfl⟩ := trodVars_none hV
  obtain ⟨x0, rfl, rfl, rfl, hm0⟩ := open_string Tryz.underlying9 (hval 0 9 v0 rfl rfl) h0
  obtain ⟨x1, rfl, rfl, rfl, hm1⟩ := open_int Tryz.underlying3 (hval 1 3 v1 rfl rfl) h1
  clear hA0
  simp only [List.append_nil] at hW' hk
  have hr1 : -9223372036854775808 ≤ x1 ∧ x1 ≤ 9223372036854775807 := by
    have h9 := hm1
    simp [Lit.wf, IntKind.min, IntKind.max, IntKind.bits, IntKind.signed] at h9
    omega
  have hsh := shortWs hk
  refine (wraps3 x0 x1 W hsh).mono fun e W' ⟨he, hg⟩ => ?_
  subst he
  exact ⟨_, rfl, _, _, _, [], [], [], hW', trodAll_cons_mk (shut_bool Tryz.underlying4 _) trodAll_mk0, trodAll_cons_mk (shut_string Tryz.underlying9 hm0) (trodAll_cons_mk (shut_int Tryz.underlying3 hm1) trodAll_mk0), rfl, hg.frame _, fun h => by cases h⟩

set_option maxRecDepth 100000 in
theorem liftedWs (os : Os) (started : os.Started) (H : Type) (enc : TypeId × Value → H) (F : Stop.Interp) :
    ReturnsInHanded {} Tryz.checked os 3 .any ((Rows.OpenSpec.upto Rows.wrapsSpec).pre6 enc Tryz.prog Tryz.f3 Rows.wrapsUptoRow.domain false) (((Rows.OpenSpec.upto Rows.wrapsSpec).at F).post enc Tryz.prog Tryz.f3 false true false false) := by
  refine returnsInHanded_of_cond (C := Tryz.checked) (s := Rows.OpenSpec.upto Rows.wrapsSpec) (k := Rows.uptoSmall) rfl Tryz.ownWs started (by kernel_rfl) Tryz.func3
    (OpenSpec.witness (enc := enc) (C := Tryz.checked) (s := Rows.OpenSpec.upto Rows.wrapsSpec) (k := Rows.uptoSmall) rfl false ⟨#[], #[.string .empty, .int .i64 0], []⟩ 8 (by kernel_rfl) (by kernel_rfl) (by kernel_rfl)
      (x := ([.lit (.string []), .lit (.int .i64 0)], [], [])) (by kernel_rfl) rfl (by kernel_rfl)) ?_
  intro W base args ds gs before hval hW _ hk _
  exact contractWs H enc W base args ds gs before hval hW hk

theorem wraps_holds : Rows.WrapsUptoSaid :=
  OpenClaim.holds_of_cond 3 Tryz.f3 rfl rfl rfl rfl rfl rfl rfl ⟨rfl, rfl, rfl, rfl, rfl⟩ rfl rfl rfl rfl rfl (by kernel_rfl) Tryz.func3 (by kernel_rfl)
    (of_decide_eq_true (by kernel_rfl)) (by unfold Func.isWrapper; first | (rw [if_pos (by decide +kernel)]; kernel_rfl) | (rw [if_neg (by decide +kernel)]; exact ⟨rfl, rfl⟩))
    (fun os started H enc _ F => liftedWs os started H enc F)

end Go.Proofs.YtmfijackgekioaaGreat
