import Derived.Test.YtmfijackgekioaaDoorXc
import Derived.Deep.RegionHeld
namespace Go.Proofs.YtmfijackgekioaaDoor
open Go.ChangeShapes Go.WideShapes Go.ChangeAt Go.RowKit Go.Joins

theorem cells_img : Tryd.prog.cellsOf 24 = 7 := by kernel_rfl
theorem cells_ints : Tryd.prog.cellsOf 22 = 1 := by kernel_rfl
theorem cells_bool : Tryd.prog.cellsOf 4 = 1 := by kernel_rfl
theorem bytes_int : Tryd.prog.bytesOf 3 = 8 := by kernel_rfl

theorem arr7 {α : Type} {cs : Array α} (h : cs.size = 7) : ∃ a b c d e f g, cs = #[a, b, c, d, e, f, g] := by
  obtain ⟨l⟩ := cs
  obtain ⟨a, b, c, d, e, f, g, rfl⟩ := list7 (l := l) (by simpa using h)
  exact ⟨a, b, c, d, e, f, g, rfl⟩

section
variable {H : Type} {enc : TypeId × Value → H} {W : World}

set_option maxRecDepth 100000 in
theorem open_img {base : Nat} {v : Value} {d : DataW H} {p : List MemPlace} (hv : Value.okWide Tryd.prog W .any base 24 v) (h : DataW.Trod enc Tryd.prog W 0 (fun _ => true) true 24 v d p) :
    ∃ (wd ht kd dp : Int) (ps : Bool) (c5 c6 : Value) (y5 y6 : DataW H × List MemPlace) (m : Nat), v = img wd ht kd dp ps c5 c6 ∧
      d = .agg [.lit (.int .i64 wd), .lit (.int .i64 ht), .lit (.int .i64 kd), .lit (.int .i64 dp), .lit (.bool ps), y5.1, y6.1] ∧
      DataW.trod enc Tryd.prog W 0 (fun _ => true) true m 22 [c5] = some y5 ∧ DataW.trod enc Tryd.prog W 0 (fun _ => true) true m 22 [c6] = some y6 := by
  obtain ⟨cs, rfl, hsz⟩ := okWide_struct Tryd.underlying24 hv
  obtain ⟨c0, c1, c2, c3, c4, c5, c6, rfl⟩ := arr7 (hsz.trans cells_img)
  obtain ⟨fuel, hf⟩ := h
  obtain ⟨xs, m, _, hx, hl, hlen, hfs⟩ := DataW.trod_struct Tryd.underlying24 hf
  obtain ⟨y0, y1, y2, y3, y4, y5, y6, rfl⟩ := list7 (hlen.trans rfl)
  have g0 : DataW.trod enc Tryd.prog W 0 (fun _ => true) true m 3 (List.take (Tryd.prog.cellsOf 3) (List.drop 0 [c0, c1, c2, c3, c4, c5, c6])) = some y0 := hfs 0 _ rfl
  have g1 : DataW.trod enc Tryd.prog W 0 (fun _ => true) true m 3 (List.take (Tryd.prog.cellsOf 3) (List.drop 1 [c0, c1, c2, c3, c4, c5, c6])) = some y1 := hfs 1 _ rfl
  have g2 : DataW.trod enc Tryd.prog W 0 (fun _ => true) true m 3 (List.take (Tryd.prog.cellsOf 3) (List.drop 2 [c0, c1, c2, c3, c4, c5, c6])) = some y2 := hfs 2 _ rfl
  have g3 : DataW.trod enc Tryd.prog W 0 (fun _ => true) true m 3 (List.take (Tryd.prog.cellsOf 3) (List.drop 3 [c0, c1, c2, c3, c4, c5, c6])) = some y3 := hfs 3 _ rfl
  have g4 : DataW.trod enc Tryd.prog W 0 (fun _ => true) true m 4 (List.take (Tryd.prog.cellsOf 4) (List.drop 4 [c0, c1, c2, c3, c4, c5, c6])) = some y4 := hfs 4 _ rfl
  have g5 : DataW.trod enc Tryd.prog W 0 (fun _ => true) true m 22 (List.take (Tryd.prog.cellsOf 22) (List.drop 5 [c0, c1, c2, c3, c4, c5, c6])) = some y5 := hfs 5 _ rfl
  have g6 : DataW.trod enc Tryd.prog W 0 (fun _ => true) true m 22 (List.take (Tryd.prog.cellsOf 22) (List.drop 6 [c0, c1, c2, c3, c4, c5, c6])) = some y6 := hfs 6 _ rfl
  rw [cells_int] at g0 g1 g2 g3
  rw [cells_bool] at g4
  rw [cells_ints] at g5 g6
  obtain ⟨a0, e0, rfl, _⟩ := DataW.trod_int Tryd.underlying3 g0
  obtain ⟨a1, e1, rfl, _⟩ := DataW.trod_int Tryd.underlying3 g1
  obtain ⟨a2, e2, rfl, _⟩ := DataW.trod_int Tryd.underlying3 g2
  obtain ⟨a3, e3, rfl, _⟩ := DataW.trod_int Tryd.underlying3 g3
  obtain ⟨a4, e4, rfl⟩ := DataW.trod_bool Tryd.underlying4 g4
  have e0' : c0 = .int .i64 a0 := List.head_eq_of_cons_eq e0
  have e1' : c1 = .int .i64 a1 := List.head_eq_of_cons_eq e1
  have e2' : c2 = .int .i64 a2 := List.head_eq_of_cons_eq e2
  have e3' : c3 = .int .i64 a3 := List.head_eq_of_cons_eq e3
  have e4' : c4 = .bool a4 := List.head_eq_of_cons_eq e4
  subst e0' e1' e2' e3' e4'
  have hd := congrArg Prod.fst hx
  exact ⟨a0, a1, a2, a3, a4, c5, c6, y5, y6, m, rfl, hd, g5, g6⟩

theorem open_sl {m : Nat} {c : Value} {y : DataW H × List MemPlace} (h : DataW.trod enc Tryd.prog W 0 (fun _ => true) true m 22 [c] = some y) :
    ∃ (ao : Option Addr) (cap : Nat) (zs : List Int), c = .slice ao zs.length cap ∧ Ints W ao zs ∧ (∀ a, ao = some a → zs ≠ [] → a.block < W.heap.size) ∧ zs.length ≤ maxLen ∧
      (zs = [] ∨ ∃ elems spare, y.1 = .slice elems spare ∧ zs.length ≤ elems.length + spare.length) := by
  rcases open_ints Tryd.underlying22 Tryd.underlying3 cells_int h with ⟨hcs, hx⟩ | ⟨a, len, cap, zs, hcs, _, hl, hm, hz, hx, hcell, hwz⟩
  · refine ⟨none, 0, [], List.head_eq_of_cons_eq hcs, fun j hj => absurd hj (Nat.not_lt_zero _), fun a e _ => (by cases e), Nat.zero_le _, .inl rfl⟩
  · have hzl : zs.length = cap := by simpa using hz
    have hlen : (zs.take len).length = len := by rw [List.length_take]; omega
    refine ⟨some a, cap, zs.take len, (List.head_eq_of_cons_eq hcs).trans (by rw [hlen]), ?_, ?_, by rw [hlen]; omega, .inr ⟨_, _, congrArg Prod.fst hx, ?_⟩⟩
    · intro j hj
      rw [hlen] at hj
      obtain ⟨b, off, rfl, hc⟩ := ints_at hcell (by omega)
      refine ⟨b, off, rfl, ?_⟩
      rw [hc j (by omega)]
      simp [List.getD, List.getElem?_eq_getElem (show j < zs.length by omega)]
    · intro a' e hne
      cases e
      have h0 : 0 < zs.length := by
        cases zs with
        | nil => simp at hne
        | cons z r => simp
      obtain ⟨b, off, rfl, hc⟩ := ints_at hcell h0
      exact World.block_lt_of_cell? W ⟨b, off + 0, none⟩ (hc 0 h0)
    · simp [lits]
end

set_option maxRecDepth 100000 in
theorem contract (H : Type) (enc : TypeId × Value → H) (W : World) (base : Nat) (args : Array Value) (ds gs : List (DataW H)) (before : List MemPlace)
    (hval : ∀ (j : Nat) t v, Tryd.f3.params[j]? = some t → args[j]? = some v → Value.okWide Tryd.prog W .any base t v)
    (hW : DataW.Whole enc Tryd.prog Tryd.f3.params.toList Rows.checksSpec.vars false W args.toList ds gs before)
    (hsz : (DataW.weightsEach Tryd.prog (Tryd.f3.params.toList ++ Rows.checksSpec.plain.varTypes Tryd.prog) (ds ++ gs)).all (· ≤ reachBytes) = true)
    (hL : laidMetH Tryd.prog Rows.checksRow.laid W) :
    Calls Tryd.prog 3 args W fun e W' => ∃ v, e = .returned v ∧ Rows.checksSpec.post enc Tryd.prog Tryd.f3 false true false false W args v W' := by
  have hW' := hW
  obtain ⟨p, q, hA0, hV, rfl, hfz, hnd⟩ := hW
  have hA : DataW.TrodAll enc Tryd.prog W 0 (fun _ => true) true Tryd.f3.params.toList args.toList ds p := hA0
  rw [Tryd.params3] at hA hval hsz
  obtain ⟨v0, d0, rfl, rfl, h0⟩ := trodAll_one hA
  obtain ⟨rfl, rfl⟩ := trodVars_none hV
  obtain ⟨wd, ht, kd, dp, ps, c5, c6, y5, y6, m, rfl, hd, g5, g6⟩ := open_img (hval 0 24 v0 rfl rfl) h0
  obtain ⟨pa, pc, pz, rfl, i5, b5, m5, s5⟩ := open_sl g5
  obtain ⟨sa, sc, sz, rfl, i6, b6, m6, s6⟩ := open_sl g6
  obtain ⟨tt, fr, hT⟩ := table hL
  have hsz' : (DataW.weightsEach Tryd.prog [3, 3, 3, 3, 4, 22, 22] [.lit (.int .i64 wd), .lit (.int .i64 ht), .lit (.int .i64 kd), .lit (.int .i64 dp), .lit (.bool ps), y5.1, y6.1]).all (· ≤ reachBytes) = true := by
    rw [List.all_eq_true] at hsz ⊢
    intro x hx
    refine hsz x (DataW.weights_mem_each (j := 0) (t := 24) (d := d0) rfl rfl x ?_)
    rw [hd]
    simpa [DataW.weights, Tryd.underlying24] using hx
  have bnd : ∀ (zs : List Int) (j : Nat) (y : DataW H), ([3, 3, 3, 3, 4, 22, 22] : List TypeId)[j]? = some 22 → ([.lit (.int .i64 wd), .lit (.int .i64 ht), .lit (.int .i64 kd), .lit (.int .i64 dp), .lit (.bool ps), y5.1, y6.1] : List (DataW H))[j]? = some y →
      (zs = [] ∨ ∃ elems spare, y = .slice elems spare ∧ zs.length ≤ elems.length + spare.length) → zs.length ≤ 17592186044416 := by
    intro zs j y hj hy hs
    rcases hs with rfl | ⟨elems, spare, rfl, hle⟩
    · simp
    · have := sized_slice hsz' hj hy Tryd.underlying22
      rw [bytes_int] at this
      simp only [reachBytes] at this
      omega
  have n5 := bnd pz 5 y5.1 rfl rfl s5
  have n6 := bnd sz 6 y6.1 rfl rfl s6
  have hl : Lies W pa pz sa sz tt fr := ⟨hT, i5, b5, m5, i6, b6, m6⟩
  clear hA0 hsz hsz' bnd
  simp only [List.append_nil] at hW'
  refine (checks3 wd ht kd dp ps pa pc pz sa sc sz W tt fr hl n5 n6).mono fun e W' ⟨he, hg⟩ => ?_
  subst he
  refine ⟨_, rfl, _, _, _, [], p, [], hW', trodAll_cons_mk (shut_bool Tryd.underlying4 _) trodAll_mk0, ?_, rfl, hg.frame _, fun h => by cases h⟩
  exact trodAll_mk1 (Below.trod Tryd.laidOut (by kernel_rfl) (of_decide_eq_true (by kernel_rfl)) h0 hg (fun x hx => by simpa using hW'.lt x hx))

end Go.Proofs.YtmfijackgekioaaDoor
