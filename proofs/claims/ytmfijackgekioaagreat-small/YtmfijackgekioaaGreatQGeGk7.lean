import Derived.Test.YtmfijackgekioaaGreatQGd
import Derived.Test.YtmfijackgekioaaGreatQUaUe5

/-
  The plans for a part: the program. For Deflates.
-/
namespace Go.Proofs.YtmfijackgekioaaGreat
open Go.RowKit

theorem Tryz.infoPlan : (Tryz.prog.info? 64).map (fun i => (i.zero, i.size, i.bytes)) = some (some (.agg #[.int .i64 0, .nilFunc]), 2, 16) := by kernel_rfl

/-- A plan in memory: its end, its function and what that holds. -/
abbrev Pl := Nat × Nat × Array Value
def plCells (x : Pl) : List Value := [.int .i64 (x.1 : Nat), .func (.func x.2.1) #[] x.2.2]
def pcells (l : List Pl) : List Value := l.flatMap plCells
theorem pcells_length (l : List Pl) : (pcells l).length = l.length * 2 := by
  induction l with
  | nil => rfl
  | cons x l ih => simp only [pcells, List.flatMap_cons, List.length_append, List.length_cons, plCells, List.length_nil] at *; omega
theorem pcells_append (a b : List Pl) : pcells (a ++ b) = pcells a ++ pcells b := by simp [pcells]
theorem pcells_one : ∀ u l, u ∈ pcells l → u.oneCell' = true := fun u l h => by
  obtain ⟨x, _, hx⟩ := List.mem_flatMap.1 h
  simp only [plCells, List.mem_cons, List.not_mem_nil, or_false] at hx
  rcases hx with rfl | rfl <;> rfl

/-- The plans for a part. -/
structure PlansOk (w w' : World) (v : Value) (B : Nat) (W : List Int) (T : List UInt8) (p q : Nat) (last : Bool) (km C : Nat) : Prop where
  ex : ∃ x r, w'.ownsRow w.heap.size 64 2 v (x :: r).length (pcells (x :: r)) ∧ x.1 = (W.length + 10) / 8 * 8 + 32 + 8 * (q - p) ∧ (∀ y ∈ x :: r, Plan w' B W T p q last km y.1 y.2.1 y.2.2 ∧ y.1 ≤ 90000000) ∧ r.length ≤ 2 ∧ (1 ≤ km → ∃ y ∈ r, y.1 = W.length + 3 + C)
  be : Below w.heap.size w w'

/-- A row of one plan. -/
theorem one_plan {w u : World} (hb : w.heap.size ≤ u.heap.size) (x : Pl) : (u.alloc (.cells #[.int .i64 (x.1 : Nat), .func (.func x.2.1) #[] x.2.2] 64)).ownsRow w.heap.size 64 2 (.slice (some ⟨u.heap.size, 0, none⟩) 1 1) 1 (pcells [x]) :=
  ⟨rfl, .inr ⟨u.heap.size, 1, _, rfl, hb, blk_new u _, Nat.le_refl _, by unfold maxLen; omega, rfl, rfl⟩⟩
theorem src_plan (u : World) (x : Pl) : Src (u.alloc (.cells #[.int .i64 (x.1 : Nat), .func (.func x.2.1) #[] x.2.2] 64)) 2 (.slice (some ⟨u.heap.size, 0, none⟩) 1 1) 1 (pcells [x]) := by
  refine ⟨⟨_, _, rfl, (fun e => nomatch e), fun ad e hne => ?_⟩, rfl, fun y hy => pcells_one y _ hy⟩
  cases e
  refine ⟨by simp, fun j y hj => ?_⟩
  rw [add_at, Nat.zero_add, cell_at (blk_new u _)]
  simpa [pcells, plCells] using hj

/-- Behind an append to a row of plans all else is kept. -/
theorem kq_grown {w w' : World} {base n : Nat} {v : Value} {xs : List Value} (h : w.ownsRow base 64 2 v n xs) (g : w.grownBy w' v.ownBlock) : Kq w w' := fun k cs t fr hk ht => by
  refine g.block k (lt_of_block hk) (fun e => ?_)
  rcases h.2 with ⟨rfl, _⟩ | ⟨b, cap, cur, rfl, _, hg, _⟩
  · cases e
  · simp only [Value.ownBlock, Option.some.injEq] at e
    subst e
    rw [hk] at hg
    simp at hg
    exact ht hg.2.1

set_option maxRecDepth 100000 in
set_option maxHeartbeats 2000000 in
theorem plans0 (B : Nat) (last : Bool) (s : ByteArray) (sv : Value) (W : List Int) (w : World) (h : Writes w B W) (T : List UInt8) (p q : Nat) (hs : s.data.toList = (T.take q).drop p) (hpq : p ≤ q) (hq : q ≤ T.length) (h6 : q - p ≤ 65535) (hW : W.length ≤ 80000000) (C : Nat) :
    Calls Tryz.prog 39 #[.pointer (some ⟨B, 0, none⟩), .string s, sv, .bool last, .int .i64 0] w fun e w' => ∃ v, e = .returned v ∧ PlansOk w w' v B W T p q last 0 C := by
  have hE : (W.length + 10) / 8 * 8 + 32 + 8 * (q - p) ≤ 90000000 := by omega
  go_enter Tryz.func39, Tryz.ntmps39
  go_wp2_with fail
  refine (storedPlan78 B last s W w h T p q hs hpq hq h6 (by omega)).mono ?_
  rintro e w1 ⟨caps, rfl, hb1, hp1⟩
  generalize hEE : (W.length + 10) / 8 * 8 + 32 + 8 * (q - p) = E at *
  have own := one_plan (w := w) (u := w1) hb1.size (E, 90, caps)
  have hb2 : Below w.heap.size w (w1.alloc (.cells #[.int .i64 (E : Nat), .func (.func 90) #[] caps] 64)) := hb1.trans ((below_alloc w1 _).mono hb1.size)
  have hp2 := hp1.below (below_alloc w1 (.cells #[.int .i64 (E : Nat), .func (.func 90) #[] caps] 64))
  have HH : Hid (_ ∧ _ ∧ _) := ⟨own, hb2, hp2⟩
  clear own hb2 hp2 hp1 h hs
  go_wp2
  go_ret
  refine ⟨_, rfl, ⟨(E, 90, caps), [], HH.out.1, hEE.symm, fun y hy => ?_, by simp, fun h => absurd h (by decide)⟩, HH.out.2.1⟩
  rw [List.mem_singleton.1 hy]
  exact ⟨HH.out.2.2, hE⟩
end Go.Proofs.YtmfijackgekioaaGreat

/-
  The plans for a part, levels 1 and 2: the program. For Deflates.
-/
namespace Go.Proofs.YtmfijackgekioaaGreat
open Go.RowKit

theorem Writes.kq {w w' : World} {B : Nat} {W : List Int} (h : Writes w B W) (k : Kq w w') : Writes w' B W := by
  obtain ⟨pv, P, h⟩ := h
  refine ⟨pv, P, (k _ _ _ _ h.blk (by decide)).trans h.blk, own_keep h.own (fun g hg => ?_), h.hold⟩
  rcases h.own.2 with ⟨rfl, _⟩ | ⟨b, cap, cur, rfl, _, hb, _⟩
  · simp [Value.ownBlock] at hg
  · simp only [Value.ownBlock, Option.some.injEq] at hg
    subst hg
    exact k _ _ _ _ hb (by decide)
theorem Steps.fresh {w : World} {sv : Value} {steps : List (Nat × Nat)} {B : Nat} (h : Steps w sv steps B) : Steps w sv steps w.heap.size :=
  ⟨h.1, fun hn => by
    obtain ⟨SB, cap, h1, h2, h3⟩ := h.2 hn
    exact ⟨SB, cap, h1, by have := h3.lt; omega, h3⟩⟩

set_option maxRecDepth 100000 in
set_option maxHeartbeats 4000000 in
theorem plans1 (B : Nat) (last : Bool) (s : ByteArray) (ao : Option Addr) (cap : Nat) (steps : List (Nat × Nat)) (W : List Int) (w : World) (h : Writes w B W) (T : List UInt8) (p q : Nat) (hp : Part T p q s steps) (hst : Steps w (.slice ao steps.length cap) steps B) (hsv : ∀ SB cap', Value.slice ao steps.length cap = .slice (some ⟨SB, 0, none⟩) steps.length cap' → SB < w.heap.size) (hW : W.length ≤ 80000000) :
    Calls Tryz.prog 39 #[.pointer (some ⟨B, 0, none⟩), .string s, .slice ao steps.length cap, .bool last, .int .i64 1] w fun e w' => ∃ v, e = .returned v ∧ PlansOk w w' v B W T p q last 1 (tokBits Rf.fixS fixP (toksOf s.data.toList 0 steps)).length := by
  obtain ⟨i0, hi, hz0, hz1, hz2⟩ := info_parts Tryz.infoPlan
  have hsm := hp.small
  have hE : (W.length + 10) / 8 * 8 + 32 + 8 * (q - p) ≤ 90000000 := by omega
  have hszs := hp.size
  go_enter Tryz.func39, Tryz.ntmps39
  go_wp2_with fail
  refine (storedPlan78 B last s W w h T p q hp.txt hp.le hp.qt hp.small (by omega)).mono ?_
  rintro e w1 ⟨caps0, rfl, hb1, hp1⟩
  generalize hEE : (W.length + 10) / 8 * 8 + 32 + 8 * (q - p) = E0 at *
  have own := one_plan (w := w) (u := w1) hb1.size (E0, 90, caps0)
  have k2 := below_alloc w1 (.cells #[.int .i64 (E0 : Nat), .func (.func 90) #[] caps0] 64)
  go_wp2_with fail
  generalize hw2 : w1.alloc (.cells #[.int .i64 (E0 : Nat), .func (.func 90) #[] caps0] 64) = w2 at *
  have own : w2.ownsRow w.heap.size 64 2 (.slice (some ⟨w1.heap.size, 0, none⟩) 1 1) 1 (pcells [(E0, 90, caps0)]) := own
  have B2 : Below w.heap.size w w2 := hb1.trans (k2.mono hb1.size)
  have st2 := hst.below B2
  have hty := tallyOf79 ao cap s steps w2 st2.fresh (by omega) hp.ok (fun SB cap' e => by have := hsv SB cap' e; have := B2.size; omega)
  refine hty.mono ?_
  rintro e w3 ⟨Sy, Di, rfl, a1, a2, hb3, hSy, hDi⟩
  clear hty
  generalize hex : extraOf (toksOf s.data.toList 0 steps) = ex at *
  go_wp2_with fail
  have k4 := below_alloc w3 (.cells #[.slice (some ⟨Sy, 0, none⟩) 286 286, .slice (some ⟨Di, 0, none⟩) 30 30, .int .i64 ex] 105)
  have x4 := blk_new w3 (.cells #[.slice (some ⟨Sy, 0, none⟩) 286 286, .slice (some ⟨Di, 0, none⟩) 30 30, .int .i64 ex] 105)
  generalize hw4 : w3.alloc (.cells #[.slice (some ⟨Sy, 0, none⟩) 286 286, .slice (some ⟨Di, 0, none⟩) 30 30, .int .i64 ex] 105) = w4 at *
  have K24 : Below w2.heap.size w2 w4 := hb3.trans (k4.mono hb3.size)
  have B4 : Below w.heap.size w w4 := B2.trans (K24.mono B2.size)
  have hfp := fixedPlan80 B last s ao cap steps W w4 (h.below B4) T p q Sy Di hp (hst.below B4) (a1.keep k4) (a2.keep k4) hW
  rw [hex] at hfp
  refine hfp.mono ?_
  rintro e w5 ⟨E1, caps1, rfl, hb5, hp5, hE1, hE1e⟩
  have HE1 : Hid (E1 = W.length + 3 + (tokBits Rf.fixS fixP (toksOf s.data.toList 0 steps)).length) := hE1e
  clear hE1e
  clear hfp
  have own6 := src_plan w5 (E1, 99, caps1)
  have k6 := below_alloc w5 (.cells #[.int .i64 (E1 : Nat), .func (.func 99) #[] caps1] 64)
  generalize hw6 : w5.alloc (.cells #[.int .i64 (E1 : Nat), .func (.func 99) #[] caps1] 64) = w6 at *
  have own6 : Src w6 2 (.slice (some ⟨w5.heap.size, 0, none⟩) 1 1) 1 (pcells [(E1, 99, caps1)]) := own6
  have K46 : Below w4.heap.size w4 w6 := hb5.trans (k6.mono hb5.size)
  have K26 : Below w2.heap.size w2 w6 := K24.trans (K46.mono K24.size)
  have B6 : Below w.heap.size w w6 := B2.trans (K26.mono B2.size)
  have hg0 : w1.heap.size < w2.heap.size := by rw [← hw2]; simp
  have ownA : w6.ownsRow w.heap.size 64 2 (.slice (some ⟨w1.heap.size, 0, none⟩) 1 1) 1 (pcells [(E0, 90, caps0)]) := own_keep own (fun g hg => by
    simp only [Value.ownBlock, Option.some.injEq] at hg
    subst hg
    exact K26.block _ hg0)
  obtain ⟨v7, w7, hr7, ho7, hg7⟩ := append_src (ty := 60) Tryz.underlying60 hi hz0 hz1 hz2 rfl (by decide) ownA own6 (by unfold maxLen; omega) (by omega) B6.size
  have Q67 := kq_grown ownA hg7
  have B7 : Below w.heap.size w w7 := grown_below B6 hg7 (fun k hk => (ownA.lt k hk).1) (Nat.le_refl _)
  have P0 : Plan w7 B W T p q last 1 E0 90 caps0 := (((hp1.weak (by omega : 0 ≤ 1)).below k2).below K26).kq Q67
  have P1 : Plan w7 B W T p q last 1 E1 99 caps1 := ((hp5.weak (by omega : 1 ≤ 1)).below k6).kq Q67
  obtain ⟨oa7, oc7, rfl⟩ := own_slice2 ho7
  have HR : Hid (_ ∧ _ ∧ _ ∧ _) := ⟨ho7, B7, P0, P1⟩
  have hlw := B7.size
  clear hp1 hp5 own own6 ownA ho7 hg7 P0 P1 B7 B6 K26 K46 K24 B4 B2 k2 k4 k6 st2 a1 a2 hSy hDi hb3 hb5 hg0 h hst hsv hp Q67
  go_wp2_with (first | fail | (at_builtin; refine Lib.wpList_append_run _ rfl _ _ _ _ rfl _ _ rfl rfl _ _ hr7 ?_))
  go_ret
  refine ⟨_, rfl, ⟨(E0, 90, caps0), [(E1, 99, caps1)], HR.out.1, hEE.symm, fun y hy => ?_, by simp, fun _ => ⟨_, List.mem_cons_self, HE1.out⟩⟩, HR.out.2.1⟩
  rcases List.mem_cons.1 hy with rfl | hy
  · exact ⟨HR.out.2.2.1, hE⟩
  · rw [List.mem_singleton.1 hy]
    exact ⟨HR.out.2.2.2, hE1⟩

set_option maxRecDepth 100000 in
set_option maxHeartbeats 4000000 in
theorem plans2 (B : Nat) (last : Bool) (s : ByteArray) (ao : Option Addr) (cap : Nat) (steps : List (Nat × Nat)) (W : List Int) (w : World) (h : Writes w B W) (T : List UInt8) (p q : Nat) (hp : Part T p q s steps) (hst : Steps w (.slice ao steps.length cap) steps B) (hsv : ∀ SB cap', Value.slice ao steps.length cap = .slice (some ⟨SB, 0, none⟩) steps.length cap' → SB < w.heap.size) (hW : W.length ≤ 80000000) :
    Calls Tryz.prog 39 #[.pointer (some ⟨B, 0, none⟩), .string s, .slice ao steps.length cap, .bool last, .int .i64 2] w fun e w' => ∃ v, e = .returned v ∧ PlansOk w w' v B W T p q last 2 (tokBits Rf.fixS fixP (toksOf s.data.toList 0 steps)).length := by
  obtain ⟨i0, hi, hz0, hz1, hz2⟩ := info_parts Tryz.infoPlan
  have hsm := hp.small
  have hE : (W.length + 10) / 8 * 8 + 32 + 8 * (q - p) ≤ 90000000 := by omega
  have hszs := hp.size
  go_enter Tryz.func39, Tryz.ntmps39
  go_wp2_with fail
  refine (storedPlan78 B last s W w h T p q hp.txt hp.le hp.qt hp.small (by omega)).mono ?_
  rintro e w1 ⟨caps0, rfl, hb1, hp1⟩
  generalize hEE : (W.length + 10) / 8 * 8 + 32 + 8 * (q - p) = E0 at *
  have own := one_plan (w := w) (u := w1) hb1.size (E0, 90, caps0)
  have k2 := below_alloc w1 (.cells #[.int .i64 (E0 : Nat), .func (.func 90) #[] caps0] 64)
  go_wp2_with fail
  generalize hw2 : w1.alloc (.cells #[.int .i64 (E0 : Nat), .func (.func 90) #[] caps0] 64) = w2 at *
  have own : w2.ownsRow w.heap.size 64 2 (.slice (some ⟨w1.heap.size, 0, none⟩) 1 1) 1 (pcells [(E0, 90, caps0)]) := own
  have B2 : Below w.heap.size w w2 := hb1.trans (k2.mono hb1.size)
  have st2 := hst.below B2
  have hty := tallyOf79 ao cap s steps w2 st2.fresh (by omega) hp.ok (fun SB cap' e => by have := hsv SB cap' e; have := B2.size; omega)
  refine hty.mono ?_
  rintro e w3 ⟨Sy, Di, rfl, a1, a2, hb3, hSy, hDi⟩
  clear hty
  generalize hex : extraOf (toksOf s.data.toList 0 steps) = ex at *
  go_wp2_with fail
  have k4 := below_alloc w3 (.cells #[.slice (some ⟨Sy, 0, none⟩) 286 286, .slice (some ⟨Di, 0, none⟩) 30 30, .int .i64 ex] 105)
  have x4 := blk_new w3 (.cells #[.slice (some ⟨Sy, 0, none⟩) 286 286, .slice (some ⟨Di, 0, none⟩) 30 30, .int .i64 ex] 105)
  generalize hw4 : w3.alloc (.cells #[.slice (some ⟨Sy, 0, none⟩) 286 286, .slice (some ⟨Di, 0, none⟩) 30 30, .int .i64 ex] 105) = w4 at *
  have K24 : Below w2.heap.size w2 w4 := hb3.trans (k4.mono hb3.size)
  have B4 : Below w.heap.size w w4 := B2.trans (K24.mono B2.size)
  have hfp := fixedPlan80 B last s ao cap steps W w4 (h.below B4) T p q Sy Di hp (hst.below B4) (a1.keep k4) (a2.keep k4) hW
  rw [hex] at hfp
  refine hfp.mono ?_
  rintro e w5 ⟨E1, caps1, rfl, hb5, hp5, hE1, hE1e⟩
  have HE1 : Hid (E1 = W.length + 3 + (tokBits Rf.fixS fixP (toksOf s.data.toList 0 steps)).length) := hE1e
  clear hE1e
  clear hfp
  have own6 := src_plan w5 (E1, 99, caps1)
  have k6 := below_alloc w5 (.cells #[.int .i64 (E1 : Nat), .func (.func 99) #[] caps1] 64)
  generalize hw6 : w5.alloc (.cells #[.int .i64 (E1 : Nat), .func (.func 99) #[] caps1] 64) = w6 at *
  have own6 : Src w6 2 (.slice (some ⟨w5.heap.size, 0, none⟩) 1 1) 1 (pcells [(E1, 99, caps1)]) := own6
  have K46 : Below w4.heap.size w4 w6 := hb5.trans (k6.mono hb5.size)
  have K26 : Below w2.heap.size w2 w6 := K24.trans (K46.mono K24.size)
  have B6 : Below w.heap.size w w6 := B2.trans (K26.mono B2.size)
  have hg0 : w1.heap.size < w2.heap.size := by rw [← hw2]; simp
  have ownA : w6.ownsRow w.heap.size 64 2 (.slice (some ⟨w1.heap.size, 0, none⟩) 1 1) 1 (pcells [(E0, 90, caps0)]) := own_keep own (fun g hg => by
    simp only [Value.ownBlock, Option.some.injEq] at hg
    subst hg
    exact K26.block _ hg0)
  obtain ⟨v7, w7, hr7, ho7, hg7⟩ := append_src (ty := 60) Tryz.underlying60 hi hz0 hz1 hz2 rfl (by decide) ownA own6 (by unfold maxLen; omega) (by omega) B6.size
  have Q67 := kq_grown ownA hg7
  have B7 : Below w.heap.size w w7 := grown_below B6 hg7 (fun k hk => (ownA.lt k hk).1) (Nat.le_refl _)
  have P0 : Plan w7 B W T p q last 2 E0 90 caps0 := (((hp1.weak (by omega : 0 ≤ 2)).below k2).below K26).kq Q67
  have P1 : Plan w7 B W T p q last 2 E1 99 caps1 := ((hp5.weak (by omega : 1 ≤ 2)).below k6).kq Q67
  obtain ⟨oa7, oc7, rfl⟩ := own_slice2 ho7
  have HR : Hid (_ ∧ _ ∧ _ ∧ _) := ⟨ho7, B7, P0, P1⟩
  have W7 : Writes w7 B W := (h.below B6).kq Q67
  have S7 := (hst.below B6).kq Q67
  have A17 := ((a1.keep k4).keep K46).kq Q67
  have A27 := ((a2.keep k4).keep K46).kq Q67
  have X6 := (K46.block _ (lt_of_block x4)).trans x4
  have X7 := (Q67 _ _ _ _ X6 (by decide)).trans X6
  obtain ⟨y0, y1, y2, fzT, hlT⟩ := cells3 X7
  have hdp := dynamicPlan81 B last s ao cap steps W w7 W7 T p q Sy Di hp S7 A17 A27 hW
  rw [hex] at hdp
  have hlw := B7.size
  clear hp1 hp5 own own6 ownA ho7 hg7 P0 P1 B7 B6 W7 S7 A17 A27 X6 X7 K26 K46 K24 B4 B2 k2 k4 k6 st2 a1 a2 hSy hDi hb3 hb5 hg0 h hst hsv hp Q67
  go_wp2_with (first | fail | (at_builtin; refine Lib.wpList_append_run _ rfl _ _ _ _ rfl _ _ rfl rfl _ _ hr7 ?_))
  refine hdp.mono ?_
  rintro e w8 ⟨E2, caps2, rfl, hb8, hp8, hE2⟩
  clear hdp y0 y1 y2 fzT hlT hr7
  have own9 := src_plan w8 (E2, 103, caps2)
  have k9 := below_alloc w8 (.cells #[.int .i64 (E2 : Nat), .func (.func 103) #[] caps2] 64)
  generalize hw9 : w8.alloc (.cells #[.int .i64 (E2 : Nat), .func (.func 103) #[] caps2] 64) = w9 at *
  have own9 : Src w9 2 (.slice (some ⟨w8.heap.size, 0, none⟩) 1 1) 1 (pcells [(E2, 103, caps2)]) := own9
  have K79 : Below w7.heap.size w7 w9 := hb8.trans (k9.mono hb8.size)
  obtain ⟨ho7, B7, P0, P1⟩ := HR.out
  have B9 : Below w.heap.size w w9 := B7.trans (K79.mono B7.size)
  have ownB : w9.ownsRow w.heap.size 64 2 (.slice oa7 2 oc7) 2 (pcells [(E0, 90, caps0)] ++ pcells [(E1, 99, caps1)]) := own_keep ho7 (fun g hg => K79.block _ (ho7.lt g hg).2)
  obtain ⟨v10, w10, hr10, ho10, hg10⟩ := append_src (ty := 60) Tryz.underlying60 hi hz0 hz1 hz2 rfl (by decide) ownB own9 (by unfold maxLen; omega) (by omega) B9.size
  have Q10 := kq_grown ownB hg10
  have B10 : Below w.heap.size w w10 := grown_below B9 hg10 (fun k hk => (ownB.lt k hk).1) (Nat.le_refl _)
  have P0' := (P0.below K79).kq Q10
  have P1' := (P1.below K79).kq Q10
  have P2' := (hp8.below k9).kq Q10
  obtain ⟨oa10, oc10, rfl⟩ := own_slice2 ho10
  have HS : Hid (_ ∧ _ ∧ _ ∧ _ ∧ _) := ⟨ho10, B10, P0', P1', P2'⟩
  clear hp8 own9 ownB ho10 hg10 P0 P1 P0' P1' P2' B10 B9 B7 ho7 K79 k9 hb8 HR Q10
  go_wp2_with (first | fail | (at_builtin; refine Lib.wpList_append_run _ rfl _ _ _ _ rfl _ _ rfl rfl _ _ hr10 ?_))
  go_ret
  refine ⟨_, rfl, ⟨(E0, 90, caps0), [(E1, 99, caps1), (E2, 103, caps2)], HS.out.1, hEE.symm, fun y hy => ?_, by simp, fun _ => ⟨_, List.mem_cons_self, HE1.out⟩⟩, HS.out.2.1⟩
  rcases List.mem_cons.1 hy with rfl | hy
  · exact ⟨HS.out.2.2.1, hE⟩
  · rcases List.mem_cons.1 hy with rfl | hy
    · exact ⟨HS.out.2.2.2.1, hE1⟩
    · rw [List.mem_singleton.1 hy]
      exact ⟨HS.out.2.2.2.2, hE2⟩
end Go.Proofs.YtmfijackgekioaaGreat

/-
  The plan that ends first: the program. For Deflates.
-/
namespace Go.Proofs.YtmfijackgekioaaGreat
open Go.RowKit

abbrev plV (x : Pl) : Value := .agg #[.int .i64 (x.1 : Nat), .func (.func x.2.1) #[] x.2.2]

set_option maxRecDepth 100000 in
set_option maxHeartbeats 1000000 in
theorem cmp51 (x y : Pl) (w : World) : Calls Tryz.prog 41 #[plV x, plV y] w fun e w' => e = .returned (.int .i64 (cmpI x.1 y.1)) ∧ Below w.heap.size w w' := by
  go_enter Tryz.func41, Tryz.ntmps41
  go_wp2_with (go_at_call 42; refine (compare52 _ _ _).mono ?_; rintro e w' ⟨rfl, rfl⟩)
  go_ret
  exact ⟨rfl, ((Below.refl _ _).alloc (Nat.le_refl _) _).alloc (by simp) _⟩
theorem call51 (args : Array Value) (w : World) : (callFunc 41 args).run Tryz.prog w = .ok (.enter 41 args) w := by kernel_rfl

theorem set2_row {w : World} {b : Nat} {a c : Value} {t : TypeId} (h : w.heap[b]? = some (.cells #[a, c] t (0, 0))) (x y : Value) : ((w.setCell ⟨b, 0, none⟩ x).setCell ⟨b, 1, none⟩ y).heap[b]? = some (.cells #[x, y] t (0, 0)) :=
  (heap_setCell_same _ b 1 _ _ y ((heap_setCell_same w b 0 _ _ x h).trans rfl)).trans rfl

theorem pl_at (l : List Pl) (j : Nat) (h : j < l.length) : (pcells l)[j * 2]? = some (.int .i64 ((l.getD j (0, 0, #[])).1 : Nat)) ∧ (pcells l)[j * 2 + 1]? = some (.func (.func (l.getD j (0, 0, #[])).2.1) #[] (l.getD j (0, 0, #[])).2.2) := by
  induction l generalizing j with
  | nil => simp at h
  | cons x r ih =>
    have e : pcells (x :: r) = plCells x ++ pcells r := by simp [pcells]
    cases j with
    | zero => rw [e]; exact ⟨rfl, rfl⟩
    | succ j =>
      have := ih j (by simpa using h)
      rw [e, show (j + 1) * 2 = 2 + j * 2 by omega, show 2 + j * 2 + 1 = 2 + (j * 2 + 1) by omega]
      rw [List.getElem?_append_right (by simp [plCells]), List.getElem?_append_right (by simp [plCells])]
      simpa [plCells] using this

/-- The row of plans, read. -/
theorem pl_cells {w : World} {base g n cap : Nat} {l : List Pl} (h : w.ownsRow base 64 2 (.slice (some ⟨g, 0, none⟩) n cap) n (pcells l)) (hl : l.length = n) (j : Nat) (hj : j < n) :
    w.cell? ⟨g, j * 2, none⟩ = some (.int .i64 ((l.getD j (0, 0, #[])).1 : Nat)) ∧ w.cell? ⟨g, j * 2 + 1, none⟩ = some (.func (.func (l.getD j (0, 0, #[])).2.1) #[] (l.getD j (0, 0, #[])).2.2) := by
  obtain ⟨a, b⟩ := pl_at l j (by omega)
  exact ⟨(h.cellAt (j * 2) (by omega)).trans a, (h.cellAt (j * 2 + 1) (by omega)).trans b⟩

set_option maxRecDepth 100000 in
set_option maxHeartbeats 2000000 in
theorem min50 (g cap n : Nat) (l : List Pl) (w : World) (hl : l.length = n) (hn : 1 ≤ n) (hn3 : n ≤ 3) (hg : g < w.heap.size)
    (hc : ∀ j, j < n → w.cell? ⟨g, j * 2, none⟩ = some (.int .i64 ((l.getD j (0, 0, #[])).1 : Nat)) ∧ w.cell? ⟨g, j * 2 + 1, none⟩ = some (.func (.func (l.getD j (0, 0, #[])).2.1) #[] (l.getD j (0, 0, #[])).2.2)) :
    Calls Tryz.prog 40 #[.slice (some ⟨g, 0, none⟩) n cap, .func (.func 41) #[] #[]] w fun e w' => ∃ x ∈ l, e = .returned (plV x) ∧ (x.1 ≤ (l.getD 0 (0, 0, #[])).1 ∧ ∀ y ∈ l, x.1 ≤ y.1) ∧ Below w.heap.size w w' := by
  have hcall := call51
  have hmem : ∀ j, j < n → l.getD j (0, 0, #[]) ∈ l := fun j hj => by
    rw [List.getD_eq_getElem?_getD, List.getElem?_eq_getElem (by omega)]
    exact List.getElem_mem _
  obtain ⟨x0, x1⟩ := hc 0 (by omega)
  rw [Nat.zero_mul] at x0 x1
  generalize hP0 : l.getD 0 (0, 0, #[]) = P0 at *
  have hm0 : P0 ∈ l := by rw [← hP0]; exact hmem 0 (by omega)
  obtain ⟨k0, q0, q1⟩ := two_boxes w (.cells #[.int .i64 0, .nilFunc] 64) (.cells #[.int .i64 (P0.1 : Nat), .func (.func P0.2.1) #[] P0.2.2] 64)
  go_enter Tryz.func40, Tryz.ntmps40
  go_wp2
  go_loopw [6] (fun iv wr => ∃ (k : Nat) (x : Pl), 1 ≤ k ∧ k ≤ n ∧ iv = .int .i64 k ∧ Hid (x ∈ l ∧ x.1 ≤ P0.1 ∧ ∀ j, j < k → x.1 ≤ (l.getD j (0, 0, #[])).1) ∧ Hid (wr.heap[w.heap.size + 1]? = some (.cells #[.int .i64 (x.1 : Nat), .func (.func x.2.1) #[] x.2.2] 64 (0, 0))) ∧ Hid (wr.heap[w.heap.size]? = some (.cells #[.int .i64 0, .nilFunc] 64 (0, 0))) ∧ Below w.heap.size w wr) (fun iv _ => n - (intOf iv).toNat)
  case atStart => exact ⟨1, P0, Nat.le_refl _, by omega, rfl, ⟨hm0, Nat.le_refl _, fun j hj => by rw [show j = 0 by omega, hP0]; exact Nat.le_refl _⟩, q1, q0, k0⟩
  case round =>
    clear k0 q0 q1 x0 x1
    obtain ⟨k, ⟨xE, xf, xc⟩, hk1, hkn, rfl, HX, HM, HR, hb⟩ := hrel
    by_cases hlt : k < n
    · have hyc := hc k hlt
      have HY : Hid (l.getD k (0, 0, #[]) ∈ l) := hmem k hlt
      generalize hYY : l.getD k (0, 0, #[]) = Y at *
      have HYE : Hid (l.getD k (0, 0, #[]) = Y) := hYY
      clear hYY
      obtain ⟨yE, yf, yc⟩ := Y
      have kd : Below wr.heap.size wr wr.drew := (Below.refl _ _).drew
      have HMd : wr.drew.heap[w.heap.size + 1]? = some (.cells #[.int .i64 (xE : Nat), .func (.func xf) #[] xc] 64 (0, 0)) := HM.out
      have HRd : wr.drew.heap[w.heap.size]? = some (.cells #[.int .i64 0, .nilFunc] 64 (0, 0)) := HR.out
      have hbd : Below w.heap.size w wr.drew := hb.drew
      have hS : wr.drew.cell? ⟨g, k * 2, none⟩ = some (.int .i64 (yE : Nat)) ∧ wr.drew.cell? ⟨g, k * 2 + 1, none⟩ = some (.func (.func yf) #[] yc) ∧ wr.drew.cell? ⟨w.heap.size + 1, 0, none⟩ = some (.int .i64 (xE : Nat)) ∧ wr.drew.cell? ⟨w.heap.size + 1, 1, none⟩ = some (.func (.func xf) #[] xc) := ⟨(hbd.cell hg).trans hyc.1, (hbd.cell hg).trans hyc.2, (cells2 HMd).1, (cells2 HMd).2.1⟩
      have hlg : g < wr.drew.heap.size := Nat.lt_of_lt_of_le hg hbd.size
      have hlm : w.heap.size + 1 < wr.drew.heap.size := lt_of_block HMd
      have keepS : ∀ u, Below wr.drew.heap.size wr.drew u → u.cell? ⟨g, k * 2, none⟩ = some (.int .i64 (yE : Nat)) ∧ u.cell? ⟨g, k * 2 + 1, none⟩ = some (.func (.func yf) #[] yc) ∧ u.cell? ⟨w.heap.size + 1, 0, none⟩ = some (.int .i64 (xE : Nat)) ∧ u.cell? ⟨w.heap.size + 1, 1, none⟩ = some (.func (.func xf) #[] xc) := fun u q => ⟨(q.cell hlg).trans hS.1, (q.cell hlg).trans hS.2.1, (q.cell hlm).trans hS.2.2.1, (q.cell hlm).trans hS.2.2.2⟩
      have hcm := cmp51 (yE, yf, yc) (xE, xf, xc) wr.drew
      have hltn : (k : Int) < (n : Int) := by omega
      clear hyc hc hmem HM HR hb kd hm0 hP0
      by_cases hy : yE < xE
      · have ec : cmpI (yE : Int) (xE : Int) = -1 := by unfold cmpI; rw [if_pos (by omega)]
        simp only at hcm
        rw [ec] at hcm
        clear ec
        go_wp2_with fail
        refine regionZ (by kernel_rfl) (fun u => u.cell? ⟨g, k * 2, none⟩ = some (.int .i64 (yE : Nat)) ∧ u.cell? ⟨g, k * 2 + 1, none⟩ = some (.func (.func yf) #[] yc) ∧ u.cell? ⟨w.heap.size + 1, 0, none⟩ = some (.int .i64 (xE : Nat)) ∧ u.cell? ⟨w.heap.size + 1, 1, none⟩ = some (.func (.func xf) #[] xc)) 999 ?_
        generalize wr.drew = wd at *
        refine anyZ_take (i := 0) (v := ?_) rfl (by kernel_rfl) (by kernel_rfl) (by kernel_rfl) (by kernel_rfl) (fun _ _ _ h => h) (by kernel_rfl) ?_ hS ?_
        rotate_left
        · intro w hSw; (try dsimp only at hSw); go_simp; try with_reducible rfl
        try simp only [Act.put]
        refine anyZ_take (i := 1) (v := ?_) rfl (by kernel_rfl) (by kernel_rfl) (by kernel_rfl) (by kernel_rfl) (fun _ _ _ h => h) (by kernel_rfl) ?_ hS ?_
        rotate_left
        · intro w hSw; (try dsimp only at hSw); go_simp; try with_reducible rfl
        try simp only [Act.put]
        refine anyZ_take (i := 2) (v := ?_) rfl (by kernel_rfl) (by kernel_rfl) (by kernel_rfl) (by kernel_rfl) (fun _ _ _ h => h) (by kernel_rfl) ?_ hS ?_
        rotate_left
        · intro w hSw; (try dsimp only at hSw); go_simp; try with_reducible rfl
        try simp only [Act.put]
        refine anyZ_take (i := 3) (v := ?_) rfl (by kernel_rfl) (by kernel_rfl) (by kernel_rfl) (by kernel_rfl) (fun _ _ _ h => h) (by kernel_rfl) ?_ hS ?_
        rotate_left
        · intro w hSw; (try dsimp only at hSw); go_simp; try with_reducible rfl
        try simp only [Act.put]
        refine anyZ_take (i := 4) (v := ?_) rfl (by kernel_rfl) (by kernel_rfl) (by kernel_rfl) (by kernel_rfl) (fun _ _ _ h => h) (by kernel_rfl) ?_ hS ?_
        rotate_left
        · intro w hSw; (try dsimp only at hSw); go_simp; try with_reducible rfl
        try simp only [Act.put]
        refine anyZ_take (i := 5) (v := ?_) rfl (by kernel_rfl) (by kernel_rfl) (by kernel_rfl) (by kernel_rfl) (fun _ _ _ h => h) (by kernel_rfl) ?_ hS ?_
        rotate_left
        · intro w hSw; (try dsimp only at hSw); go_simp; try with_reducible rfl
        try simp only [Act.put]
        refine anyZ_one (i := 6) (by kernel_rfl) rfl (fun K hK => ?_)
        go_simp
        refine hcm.mono ?_
        rintro e w1 ⟨rfl, hb1⟩
        have hS1 := keepS w1 hb1
        refine hK _ _ (fun _ => hS1) ?_
        clear hK K
        have R1 : w1.heap[w.heap.size + 1]? = some (.cells #[.int .i64 (xE : Nat), .func (.func xf) #[] xc] 64 (0, 0)) := (hb1.block _ (lt_of_block HMd)).trans HMd
        have R0 : w1.heap[w.heap.size]? = some (.cells #[.int .i64 0, .nilFunc] 64 (0, 0)) := (hb1.block _ (lt_of_block HRd)).trans HRd
        have B1 : Below w.heap.size w w1 := hbd.trans (hb1.mono hbd.size)
        obtain ⟨m0, m1, mz, ml⟩ := cells2 R1
        have HN : Hid (_ ∧ _ ∧ _) := ⟨R1, R0, B1⟩
        clear R1 R0 B1 HMd HRd hbd hcm keepS hS
        obtain ⟨g0, g1, _, _⟩ := hS1
        have hS1 := And.intro g0 (And.intro g1 (And.intro m0 m1))
        refine anyZ_take (i := 7) (v := ?_) rfl (by kernel_rfl) (by kernel_rfl) (by kernel_rfl) (by kernel_rfl) (fun _ _ _ h => h) (by kernel_rfl) ?_ hS1 ?_
        rotate_left
        · intro w hSw; (try dsimp only at hSw); go_simp; try with_reducible rfl
        try simp only [Act.put]
        refine anyZ_done (by kernel_rfl) ?_ _
        clear hS1
        go_wp2
        go_roundw
        case rel =>
          obtain ⟨h1, h0, hb⟩ := HN.out
          exact ⟨k + 1, (yE, yf, yc), by omega, by omega, by go_num, ⟨HY.out, by have := HX.out.2.1; simp only at this ⊢; omega, fun j hj => by
            by_cases e : j = k
            · rw [e, HYE.out]; exact Nat.le_refl _
            · exact Nat.le_trans (Nat.le_of_lt hy) (HX.out.2.2 j (by omega))⟩, set2_row h1 _ _, (Below.heap_setCell _ ⟨w.heap.size + 1, 1, none⟩ _ _ (by dsimp only; omega)).trans ((Below.heap_setCell _ ⟨w.heap.size + 1, 0, none⟩ _ _ (by dsimp only; omega)).trans h0), (hb.setCell (p := ⟨w.heap.size + 1, 0, none⟩) (by dsimp only; omega) _).setCell (p := ⟨w.heap.size + 1, 1, none⟩) (by dsimp only; omega) _⟩
        case measure => simp [intOf]; omega

      · have ec : ¬ cmpI (yE : Int) (xE : Int) < 0 := by unfold cmpI; rw [if_neg (by omega)]; split <;> omega
        simp only at hcm
        generalize cmpI (yE : Int) (xE : Int) = cv at *
        go_wp2_with fail
        refine regionZ (by kernel_rfl) (fun u => u.cell? ⟨g, k * 2, none⟩ = some (.int .i64 (yE : Nat)) ∧ u.cell? ⟨g, k * 2 + 1, none⟩ = some (.func (.func yf) #[] yc) ∧ u.cell? ⟨w.heap.size + 1, 0, none⟩ = some (.int .i64 (xE : Nat)) ∧ u.cell? ⟨w.heap.size + 1, 1, none⟩ = some (.func (.func xf) #[] xc)) 999 ?_
        generalize wr.drew = wd at *
        refine anyZ_take (i := 0) (v := ?_) rfl (by kernel_rfl) (by kernel_rfl) (by kernel_rfl) (by kernel_rfl) (fun _ _ _ h => h) (by kernel_rfl) ?_ hS ?_
        rotate_left
        · intro w hSw; (try dsimp only at hSw); go_simp; try with_reducible rfl
        try simp only [Act.put]
        refine anyZ_take (i := 1) (v := ?_) rfl (by kernel_rfl) (by kernel_rfl) (by kernel_rfl) (by kernel_rfl) (fun _ _ _ h => h) (by kernel_rfl) ?_ hS ?_
        rotate_left
        · intro w hSw; (try dsimp only at hSw); go_simp; try with_reducible rfl
        try simp only [Act.put]
        refine anyZ_take (i := 2) (v := ?_) rfl (by kernel_rfl) (by kernel_rfl) (by kernel_rfl) (by kernel_rfl) (fun _ _ _ h => h) (by kernel_rfl) ?_ hS ?_
        rotate_left
        · intro w hSw; (try dsimp only at hSw); go_simp; try with_reducible rfl
        try simp only [Act.put]
        refine anyZ_take (i := 3) (v := ?_) rfl (by kernel_rfl) (by kernel_rfl) (by kernel_rfl) (by kernel_rfl) (fun _ _ _ h => h) (by kernel_rfl) ?_ hS ?_
        rotate_left
        · intro w hSw; (try dsimp only at hSw); go_simp; try with_reducible rfl
        try simp only [Act.put]
        refine anyZ_take (i := 4) (v := ?_) rfl (by kernel_rfl) (by kernel_rfl) (by kernel_rfl) (by kernel_rfl) (fun _ _ _ h => h) (by kernel_rfl) ?_ hS ?_
        rotate_left
        · intro w hSw; (try dsimp only at hSw); go_simp; try with_reducible rfl
        try simp only [Act.put]
        refine anyZ_take (i := 5) (v := ?_) rfl (by kernel_rfl) (by kernel_rfl) (by kernel_rfl) (by kernel_rfl) (fun _ _ _ h => h) (by kernel_rfl) ?_ hS ?_
        rotate_left
        · intro w hSw; (try dsimp only at hSw); go_simp; try with_reducible rfl
        try simp only [Act.put]
        refine anyZ_one (i := 6) (by kernel_rfl) rfl (fun K hK => ?_)
        go_simp
        refine hcm.mono ?_
        rintro e w1 ⟨rfl, hb1⟩
        have hS1 := keepS w1 hb1
        refine hK _ _ (fun _ => hS1) ?_
        clear hK K
        have R1 : w1.heap[w.heap.size + 1]? = some (.cells #[.int .i64 (xE : Nat), .func (.func xf) #[] xc] 64 (0, 0)) := (hb1.block _ (lt_of_block HMd)).trans HMd
        have R0 : w1.heap[w.heap.size]? = some (.cells #[.int .i64 0, .nilFunc] 64 (0, 0)) := (hb1.block _ (lt_of_block HRd)).trans HRd
        have B1 : Below w.heap.size w w1 := hbd.trans (hb1.mono hbd.size)
        obtain ⟨m0, m1, mz, ml⟩ := cells2 R1
        have HN : Hid (_ ∧ _ ∧ _) := ⟨R1, R0, B1⟩
        clear R1 R0 B1 HMd HRd hbd hcm keepS hS
        obtain ⟨g0, g1, _, _⟩ := hS1
        have hS1 := And.intro g0 (And.intro g1 (And.intro m0 m1))
        refine anyZ_take (i := 7) (v := ?_) rfl (by kernel_rfl) (by kernel_rfl) (by kernel_rfl) (by kernel_rfl) (fun _ _ _ h => h) (by kernel_rfl) ?_ hS1 ?_
        rotate_left
        · intro w hSw; (try dsimp only at hSw); go_simp; try with_reducible rfl
        try simp only [Act.put]
        refine anyZ_done (by kernel_rfl) ?_ _
        clear hS1
        go_wp2
        go_roundw
        case rel => exact ⟨k + 1, (xE, xf, xc), by omega, by omega, by go_num, ⟨HX.out.1, HX.out.2.1, fun j hj => by
            by_cases e : j = k
            · rw [e, HYE.out]; show xE ≤ yE; omega
            · exact HX.out.2.2 j (by omega)⟩, HN.out.1, HN.out.2.1, HN.out.2.2⟩
        case measure => simp [intOf]; omega

    · obtain ⟨m0, m1, mz, ml⟩ := cells2 HM.out
      obtain ⟨r0, r1, rz, rl⟩ := cells2 HR.out
      simp only at m0 m1
      go_wp2
      refine bodyPost_ret (v := plV (xE, xf, xc)) ?_ rfl ⟨xE, xf, xc, HX.out.1, rfl, ⟨HX.out.2.1, fun y1 y2 y3 hy => by
        obtain ⟨j, hj, e⟩ := List.getElem_of_mem hy
        have := HX.out.2.2 j (by omega)
        rw [List.getD_eq_getElem?_getD, List.getElem?_eq_getElem hj, e] at this
        exact this⟩, (hb.setCell (p := ⟨w.heap.size, 0, none⟩) (by dsimp only; omega) _).setCell (p := ⟨w.heap.size, 1, none⟩) (by dsimp only; omega) _⟩
      simp [results, Tryz.results40, go_sem, r0, r1]
end Go.Proofs.YtmfijackgekioaaGreat

/-
  How far two places are alike, and a place's key: the program. For Deflates.
-/
namespace Go.Proofs.YtmfijackgekioaaGreat
open Go.RowKit

/-- A finder's own cells. -/
def FBox (w : World) (F M : Nat) (ea : Option Addr) (en : Nat) (T : ByteArray) (per : Nat) : Prop := w.heap[F]? = some (.cells #[.string T, .map (some M), .slice ea en en, .int .i64 (per : Nat)] 117 (0, 0))
theorem FBox.cells {w : World} {F M en per : Nat} {ea : Option Addr} {T : ByteArray} (h : FBox w F M ea en T per) : w.cell? ⟨F, 0, none⟩ = some (.string T) ∧ w.cell? ⟨F, 1, none⟩ = some (.map (some M)) ∧ w.cell? ⟨F, 2, none⟩ = some (.slice ea en en) ∧ w.cell? ⟨F, 3, none⟩ = some (.int .i64 (per : Nat)) :=
  ⟨cell_of_row _ _ _ _ _ _ h, cell_of_row _ _ _ _ _ _ h, cell_of_row _ _ _ _ _ _ h, cell_of_row _ _ _ _ _ _ h⟩
theorem FBox.below {w w' : World} {F M en per : Nat} {ea : Option Addr} {T : ByteArray} (h : FBox w F M ea en T per) (k : Below w.heap.size w w') : FBox w' F M ea en T per := (k.block _ (lt_of_block h)).trans h

theorem byte_at (T : ByteArray) (j : Nat) (h : j < T.size) : T[j].toNat = (T.data.toList.getD j 0).toNat := by
  rw [List.getD_eq_getElem?_getD, List.getElem?_eq_getElem (by simpa using h)]
  rfl

theorem idx_str (T : ByteArray) (j : Nat) (h : j < T.size) (v : Int) (hv : v = (j : Int)) (u : World) : (Instr.index 9 (.string T) (.int .i64 v)).run Tryz.prog u = .ok (.int .u8 ((T.data.toList.getD j 0).toNat : Nat)) u := by
  subst hv
  rw [← byte_at T j h]
  simp [go_sem, Instr.index, h]

set_option maxRecDepth 100000 in
set_option maxHeartbeats 2000000 in
theorem alike105 (F M en per : Nat) (ea : Option Addr) (T : ByteArray) (b p most : Nat) (w : World) (hF : FBox w F M ea en T per) (hb : b + most ≤ T.size) (hp : p + most ≤ T.size) (hT : T.size ≤ 4500000) :
    Calls Tryz.prog 109 #[.pointer (some ⟨F, 0, none⟩), .int .i64 b, .int .i64 p, .int .i64 most] w fun e w' => ∃ L : Nat, e = .returned (.int .i64 L) ∧ L ≤ most ∧ (∀ k, k < L → T.data.toList.getD (b + k) 0 = T.data.toList.getD (p + k) 0) ∧ (L = most ∨ T.data.toList.getD (b + L) 0 ≠ T.data.toList.getD (p + L) 0) ∧ ∃ n, w' = w.drewN n := by
  obtain ⟨c0, _⟩ := hF.cells
  clear hF
  go_enter Tryz.func109, Tryz.ntmps109
  go_wp2
  go_loopw [9] (fun lv wr => ∃ (L n : Nat), L ≤ most ∧ lv = .int .i64 L ∧ Hid (∀ k, k < L → T.data.toList.getD (b + k) 0 = T.data.toList.getD (p + k) 0) ∧ wr = w.drewN n) (fun lv _ => most - (intOf lv).toNat)
  case atStart => exact ⟨0, 0, Nat.zero_le _, rfl, fun k hk => by omega, rfl⟩
  case round =>
    obtain ⟨L, n, hL, rfl, HR, rfl⟩ := hrel
    by_cases hlt : L < most
    · have x1 := fun u => idx_str T (b + L) (by omega) ((b : Int) + (L : Int)) (by omega) u
      have x2 := fun u => idx_str T (p + L) (by omega) ((p : Int) + (L : Int)) (by omega) u
      have HX : Hid ((T.data.toList.getD (b + L) 0).toNat = (T.data.toList.getD (p + L) 0).toNat → ∀ k, k < L + 1 → T.data.toList.getD (b + k) 0 = T.data.toList.getD (p + k) 0) := fun hh k hk => by
        by_cases e : k = L
        · rw [e]
          exact UInt8.toNat_inj.1 (by omega)
        · exact HR.out k (by omega)
      have HXN : Hid (¬ (T.data.toList.getD (b + L) 0).toNat = (T.data.toList.getD (p + L) 0).toNat → T.data.toList.getD (b + L) 0 ≠ T.data.toList.getD (p + L) 0) := fun hh e => hh (by rw [e])
      have hdec : decide ((L : Int) < (most : Int)) = true := by simp; omega
      have w1 : IntKind.i64.wrap ((b : Int) + (L : Int)) = (b : Int) + (L : Int) := IntWalk.i64_in _ (by omega)
      have w2 : IntKind.i64.wrap ((p : Int) + (L : Int)) = (p : Int) + (L : Int) := IntWalk.i64_in _ (by omega)
      generalize (T.data.toList.getD (b + L) 0).toNat = x at *
      generalize (T.data.toList.getD (p + L) 0).toNat = y at *
      by_cases hxy : x = y
      · have hxe : ((x : Int) == (y : Int)) = true := by simp [hxy]
        go_wp2
        go_quiet (fail)
        go_wp2
        go_roundw
        case rel => exact ⟨L + 1, n + nq, by omega, by go_num, HX.out hxy, rfl⟩
        case measure => simp [intOf]; omega
      · have hxe : ((x : Int) == (y : Int)) = false := by simp; omega
        go_wp2
        go_quiet (fail)
        go_wp2
        go_ret
        exact ⟨L, rfl, hL, HR.out, .inr (HXN.out hxy), n + nq, by simp⟩
    · have hdec : decide ((L : Int) < (most : Int)) = false := by simp; omega
      go_wp2
      go_quiet (fail)
      go_wp2
      go_ret
      exact ⟨L, rfl, hL, HR.out, .inl (by omega), n + nq, by simp⟩

/-- A place's key. -/
def fbN (T : ByteArray) (p : Nat) : Nat := ((T.data.toList.getD p 0).toNat * 65536 ||| (T.data.toList.getD (p + 1) 0).toNat * 256) ||| (T.data.toList.getD (p + 2) 0).toNat
theorem fbN_lt (T : ByteArray) (p : Nat) : fbN T p < 16777216 := by
  have a := (T.data.toList.getD p 0).toNat_lt
  have b := (T.data.toList.getD (p + 1) 0).toNat_lt
  have c := (T.data.toList.getD (p + 2) 0).toNat_lt
  exact Nat.or_lt_two_pow (n := 24) (Nat.or_lt_two_pow (by omega) (by omega)) (by omega)

set_option maxRecDepth 100000 in
set_option maxHeartbeats 2000000 in
theorem firstBytes106 (F M en per : Nat) (ea : Option Addr) (T : ByteArray) (p : Nat) (w : World) (hF : FBox w F M ea en T per) (hp : p + 3 ≤ T.size) (hT : T.size ≤ 4500000) :
    Calls Tryz.prog 110 #[.pointer (some ⟨F, 0, none⟩), .int .i64 p] w fun e w' => e = .returned (.int .u32 (fbN T p : Nat)) ∧ ∃ n, w' = w.drewN n := by
  obtain ⟨c0, _⟩ := hF.cells
  clear hF
  have hU : (T.extract p (p + 3)).size = 3 := by simp; omega
  obtain ⟨U, hUe⟩ : ∃ U, T.extract p (p + 3) = U := ⟨_, rfl⟩
  have gu : ∀ j (h : j < U.size), j < 3 → U[j].toNat = (T.data.toList.getD (p + j) 0).toNat := fun j h h3 => by
    rw [byte_at U j h, ← hUe, ByteArray.data_extract, Array.toList_extract, List.extract_eq_take_drop, List.getD_eq_getElem?_getD, List.getD_eq_getElem?_getD, List.getElem?_take, if_pos (by omega), List.getElem?_drop]
  rw [hUe] at hU
  have g0 := gu 0 (by omega) (by omega)
  have g1 := gu 1 (by omega) (by omega)
  have g2 := gu 2 (by omega) (by omega)
  have b0 := (T.data.toList.getD p 0).toNat_lt
  have b1 := (T.data.toList.getD (p + 1) 0).toNat_lt
  have b2 := (T.data.toList.getD (p + 2) 0).toNat_lt
  unfold fbN
  have g0 : U[0].toNat = (T.data.toList.getD p 0).toNat := g0
  generalize (T.data.toList.getD p 0).toNat = x at *
  generalize (T.data.toList.getD (p + 1) 0).toNat = y at *
  generalize (T.data.toList.getD (p + 2) 0).toNat = z at *
  clear gu
  have o1 := u32_or_nat (x * 65536) (y * 256) (by omega) (by omega)
  have hxy : (x * 65536 ||| y * 256) < 16777216 := Nat.or_lt_two_pow (n := 24) (by omega) (by omega)
  have o2 := u32_or_nat (x * 65536 ||| y * 256) z (by omega) (by omega)
  have O : Hid (_ ∧ _) := ⟨o1, o2⟩
  clear o1 o2 hxy
  go_enter Tryz.func110, Tryz.ntmps110
  go_wp2
  go_quiet (fail)
  go_wp2
  go_ret
  refine ⟨congrArg (fun v => Ending.returned (Value.int .u32 v)) ?_, ⟨_, rfl⟩⟩
  have e1 := O.out.1
  have e2 := O.out.2
  rw [show ((x * 65536 : Nat) : Int) = (x : Int) * 65536 by omega, show ((y * 256 : Nat) : Int) = (y : Int) * 256 by omega] at e1
  rw [e1]
  exact e2
end Go.Proofs.YtmfijackgekioaaGreat

/-
  The finder remembers a place: the program. For Deflates.
-/
namespace Go.Proofs.YtmfijackgekioaaGreat
open Go.RowKit Go.Maps

theorem keyed32 : Keyed Tryz.prog 139 := int_keyed Tryz.underlying139
theorem wf32 (a : Nat) (h : a < 16777216) : (Lit.int .u32 (a : Int)).wf = true := by
  have e1 : IntKind.u32.min = 0 := by decide
  have e2 : IntKind.u32.max = 4294967295 := by decide
  simp only [Lit.wf, e1, e2, Bool.and_eq_true, decide_eq_true_eq]
  omega
theorem key32 (a : Nat) (h : a < 16777216) : keyOf Tryz.prog 139 (.int .u32 (a : Int)) = some (.int .u32 (a : Int)) := keyOf_int_mk Tryz.underlying139 (wf32 a h)
abbrev k32 (a : Nat) : Lit := .int .u32 (a : Int)
theorem isKey32 (a : Nat) (h : a < 16777216) : WideAt.IsKeyLit (k32 a) := keyed32.key (key32 a h)

/-- What the map holds: under a key the latest of the places that have it, none too far. -/
structure MapOk (D : DataW Unit) (T : ByteArray) (lo N : Nat) : Prop where
  isMap : IsMap D
  val : ∀ x : Nat, x < 16777216 → Maps.has D (k32 x) = true → ∃ v : Nat, D.atKey (k32 x) (.lit (.int .i64 0)) = .lit (.int .i64 (v : Int)) ∧ v < N ∧ lo ≤ v ∧ fbN T v = x ∧ v + 3 ≤ T.size
theorem MapOk.weak {D : DataW Unit} {T : ByteArray} {lo N lo' N' : Nat} (h : MapOk D T lo N) (h1 : lo' ≤ lo) (h2 : N ≤ N') : MapOk D T lo' N' :=
  ⟨h.isMap, fun x hx hh => by obtain ⟨v, a, b, c, d⟩ := h.val x hx hh; exact ⟨v, a, by omega, by omega, d⟩⟩
theorem MapOk.put {D : DataW Unit} {T : ByteArray} {lo N p : Nat} (h : MapOk D T lo N) (h1 : lo ≤ p) (h2 : p < N) (h3 : p + 3 ≤ T.size) : MapOk (D.put (k32 (fbN T p)) (.lit (.int .i64 (p : Int)))) T lo N := by
  have hk := isKey32 _ (fbN_lt T p)
  refine ⟨h.isMap.put _ _, fun x hx hh => ?_⟩
  by_cases e : x = fbN T p
  · subst e
    exact ⟨p, atKey_put_same h.isMap hk _ _, h2, h1, rfl, h3⟩
  · have hne : k32 x ≠ k32 (fbN T p) := fun q => e (by simp only [k32, Lit.int.injEq, true_and] at q; omega)
    rw [has_put_other hne] at hh
    obtain ⟨v, a, b⟩ := h.val x hx hh
    exact ⟨v, by rw [atKey_put_other hne]; exact a, b⟩
/-- The place that is now too far has gone. -/
theorem MapOk.far {D : DataW Unit} {T : ByteArray} {f N : Nat} (h : MapOk D T f N) : MapOk (D.del (k32 (fbN T f))) T (f + 1) N := by
  refine ⟨h.isMap.del _, fun x hx hh => ?_⟩
  by_cases e : x = fbN T f
  · subst e
    rw [has_del_same] at hh
    cases hh
  · have hne : k32 x ≠ k32 (fbN T f) := fun q => e (by simp only [k32, Lit.int.injEq, true_and] at q; omega)
    rw [has_del_other hne] at hh
    obtain ⟨v, a, b, c, d, g⟩ := h.val x hx hh
    refine ⟨v, by rw [atKey_del_other hne]; exact a, b, ?_, d, g⟩
    rcases Nat.lt_or_ge f v with q | q
    · exact q
    · have : v = f := by omega
      subst this
      exact absurd d.symm e
theorem MapOk.near {D : DataW Unit} {T : ByteArray} {f N : Nat} (h : MapOk D T f N) (c : Int) (hc : D.atKey (k32 (fbN T f)) (.lit (.int .i64 0)) = .lit (.int .i64 c)) (hne : c ≠ (f : Int)) : MapOk D T (f + 1) N := by
  refine ⟨h.isMap, fun x hx hh => ?_⟩
  obtain ⟨v, a, b, cc, d, g⟩ := h.val x hx hh
  refine ⟨v, a, b, ?_, d, g⟩
  rcases Nat.lt_or_ge f v with q | q
  · exact q
  · have : v = f := by omega
    subst this
    rw [d, a] at hc
    simp only [DataW.lit.injEq, Lit.int.injEq, true_and] at hc
    exact absurd hc.symm hne

/-- The finder, when N places have been remembered. -/
structure Fd (w : World) (F M G en per : Nat) (T : ByteArray) (N : Nat) : Prop where
  box : FBox w F M (some ⟨G, 0, none⟩) en T per
  map : ∃ D q, w.ownsMap Tryz.prog 139 (plainElem Tryz.prog 3) M q D ∧ q ≤ N ∧ MapOk D T (N - 32768) N
  ear : ∃ es, Lst w G es ∧ es.length = en ∧ ∀ j, -1 ≤ es.getD j 0 ∧ (es.getD j 0 < (N : Int) ∨ es.getD j 0 = 0)
  sz : en = min T.size 32768
  ne : F ≠ M ∧ F ≠ G ∧ M ≠ G
theorem Fd.kept {w w' : World} {F M G en per N : Nat} {T : ByteArray} (h : Fd w F M G en per T N) (k : ∀ j, j = F ∨ j = M ∨ j = G → w'.heap[j]? = w.heap[j]?) : Fd w' F M G en per T N := by
  obtain ⟨a, ⟨D, q, b1, b2⟩, ⟨es, c1, c2⟩, d, e⟩ := h
  refine ⟨(k F (.inl rfl)).trans a, ⟨D, q, ?_, b2⟩, ⟨es, (k G (.inr (.inr rfl))).trans c1, c2⟩, d, e⟩
  obtain ⟨es', clock, hb, r⟩ := b1
  exact ⟨es', clock, (k M (.inr (.inl rfl))).trans hb, r⟩
theorem Fd.lt {w : World} {F M G en per N : Nat} {T : ByteArray} (h : Fd w F M G en per T N) : F < w.heap.size ∧ M < w.heap.size ∧ G < w.heap.size := by
  obtain ⟨D, q, b1, _⟩ := h.map
  obtain ⟨es, c1, _⟩ := h.ear
  exact ⟨lt_of_block h.box, b1.lt, lt_of_block c1⟩
theorem Fd.below {w w' : World} {F M G en per N : Nat} {T : ByteArray} (h : Fd w F M G en per T N) (k : Below w.heap.size w w') : Fd w' F M G en per T N := by
  obtain ⟨a, b, c⟩ := h.lt
  exact h.kept (fun j hj => k.block j (by rcases hj with rfl | rfl | rfl <;> assumption))

theorem es_set {es : List Int} {N i : Nat} {x : Int} (h : ∀ j, -1 ≤ es.getD j 0 ∧ (es.getD j 0 < (N : Int) ∨ es.getD j 0 = 0)) (h1 : -1 ≤ x) (h2 : x < (N : Int) ∨ x = 0) : ∀ j, -1 ≤ (es.set i x).getD j 0 ∧ ((es.set i x).getD j 0 < ((N + 1 : Nat) : Int) ∨ (es.set i x).getD j 0 = 0) := fun j => by
  rw [List.getD_eq_getElem?_getD, List.getElem?_set]
  have := h j
  rw [List.getD_eq_getElem?_getD] at this
  split
  · split
    · simp only [Option.getD_some]
      omega
    · simp
  · omega
theorem es_up {es : List Int} {N : Nat} (h : ∀ j, -1 ≤ es.getD j 0 ∧ (es.getD j 0 < (N : Int) ∨ es.getD j 0 = 0)) : ∀ j, -1 ≤ es.getD j 0 ∧ (es.getD j 0 < ((N + 1 : Nat) : Int) ∨ es.getD j 0 = 0) := fun j => by
  have := h j
  omega
end Go.Proofs.YtmfijackgekioaaGreat

/-
  The finder remembers a place. For Deflates.
-/
namespace Go.Proofs.YtmfijackgekioaaGreat
open Go.RowKit Go.Maps

set_option maxRecDepth 100000 in
set_option maxHeartbeats 4000000 in
theorem remember88 (F M G en per N : Nat) (T : ByteArray) (w : World) (h : Fd w F M G en per T N) (hN : N < T.size) (hT : T.size ≤ 4500000) :
    Calls Tryz.prog 89 #[.pointer (some ⟨F, 0, none⟩), .int .i64 N] w fun e w' => e = .returned (.tuple #[]) ∧ Fd w' F M G en per T (N + 1) ∧ Kp (fun k => k = M ∨ k = G) w w' := by
  obtain ⟨hB0, ⟨D0, q0, hM0, hq0, hk0⟩, ⟨es, hL0, hel, hes⟩, hsz, hne⟩ := h
  have hkp0 : Kp (fun k => k = M ∨ k = G) w w := Kp.refl _ _
  have hwN : (Lit.int .i64 (N : Int)).wf = true := WalkArith.wf_i64 (by omega)
  obtain ⟨r, hr⟩ : ∃ r, N % 32768 = r := ⟨_, rfl⟩
  have hidx : r < es.length := by omega
  have hrem : (N : Int).tmod 32768 = (r : Int) := by rw [Int.tmod_eq_emod_of_nonneg (by omega)]; omega
  have HR : Hid (N % 32768 = r) := hr
  clear hr
  have HK0 : Hid (MapOk D0 T (N - 32768) N) := hk0
  clear hk0
  have hrN : r < 32768 := by have := HR.out; omega
  have HSZ : Hid (en = min T.size 32768) := hsz
  clear hsz
  obtain ⟨c0, c1, c2, c3⟩ := hB0.cells
  obtain ⟨fi, w1⟩ : ∃ fi, IntKind.i64.wrap ((N : Int) - 32768) = fi := ⟨_, rfl⟩
  have HFI : Hid (fi = (N : Int) - 32768) := by show _ = _; rw [← w1]; exact IntWalk.i64_in _ (by omega)
  obtain ⟨li, w2⟩ : ∃ li, IntKind.i64.wrap ((T.size : Int) - (N : Int)) = li := ⟨_, rfl⟩
  have HLI : Hid (li = (T.size : Int) - (N : Int)) := by show _ = _; rw [← w2]; exact IntWalk.i64_in _ (by omega)
  have HT : Hid (N < T.size ∧ T.size ≤ 4500000) := ⟨hN, hT⟩
  by_cases hfar : fi ≥ 0
  · obtain ⟨f, rfl⟩ : ∃ f : Nat, fi = (f : Int) := ⟨fi.toNat, by omega⟩
    have hfN : Hid (N = f + 32768) := by show _ = _; have := HFI.out; omega
    have hk0' : Hid (MapOk D0 T f N) := HK0.out.weak (by have := hfN.out; omega) (Nat.le_refl _)
    have hkeyf := key32 (fbN T f) (fbN_lt T f)
    obtain ⟨cv, _, hcval, _⟩ := hM0.lookup_int keyed32 Tryz.underlying115 Tryz.underlying3 (zero3 w) hkeyf
    have HNR : cv ≠ (f : Int) → Hid (MapOk D0 T (N + 1 - 32768) N) := fun hc => by
      have := hk0'.out.near cv hcval hc
      rw [show f + 1 = N + 1 - 32768 by have := hfN.out; omega] at this
      exact this
    have HDL : Hid (MapOk (D0.del (k32 (fbN T f))) T (N + 1 - 32768) N) := by
      have := hk0'.out.far
      rw [show f + 1 = N + 1 - 32768 by have := hfN.out; omega] at this
      exact this
    have hfT : f + 3 ≤ T.size := by have := hfN.out; omega
    have HTT := HT.out.2
    have hfb := firstBytes106 F M en per _ T f w hB0 hfT hT
    clear hN hT HK0 hk0' HTT hfT
    generalize hkf : fbN T f = kf at *
    by_cases hcf : cv = (f : Int)
    · have hcb : (cv == (f : Int)) = true := by simp [hcf]
      have hk1 : Hid (MapOk (D0.del (k32 kf)) T (N + 1 - 32768) N) := HDL
      clear HNR HDL
      go_enter Tryz.func89, Tryz.ntmps89
      go_wp2_with fail
      refine hfb.mono ?_
      rintro e u0 ⟨rfl, n1, rfl⟩
      have hB' : FBox (w.drewN n1) F M (some ⟨G, 0, none⟩) en T per := hB0
      have hM' : (w.drewN n1).ownsMap Tryz.prog 139 (plainElem Tryz.prog 3) M q0 D0 := hM0
      have hL' : Lst (w.drewN n1) G es := hL0
      have hkp' : Kp (fun k => k = M ∨ k = G) w (w.drewN n1) := hkp0.drewN n1
      clear hfb c0 c1 c2 c3
      obtain ⟨c0, c1, c2, c3⟩ := hB'.cells
      have hTu : ∀ u1, (w.drewN n1).mapTurned u1 M → FBox u1 F M (some ⟨G, 0, none⟩) en T per ∧ Lst u1 G es ∧ Kp (fun k => k = M ∨ k = G) w u1 := fun u1 ht => by
        have hg := ht.grown
        exact ⟨(hg.block F (lt_of_block hB') (fun e => hne.1 (Option.some.inj e))).trans hB', (hg.block G (lt_of_block hL') (fun e => hne.2.2 (Option.some.inj e).symm)).trans hL', hkp'.grown hg (fun k e => by cases e; exact .inl (.inl rfl))⟩
      have hTc : ∀ u1, (w.drewN n1).mapTurned u1 M → u1.cell? ⟨F, 0, none⟩ = some (.string T) := fun u1 ht => (hTu u1 ht).1.cells.1
      generalize w.drewN n1 = u0 at *
      by_cases hsh : li < 3
      · go_wp2_with (first | (at_lookup; refine wpList_lookup_own_int _ rfl _ _ 115 rfl 139 3 .i64 keyed32 Tryz.underlying115 Tryz.underlying3 (zero3 _) M _ _ rfl hM' _ _ rfl hkeyf ?_; intro c hat hwc; clear hwc; rw [hcval] at hat; simp only [DataW.lit.injEq, Lit.int.injEq, true_and] at hat; subst hat) | (at_delete; refine wpList_delete_own _ rfl _ _ 115 139 rfl 3 keyed32 Tryz.underlying115 _ M _ _ rfl hM' _ _ rfl hkeyf ?_; intro u1 hM1 ht1))
        obtain ⟨hB1, hL1, hkp1⟩ := hTu u1 ht1
        have hTN := HT.out
        have hli := HLI.out
        exact bodyPost_ret (results_none rfl _ _ _) rfl ⟨rfl, ⟨hB1, ⟨(D0.del (k32 kf)), q0, hM1, by omega, hk1.out.weak (by omega) (by omega)⟩, ⟨es, hL1, hel, es_up hes⟩, HSZ.out, hne⟩, hkp1⟩
      · go_wp2_with (first | (at_lookup; refine wpList_lookup_own_int _ rfl _ _ 115 rfl 139 3 .i64 keyed32 Tryz.underlying115 Tryz.underlying3 (zero3 _) M _ _ rfl hM' _ _ rfl hkeyf ?_; intro c hat hwc; clear hwc; rw [hcval] at hat; simp only [DataW.lit.injEq, Lit.int.injEq, true_and] at hat; subst hat) | (at_delete; refine wpList_delete_own _ rfl _ _ 115 139 rfl 3 keyed32 Tryz.underlying115 _ M _ _ rfl hM' _ _ rfl hkeyf ?_; intro u1 hM1 ht1))
        obtain ⟨hB1, hL1, hkp1⟩ := hTu u1 ht1
        refine (firstBytes106 F M en per _ T N u1 hB1 (by have := HT.out; have := HLI.out; omega) HT.out.2).mono ?_
        rintro e u2 ⟨rfl, n2, rfl⟩
        have hB2 : FBox (u1.drewN n2) F M (some ⟨G, 0, none⟩) en T per := hB1
        have hM2 : (u1.drewN n2).ownsMap Tryz.prog 139 (plainElem Tryz.prog 3) M q0 (D0.del (k32 kf)) := hM1
        have hL2 : Lst (u1.drewN n2) G es := hL1
        have hkp2 : Kp (fun k => k = M ∨ k = G) w (u1.drewN n2) := hkp1.drewN n2
        have HP : Hid (MapOk ((D0.del (k32 kf)).put (k32 (fbN T N)) (.lit (.int .i64 (N : Int)))) T (N + 1 - 32768) (N + 1)) := (hk1.out.weak (Nat.le_refl _) (Nat.le_succ _)).put (by omega) (by omega) (by have := HT.out; have := HLI.out; omega)
        generalize u1.drewN n2 = u2 at *
        clear hB1 hM1 hL1 hkp1
        obtain ⟨d0, d1, d2, d3⟩ := hB2.cells
        have cG := hL2.at_ r (by omega)
        have fzG : ∀ j, u2.frozen? ⟨G, j, none⟩ = false := fun j => frozen_of_row u2 G j _ _ hL2
        have hMs := fun x => hM2.setCell (a := ⟨G, r, none⟩) hne.2.2 x
        have hLs := fun x : Int => hL2.set r x
        have hBs := fun x : Value => (Below.heap_setCell u2 ⟨G, r, none⟩ x F hne.2.1).trans hB2
        have hks := fun x : Value => hkp2.setCell (p := ⟨G, r, none⟩) (.inl (.inr rfl)) x
        have HC : Hid (_ ∧ _ ∧ _ ∧ _) := ⟨hMs, hLs, hBs, hks⟩
        have hkey2 := key32 (fbN T N) (fbN_lt T N)
        have hqm : q0 < maxLen := by have := HT.out; unfold maxLen; omega
        have hlG : G < u2.heap.size := lt_of_block hL2
        have hlF : F < u2.heap.size := lt_of_block hB2
        have hv0 := hk1.out.val _ (fbN_lt T N)
        have hnot : Maps.has (D0.del (k32 kf)) (k32 (fbN T N)) = false → (D0.del (k32 kf)).atKey (k32 (fbN T N)) (.lit (.int .i64 0)) = .lit (.int .i64 0) := fun hh => atKey_of_not_has hh _
        generalize hfb : fbN T N = kx at *
        clear hL2 hB2 hLs hBs hks hkp2
        by_cases hh : Maps.has (D0.del (k32 kf)) (k32 kx) = true
        · obtain ⟨v, hval, hvN, _⟩ := hv0 hh
          clear hv0 hnot hMs
          go_wp2_with (first | (at_lookup; refine wpList_lookup_own_ok_int _ rfl _ _ 115 rfl 139 3 .i64 keyed32 Tryz.underlying115 Tryz.underlying3 (zero3 _) M _ _ rfl hM2 _ _ rfl hkey2 ?_; intro c hat hwc; clear hwc; rw [hval] at hat; simp only [DataW.lit.injEq, Lit.int.injEq, true_and] at hat; subst hat) | (at_mapUpdate; refine wpList_mapUpdate_own _ rfl _ _ _ 115 rfl 139 3 keyed32 Tryz.underlying115 _ M _ _ rfl (HC.out.1 _) hqm _ _ _ rfl rfl hkey2 _ [] (plainElem_int Tryz.underlying3 hwN) ?_; intro u3 hown3 hg3))
          go_end0
          obtain ⟨HMs, HLs, HBs, HKs⟩ := HC.out
          exact ⟨rfl, ⟨(hg3.block F (by rw [World.size_setCell]; omega) (fun e => hne.1 (Option.some.inj e))).trans (HBs _), ⟨_, q0 + 1, hown3, by omega, HP.out⟩, ⟨_, (hg3.block G (by rw [World.size_setCell]; omega) (fun e => hne.2.2 (Option.some.inj e).symm)).trans (HLs _), by rw [List.length_set]; exact hel, es_set hes (by omega) (by omega)⟩, HSZ.out, hne⟩, (HKs _).grown hg3 (fun k e => by cases e; exact .inl (.inl rfl))⟩
        · have hh : Maps.has (D0.del (k32 kf)) (k32 kx) = false := by simpa using hh
          have hval := hnot hh
          clear hv0 hnot hMs
          go_wp2_with (first | (at_lookup; refine wpList_lookup_own_ok_int _ rfl _ _ 115 rfl 139 3 .i64 keyed32 Tryz.underlying115 Tryz.underlying3 (zero3 _) M _ _ rfl hM2 _ _ rfl hkey2 ?_; intro c hat hwc; clear hwc; rw [hval] at hat; simp only [DataW.lit.injEq, Lit.int.injEq, true_and] at hat; subst hat) | (at_mapUpdate; refine wpList_mapUpdate_own _ rfl _ _ _ 115 rfl 139 3 keyed32 Tryz.underlying115 _ M _ _ rfl (HC.out.1 _) hqm _ _ _ rfl rfl hkey2 _ [] (plainElem_int Tryz.underlying3 hwN) ?_; intro u3 hown3 hg3))
          go_end0
          obtain ⟨HMs, HLs, HBs, HKs⟩ := HC.out
          exact ⟨rfl, ⟨(hg3.block F (by rw [World.size_setCell]; omega) (fun e => hne.1 (Option.some.inj e))).trans (HBs _), ⟨_, q0 + 1, hown3, by omega, HP.out⟩, ⟨_, (hg3.block G (by rw [World.size_setCell]; omega) (fun e => hne.2.2 (Option.some.inj e).symm)).trans (HLs _), by rw [List.length_set]; exact hel, es_set hes (by omega) (by omega)⟩, HSZ.out, hne⟩, (HKs _).grown hg3 (fun k e => by cases e; exact .inl (.inl rfl))⟩
    · have hcb : (cv == (f : Int)) = false := by simp [hcf]
      have hk1 := HNR hcf
      clear HNR HDL
      go_enter Tryz.func89, Tryz.ntmps89
      go_wp2_with fail
      refine hfb.mono ?_
      rintro e u0 ⟨rfl, n1, rfl⟩
      have hB1 : FBox (w.drewN n1) F M (some ⟨G, 0, none⟩) en T per := hB0
      have hM1 : (w.drewN n1).ownsMap Tryz.prog 139 (plainElem Tryz.prog 3) M q0 D0 := hM0
      have hL1 : Lst (w.drewN n1) G es := hL0
      have hkp1 : Kp (fun k => k = M ∨ k = G) w (w.drewN n1) := hkp0.drewN n1
      clear hfb c0 c1 c2 c3
      obtain ⟨c0, c1, c2, c3⟩ := hB1.cells
      generalize w.drewN n1 = u1 at *
      by_cases hsh : li < 3
      · go_wp2_with ((at_lookup; refine wpList_lookup_own_int _ rfl _ _ 115 rfl 139 3 .i64 keyed32 Tryz.underlying115 Tryz.underlying3 (zero3 _) M _ _ rfl hM1 _ _ rfl hkeyf ?_; intro c hat hwc; clear hwc; rw [hcval] at hat; simp only [DataW.lit.injEq, Lit.int.injEq, true_and] at hat; subst hat))
        have hTN := HT.out
        have hli := HLI.out
        exact bodyPost_ret (results_none rfl _ _ _) rfl ⟨rfl, ⟨hB1, ⟨D0, q0, hM1, by omega, hk1.out.weak (by omega) (by omega)⟩, ⟨es, hL1, hel, es_up hes⟩, HSZ.out, hne⟩, hkp1⟩
      · go_wp2_with ((at_lookup; refine wpList_lookup_own_int _ rfl _ _ 115 rfl 139 3 .i64 keyed32 Tryz.underlying115 Tryz.underlying3 (zero3 _) M _ _ rfl hM1 _ _ rfl hkeyf ?_; intro c hat hwc; clear hwc; rw [hcval] at hat; simp only [DataW.lit.injEq, Lit.int.injEq, true_and] at hat; subst hat))
        refine (firstBytes106 F M en per _ T N u1 hB1 (by have := HT.out; have := HLI.out; omega) HT.out.2).mono ?_
        rintro e u2 ⟨rfl, n2, rfl⟩
        have hB2 : FBox (u1.drewN n2) F M (some ⟨G, 0, none⟩) en T per := hB1
        have hM2 : (u1.drewN n2).ownsMap Tryz.prog 139 (plainElem Tryz.prog 3) M q0 D0 := hM1
        have hL2 : Lst (u1.drewN n2) G es := hL1
        have hkp2 : Kp (fun k => k = M ∨ k = G) w (u1.drewN n2) := hkp1.drewN n2
        have HP : Hid (MapOk (D0.put (k32 (fbN T N)) (.lit (.int .i64 (N : Int)))) T (N + 1 - 32768) (N + 1)) := (hk1.out.weak (Nat.le_refl _) (Nat.le_succ _)).put (by omega) (by omega) (by have := HT.out; have := HLI.out; omega)
        generalize u1.drewN n2 = u2 at *
        clear hB1 hM1 hL1 hkp1
        obtain ⟨d0, d1, d2, d3⟩ := hB2.cells
        have cG := hL2.at_ r (by omega)
        have fzG : ∀ j, u2.frozen? ⟨G, j, none⟩ = false := fun j => frozen_of_row u2 G j _ _ hL2
        have hMs := fun x => hM2.setCell (a := ⟨G, r, none⟩) hne.2.2 x
        have hLs := fun x : Int => hL2.set r x
        have hBs := fun x : Value => (Below.heap_setCell u2 ⟨G, r, none⟩ x F hne.2.1).trans hB2
        have hks := fun x : Value => hkp2.setCell (p := ⟨G, r, none⟩) (.inl (.inr rfl)) x
        have HC : Hid (_ ∧ _ ∧ _ ∧ _) := ⟨hMs, hLs, hBs, hks⟩
        have hkey2 := key32 (fbN T N) (fbN_lt T N)
        have hqm : q0 < maxLen := by have := HT.out; unfold maxLen; omega
        have hlG : G < u2.heap.size := lt_of_block hL2
        have hlF : F < u2.heap.size := lt_of_block hB2
        have hv0 := hk1.out.val _ (fbN_lt T N)
        have hnot : Maps.has D0 (k32 (fbN T N)) = false → D0.atKey (k32 (fbN T N)) (.lit (.int .i64 0)) = .lit (.int .i64 0) := fun hh => atKey_of_not_has hh _
        generalize hfb : fbN T N = kx at *
        clear hL2 hB2 hLs hBs hks hkp2
        by_cases hh : Maps.has D0 (k32 kx) = true
        · obtain ⟨v, hval, hvN, _⟩ := hv0 hh
          clear hv0 hnot hMs
          go_wp2_with (first | (at_lookup; refine wpList_lookup_own_ok_int _ rfl _ _ 115 rfl 139 3 .i64 keyed32 Tryz.underlying115 Tryz.underlying3 (zero3 _) M _ _ rfl hM2 _ _ rfl hkey2 ?_; intro c hat hwc; clear hwc; rw [hval] at hat; simp only [DataW.lit.injEq, Lit.int.injEq, true_and] at hat; subst hat) | (at_mapUpdate; refine wpList_mapUpdate_own _ rfl _ _ _ 115 rfl 139 3 keyed32 Tryz.underlying115 _ M _ _ rfl (HC.out.1 _) hqm _ _ _ rfl rfl hkey2 _ [] (plainElem_int Tryz.underlying3 hwN) ?_; intro u3 hown3 hg3))
          go_end0
          obtain ⟨HMs, HLs, HBs, HKs⟩ := HC.out
          exact ⟨rfl, ⟨(hg3.block F (by rw [World.size_setCell]; omega) (fun e => hne.1 (Option.some.inj e))).trans (HBs _), ⟨_, q0 + 1, hown3, by omega, HP.out⟩, ⟨_, (hg3.block G (by rw [World.size_setCell]; omega) (fun e => hne.2.2 (Option.some.inj e).symm)).trans (HLs _), by rw [List.length_set]; exact hel, es_set hes (by omega) (by omega)⟩, HSZ.out, hne⟩, (HKs _).grown hg3 (fun k e => by cases e; exact .inl (.inl rfl))⟩
        · have hh : Maps.has D0 (k32 kx) = false := by simpa using hh
          have hval := hnot hh
          clear hv0 hnot hMs
          go_wp2_with (first | (at_lookup; refine wpList_lookup_own_ok_int _ rfl _ _ 115 rfl 139 3 .i64 keyed32 Tryz.underlying115 Tryz.underlying3 (zero3 _) M _ _ rfl hM2 _ _ rfl hkey2 ?_; intro c hat hwc; clear hwc; rw [hval] at hat; simp only [DataW.lit.injEq, Lit.int.injEq, true_and] at hat; subst hat) | (at_mapUpdate; refine wpList_mapUpdate_own _ rfl _ _ _ 115 rfl 139 3 keyed32 Tryz.underlying115 _ M _ _ rfl (HC.out.1 _) hqm _ _ _ rfl rfl hkey2 _ [] (plainElem_int Tryz.underlying3 hwN) ?_; intro u3 hown3 hg3))
          go_end0
          obtain ⟨HMs, HLs, HBs, HKs⟩ := HC.out
          exact ⟨rfl, ⟨(hg3.block F (by rw [World.size_setCell]; omega) (fun e => hne.1 (Option.some.inj e))).trans (HBs _), ⟨_, q0 + 1, hown3, by omega, HP.out⟩, ⟨_, (hg3.block G (by rw [World.size_setCell]; omega) (fun e => hne.2.2 (Option.some.inj e).symm)).trans (HLs _), by rw [List.length_set]; exact hel, es_set hes (by omega) (by omega)⟩, HSZ.out, hne⟩, (HKs _).grown hg3 (fun k e => by cases e; exact .inl (.inl rfl))⟩
  · have hk1 : Hid (MapOk D0 T (N + 1 - 32768) N) := HK0.out.weak (by have := HFI.out; omega) (Nat.le_refl _)
    clear hN hT
    go_enter Tryz.func89, Tryz.ntmps89
    by_cases hsh : li < 3
    · go_wp2
      have hTN := HT.out
      have hli := HLI.out
      exact bodyPost_ret (results_none rfl _ _ _) rfl ⟨rfl, ⟨hB0, ⟨D0, q0, hM0, by omega, hk1.out.weak (by omega) (by omega)⟩, ⟨es, hL0, hel, es_up hes⟩, HSZ.out, hne⟩, hkp0⟩
    · go_wp2_with fail
      refine (firstBytes106 F M en per _ T N w hB0 (by have := HT.out; have := HLI.out; omega) HT.out.2).mono ?_
      rintro e u2 ⟨rfl, n2, rfl⟩
      have hB2 : FBox (w.drewN n2) F M (some ⟨G, 0, none⟩) en T per := hB0
      have hM2 : (w.drewN n2).ownsMap Tryz.prog 139 (plainElem Tryz.prog 3) M q0 D0 := hM0
      have hL2 : Lst (w.drewN n2) G es := hL0
      have hkp2 : Kp (fun k => k = M ∨ k = G) w (w.drewN n2) := hkp0.drewN n2
      have HP : Hid (MapOk (D0.put (k32 (fbN T N)) (.lit (.int .i64 (N : Int)))) T (N + 1 - 32768) (N + 1)) := (hk1.out.weak (Nat.le_refl _) (Nat.le_succ _)).put (by omega) (by omega) (by have := HT.out; have := HLI.out; omega)
      generalize w.drewN n2 = u2 at *
      clear hB0 hM0 hL0 hkp0
      obtain ⟨d0, d1, d2, d3⟩ := hB2.cells
      have cG := hL2.at_ r (by omega)
      have fzG : ∀ j, u2.frozen? ⟨G, j, none⟩ = false := fun j => frozen_of_row u2 G j _ _ hL2
      have hMs := fun x => hM2.setCell (a := ⟨G, r, none⟩) hne.2.2 x
      have hLs := fun x : Int => hL2.set r x
      have hBs := fun x : Value => (Below.heap_setCell u2 ⟨G, r, none⟩ x F hne.2.1).trans hB2
      have hks := fun x : Value => hkp2.setCell (p := ⟨G, r, none⟩) (.inl (.inr rfl)) x
      have HC : Hid (_ ∧ _ ∧ _ ∧ _) := ⟨hMs, hLs, hBs, hks⟩
      have hkey2 := key32 (fbN T N) (fbN_lt T N)
      have hqm : q0 < maxLen := by have := HT.out; unfold maxLen; omega
      have hlG : G < u2.heap.size := lt_of_block hL2
      have hlF : F < u2.heap.size := lt_of_block hB2
      have hv0 := hk1.out.val _ (fbN_lt T N)
      have hnot : Maps.has D0 (k32 (fbN T N)) = false → D0.atKey (k32 (fbN T N)) (.lit (.int .i64 0)) = .lit (.int .i64 0) := fun hh => atKey_of_not_has hh _
      generalize hfb : fbN T N = kx at *
      clear hL2 hB2 hLs hBs hks hkp2
      by_cases hh : Maps.has D0 (k32 kx) = true
      · obtain ⟨v, hval, hvN, _⟩ := hv0 hh
        clear hv0 hnot hMs
        go_wp2_with (first | (at_lookup; refine wpList_lookup_own_ok_int _ rfl _ _ 115 rfl 139 3 .i64 keyed32 Tryz.underlying115 Tryz.underlying3 (zero3 _) M _ _ rfl hM2 _ _ rfl hkey2 ?_; intro c hat hwc; clear hwc; rw [hval] at hat; simp only [DataW.lit.injEq, Lit.int.injEq, true_and] at hat; subst hat) | (at_mapUpdate; refine wpList_mapUpdate_own _ rfl _ _ _ 115 rfl 139 3 keyed32 Tryz.underlying115 _ M _ _ rfl (HC.out.1 _) hqm _ _ _ rfl rfl hkey2 _ [] (plainElem_int Tryz.underlying3 hwN) ?_; intro u3 hown3 hg3))
        go_end0
        obtain ⟨HMs, HLs, HBs, HKs⟩ := HC.out
        exact ⟨rfl, ⟨(hg3.block F (by rw [World.size_setCell]; omega) (fun e => hne.1 (Option.some.inj e))).trans (HBs _), ⟨_, q0 + 1, hown3, by omega, HP.out⟩, ⟨_, (hg3.block G (by rw [World.size_setCell]; omega) (fun e => hne.2.2 (Option.some.inj e).symm)).trans (HLs _), by rw [List.length_set]; exact hel, es_set hes (by omega) (by omega)⟩, HSZ.out, hne⟩, (HKs _).grown hg3 (fun k e => by cases e; exact .inl (.inl rfl))⟩
      · have hh : Maps.has D0 (k32 kx) = false := by simpa using hh
        have hval := hnot hh
        clear hv0 hnot hMs
        go_wp2_with (first | (at_lookup; refine wpList_lookup_own_ok_int _ rfl _ _ 115 rfl 139 3 .i64 keyed32 Tryz.underlying115 Tryz.underlying3 (zero3 _) M _ _ rfl hM2 _ _ rfl hkey2 ?_; intro c hat hwc; clear hwc; rw [hval] at hat; simp only [DataW.lit.injEq, Lit.int.injEq, true_and] at hat; subst hat) | (at_mapUpdate; refine wpList_mapUpdate_own _ rfl _ _ _ 115 rfl 139 3 keyed32 Tryz.underlying115 _ M _ _ rfl (HC.out.1 _) hqm _ _ _ rfl rfl hkey2 _ [] (plainElem_int Tryz.underlying3 hwN) ?_; intro u3 hown3 hg3))
        go_end0
        obtain ⟨HMs, HLs, HBs, HKs⟩ := HC.out
        exact ⟨rfl, ⟨(hg3.block F (by rw [World.size_setCell]; omega) (fun e => hne.1 (Option.some.inj e))).trans (HBs _), ⟨_, q0 + 1, hown3, by omega, HP.out⟩, ⟨_, (hg3.block G (by rw [World.size_setCell]; omega) (fun e => hne.2.2 (Option.some.inj e).symm)).trans (HLs _), by rw [List.length_set]; exact hel, es_set hes (by omega) (by omega)⟩, HSZ.out, hne⟩, (HKs _).grown hg3 (fun k e => by cases e; exact .inl (.inl rfl))⟩
end Go.Proofs.YtmfijackgekioaaGreat

/-
  The finder tries a place: the program. For Deflates.
-/
namespace Go.Proofs.YtmfijackgekioaaGreat
open Go.RowKit Go.Maps

/-- A step that may stand at a place, of most bytes. -/
def BestOk (T : List UInt8) (p most l d : Nat) : Prop := (l = 1 ∧ d = 0) ∨ (3 ≤ l ∧ l ≤ most ∧ 1 ≤ d ∧ d ≤ 32768 ∧ d ≤ p ∧ ∀ k, k < l → T.getD (p + k) 0 = T.getD (p + k - d) 0)

/-- What a try is good for. -/
structure TryMore (T : List UInt8) (b p most l l' : Nat) : Prop where
  le : l ≤ l'
  more : ∀ m, m ≤ most → 3 ≤ m → (∀ k, k < m → T.getD (b + k) 0 = T.getD (p + k) 0) → m ≤ l'

/-- What a try finds. -/
structure Tries (w : World) (Xf Xp Xm Xb F p most : Nat) (l d : Nat) : Prop where
  f : Box w Xf (.pointer (some ⟨F, 0, none⟩)) 97
  p : Box w Xp (.int .i64 (p : Nat)) 3
  m : Box w Xm (.int .i64 (most : Nat)) 3
  b : w.heap[Xb]? = some (.cells #[.int .i64 (l : Nat), .int .i64 (d : Nat)] 101 (0, 0))
  ne : Xb ≠ Xf ∧ Xb ≠ Xp ∧ Xb ≠ Xm
theorem Tries.below {w w' : World} {Xf Xp Xm Xb F p most l d : Nat} (h : Tries w Xf Xp Xm Xb F p most l d) (k : Below w.heap.size w w') : Tries w' Xf Xp Xm Xb F p most l d :=
  ⟨h.f.below k, h.p.below k, h.m.below k, (k.block _ (lt_of_block h.b)).trans h.b, h.ne⟩
theorem Tries.drewN {w : World} {Xf Xp Xm Xb F p most l d : Nat} (h : Tries w Xf Xp Xm Xb F p most l d) (n : Nat) : Tries (w.drewN n) Xf Xp Xm Xb F p most l d := ⟨h.f, h.p, h.m, h.b, h.ne⟩

set_option maxRecDepth 100000 in
set_option maxHeartbeats 2000000 in
theorem try104 (Xf Xp Xm Xb F M en per p most l d b : Nat) (ea : Option Addr) (T : ByteArray) (w : World) (h : Tries w Xf Xp Xm Xb F p most l d) (hF : FBox w F M ea en T per) (hT : T.size ≤ 4500000) (hb : b < p) (hd : p ≤ b + 32768) (hp : p + most ≤ T.size) (ho : BestOk T.data.toList p most l d) :
    Calls Tryz.prog 108 #[.int .i64 b, .pointer (some ⟨Xf, 0, none⟩), .pointer (some ⟨Xp, 0, none⟩), .pointer (some ⟨Xm, 0, none⟩), .pointer (some ⟨Xb, 0, none⟩)] w fun e w' => e = .returned (.tuple #[]) ∧ ∃ l' d', BestOk T.data.toList p most l' d' ∧ Tries w' Xf Xp Xm Xb F p most l' d' ∧ TryMore T.data.toList b p most l l' ∧ Kp (· = Xb) w w' := by
  have hal := alike105 F M en per ea T b p most w hF (by omega) (by omega) hT
  have c0 := h.f.cell
  have c1 := h.p.cell
  have c2 := h.m.cell
  go_enter Tryz.func108, Tryz.ntmps108
  go_wp2_with fail
  refine hal.mono ?_
  rintro e w1 ⟨L, rfl, hL, hsame, hmx, n, rfl⟩
  have HMX : Hid (∀ m, m ≤ most → (∀ k, k < m → T.data.toList.getD (b + k) 0 = T.data.toList.getD (p + k) 0) → m ≤ L) := fun m hm hk => by
    rcases hmx with q | q
    · omega
    · exact Nat.le_of_not_lt fun hlt => q (hk L hlt)
  clear hmx
  have h1 := h.drewN n
  have hk1 : Kp (· = Xb) w (w.drewN n) := (Kp.refl _ _).drewN n
  clear h hF hal c0 c1 c2
  generalize w.drewN n = u at *
  have c1 := h1.p.cell
  obtain ⟨y0, y1, fz, hlb⟩ := cells2 h1.b
  have hpT : p ≤ 4500000 := by omega
  by_cases h3 : 3 ≤ L
  · by_cases hlt : l < L
    · obtain ⟨pd, hpd⟩ : ∃ pd : Nat, p - b = pd := ⟨_, rfl⟩
      have hw : IntKind.i64.wrap ((p : Int) - (b : Int)) = (pd : Int) := (IntWalk.i64_in _ (by omega)).trans (by omega)
      have HB : Hid (BestOk T.data.toList p most L pd) := .inr ⟨h3, hL, by omega, by omega, by omega, fun k hk => by rw [← hsame k hk, show p + k - pd = b + k by omega]⟩
      have HU : Hid (Tries ((u.setCell ⟨Xb, 0, none⟩ (.int .i64 (L : Nat))).setCell ⟨Xb, 1, none⟩ (.int .i64 (pd : Nat))) Xf Xp Xm Xb F p most L pd) := by
        have kp : ∀ (v1 v2 : Value) (g : Nat), g ≠ Xb → ((u.setCell ⟨Xb, 0, none⟩ v1).setCell ⟨Xb, 1, none⟩ v2).heap[g]? = u.heap[g]? := fun v1 v2 g hg => (Below.heap_setCell _ ⟨Xb, 1, none⟩ _ _ hg).trans (Below.heap_setCell _ ⟨Xb, 0, none⟩ _ _ hg)
        exact ⟨(kp _ _ _ (Ne.symm h1.ne.1)).trans h1.f, (kp _ _ _ (Ne.symm h1.ne.2.1)).trans h1.p, (kp _ _ _ (Ne.symm h1.ne.2.2)).trans h1.m, set2_row h1.b _ _, h1.ne⟩
      have HK := fun v1 v2 => (hk1.setCell (p := ⟨Xb, 0, none⟩) (.inl rfl) v1).setCell (p := ⟨Xb, 1, none⟩) (.inl rfl) v2
      have hLl : (L : Int) > (l : Int) := by omega
      have hL3 : (L : Int) ≥ 3 := by omega
      clear hsame ho hpd
      go_wp2
      go_end0
      exact ⟨rfl, L, pd, HB.out, HU.out, ⟨by omega, fun m h1 _ h3 => HMX.out m h1 h3⟩, HK _ _⟩
    · have hLl : ¬ (L : Int) > (l : Int) := by omega
      have hL3 : (L : Int) ≥ 3 := by omega
      have HO : Hid (BestOk T.data.toList p most l d) := ho
      clear hsame ho
      go_wp2
      go_end0
      exact ⟨rfl, l, d, HO.out, h1, ⟨Nat.le_refl _, fun m h1 _ h3 => by have := HMX.out m h1 h3; omega⟩, hk1⟩
  · have hL3 : ¬ (L : Int) ≥ 3 := by omega
    have HO : Hid (BestOk T.data.toList p most l d) := ho
    clear hsame ho
    go_wp2
    go_end0
    exact ⟨rfl, l, d, HO.out, h1, ⟨Nat.le_refl _, fun m h1 h2 h3 => by have := HMX.out m h1 h3; omega⟩, hk1⟩
theorem call104 (args : Array Value) (w : World) : (callFunc 108 args).run Tryz.prog w = .ok (.enter 108 args) w := by kernel_rfl
end Go.Proofs.YtmfijackgekioaaGreat
