import Derived.Test.YtmfijackgekioaaDoorWy
import Derived.Laws.CopyOwn
namespace Go.Proofs.YtmfijackgekioaaDoor
open Go.RowKit

theorem run_copy_splice {P : Program} (w : World) (dT sT ty elem : TypeId) (hu : P.underlying dT = some (.slice elem)) (hsz : (P.info? elem).map (·.size) = some 1)
    (dp sp : Option Addr) (dLen dCap sLen sCap : Nat) (g off : Nat) (cur : List Value) (t : TypeId) (hg : w.heap[g]? = some (.cells cur.toArray t (0, 0))) (cs : List Value) (hn : cs.length = Nat.min sLen dLen)
    (hpos : 0 < cs.length → dp = some ⟨g, off, none⟩ ∧ ∃ ad, sp = some ad ∧ ∀ j v, cs[j]? = some v → w.cell? (ad.add j) = some v)
    (hfit : off + cs.length ≤ cur.length) (h1 : ∀ v ∈ cs, v.oneCell' = true) (B : Nat) (w0 : World) (hb : Below B w0 w) (hBg : B ≤ g) :
    ∃ w', (Builtin.copy_ #[dT, sT] ty #[.slice dp dLen dCap, .slice sp sLen sCap]).run P w = .ok (goInt cs.length) w' ∧ w'.heap[g]? = some (.cells (splice cur off cs).toArray t (0, 0)) ∧ Below B w0 w' := by
  by_cases h0 : cs.length = 0
  · obtain rfl : cs = [] := List.eq_nil_of_length_eq_zero h0
    exact ⟨w, run_copy_none (P := P) w dT sT ty elem dp sp dLen dCap sLen sCap hu hsz (by simpa using hn.symm), by simpa [splice] using hg, hb⟩
  · obtain ⟨rfl, ad, rfl, hsrc⟩ := hpos (by omega)
    exact ⟨_, run_copy_row (P := P) w dT sT ty elem g off dLen dCap ad sLen sCap cur.toArray t cs hu hsz hg hn hsrc (by simpa using hfit) h1, by simpa [splice] using setRow_heap w g _ _ t _ hg, below_setRow hb hBg _⟩

abbrev vals (zs : List Int) : List Value := zs.map (Value.int .i64)
theorem size3 : (Tryd.prog.info? 3).map (·.size) = some 1 := by kernel_rfl

theorem make_ints (n : Nat) (hn : n ≤ 17592186044416) (Z : List Value) (hZ : Z = List.replicate (n + 2) (.int .i64 0)) (u : World) :
    (Instr.makeSlice 22 (.int .i64 ((n : Int) + 2)) (.int .i64 ((n : Int) + 2))).run Tryd.prog u =
      .ok (.slice (some ⟨u.heap.size, 0, none⟩) (n + 2) (n + 2)) (u.alloc (.cells Z.toArray 3)) := by
  obtain ⟨i0, hi, hz0, hz1, hz2⟩ := info_parts Tryd.info3
  have h := run_make (P := Tryd.prog) u 22 3 i0 (.int .i64 0) Tryd.underlying22 hi hz0 .i64 .i64 ((n : Int) + 2) ((n : Int) + 2) (by omega) (Int.le_refl _) (by rw [hz2]; omega) (by omega)
  have e : ((n : Int) + 2).toNat = n + 2 := by omega
  rw [e] at h
  have e2 : (madeCells #[Value.int .i64 0] (n + 2)) = Z.toArray := by
    rw [hZ, ← toList_madeCells_one]
  simpa [hz1, Value.cells, e2] using h

theorem splice_two (xs : List Value) (n : Nat) (hx : xs.length = n) (Z : List Value) (hZ : Z = List.replicate (n + 2) (.int .i64 0)) : splice Z 0 xs = xs ++ [.int .i64 0, .int .i64 0] := by
  subst hZ hx
  simp [splice]

theorem row_set0 (xs : List Value) (n : Nat) (hx : xs.length = n) (a b u : Value) : ((xs ++ [a, b]).toArray).setIfInBounds n u = (xs ++ [u, b]).toArray := by
  subst hx; simp
theorem row_set1 (xs : List Value) (n : Nat) (hx : xs.length = n) (a b u : Value) : ((xs ++ [a, b]).toArray).setIfInBounds (n + 1) u = (xs ++ [a, u]).toArray := by
  subst hx; simp

set_option maxRecDepth 100000 in
set_option maxHeartbeats 1000000 in
theorem numbers11 (ao : Option Addr) (cap : Nat) (zs : List Int) (n : Nat) (w : World) (hn0 : zs.length = n) (hn : n ≤ 17592186044416) (hint : Ints w ao zs) (ha : ∀ a, ao = some a → zs ≠ [] → a.block < w.heap.size) :
    Calls Tryd.prog 8 #[.slice ao n cap] w
      fun e w' => e = .returned (.slice (some ⟨w.heap.size, 0, none⟩) n (n + 2)) ∧ w'.heap[w.heap.size]? = some (.cells (vals zs ++ [Value.int .i64 77, Value.int .i64 77]).toArray 3 (0, 0)) ∧ Below w.heap.size w w' := by
  obtain ⟨Z, hZ⟩ : ∃ Z : List Value, Z = List.replicate (n + 2) (.int .i64 0) := ⟨_, rfl⟩
  obtain ⟨X, hX⟩ : ∃ X : List Value, X = vals zs := ⟨_, rfl⟩
  have hXl : X.length = n := by rw [hX, ← hn0]; simp
  have hZl : Z.length = n + 2 := by rw [hZ]; simp
  have hmk := make_ints n hn Z hZ
  have hsp := splice_two X n hXl Z hZ
  have HSP : Hid (splice Z 0 X = X ++ [Value.int .i64 0, Value.int .i64 0]) := hsp
  have hpos : 0 < X.length → (some ⟨w.heap.size, 0, none⟩ : Option Addr) = some ⟨w.heap.size, 0, none⟩ ∧ ∃ ad, ao = some ad ∧ ∀ j v, X[j]? = some v → (w.alloc (.cells Z.toArray 3)).cell? (ad.add j) = some v := by
    intro h0
    refine ⟨rfl, ?_⟩
    obtain ⟨b, off, rfl, _⟩ := hint 0 (by rw [hXl] at h0; omega)
    refine ⟨_, rfl, ?_⟩
    intro j v hv
    subst hX
    rw [List.getElem?_map, Option.map_eq_some_iff] at hv
    obtain ⟨z, hz, rfl⟩ := hv
    obtain ⟨hj, rfl⟩ := List.getElem?_eq_some_iff.1 hz
    obtain ⟨b', off', e, hc⟩ := hint j hj
    simp only [Option.some.injEq, Addr.mk.injEq, and_true] at e
    obtain ⟨rfl, rfl⟩ := e
    have hb : b < w.heap.size := ha ⟨b, off, none⟩ rfl (ne_of_lt hj)
    have ea : (⟨b, off, none⟩ : Addr).add j = ⟨b, off + j, none⟩ := by unfold Addr.add; split <;> simp_all
    rw [ea]
    exact (World.cell?_of_block (Below.heap_alloc w _ b hb)).trans hc
  have h1 : ∀ v ∈ X, v.oneCell' = true := by subst hX; exact ints_oneCell _ _
  have HX : Hid (X = vals zs) := hX
  clear hX hsp hZ hint ha
  obtain ⟨w2, hcp, hg2, hb2⟩ := run_copy_splice (P := Tryd.prog) (w.alloc (.cells Z.toArray 3)) 22 22 3 3 Tryd.underlying22 size3 (some ⟨w.heap.size, 0, none⟩) ao (n + 2) (n + 2) n cap w.heap.size 0 Z 3 (blk_new w _) X (by rw [hXl]; exact (Nat.min_eq_left (by omega)).symm) hpos (by omega) h1 w.heap.size w ((Below.refl _ _).alloc (Nat.le_refl _) _) (Nat.le_refl _)
  clear hpos
  rw [HSP.out] at hg2
  rw [hXl] at hcp
  have HG2 : Hid (w2.heap[w.heap.size]? = some (.cells (X ++ [Value.int .i64 0, Value.int .i64 0]).toArray 3 (0, 0))) := hg2
  clear hg2
  go_enter Tryd.func8, Tryd.ntmps8
  go_wp2
  go_loopw [4] (fun i wr => ∃ k : Nat, k ≤ 2 ∧ i = .int .i64 k ∧ Hid (wr.heap[w.heap.size]? = some (.cells (X ++ [Value.int .i64 (if 0 < k then 77 else 0), Value.int .i64 (if 1 < k then 77 else 0)]).toArray 3 (0, 0))) ∧ Below w.heap.size w wr) (fun i _ => 2 - (intOf i).toNat)
  case atStart => exact ⟨0, Nat.zero_le _, rfl, HG2, hb2⟩
  case round =>
    clear hcp hb2
    obtain ⟨k, hk, rfl, HG, hb⟩ := hrel
    have h3 : k = 0 ∨ k = 1 ∨ k = 2 := by omega
    rcases h3 with rfl | rfl | rfl
    · have hg := HG.out
      have c1 : wr.cell? ⟨w.heap.size, n, none⟩ = some (.int .i64 0) := (cell_of_row _ _ _ _ _ _ hg).trans (by simp [← hXl])
      have f1 : wr.frozen? ⟨w.heap.size, n, none⟩ = false := frozen_of_row wr _ _ _ _ hg
      have HN : Hid ((wr.setCell ⟨w.heap.size, n, none⟩ (.int .i64 77)).heap[w.heap.size]? = some (.cells (X ++ [Value.int .i64 77, Value.int .i64 0]).toArray 3 (0, 0)) ∧ Below w.heap.size w (wr.setCell ⟨w.heap.size, n, none⟩ (.int .i64 77))) :=
        ⟨by rw [heap_setCell_same _ _ _ _ _ _ hg, row_set0 X n hXl]; rfl, hb.setCell (Nat.le_refl _) _⟩
      clear hg
      go_wp2
      go_roundw
      case rel => exact ⟨1, by omega, rfl, HN.out.1, HN.out.2⟩
      case measure => simp [intOf]
    · have hg := HG.out
      have c1 : wr.cell? ⟨w.heap.size, n + 1, none⟩ = some (.int .i64 0) := (cell_of_row _ _ _ _ _ _ hg).trans (by simp [← hXl])
      have f1 : wr.frozen? ⟨w.heap.size, n + 1, none⟩ = false := frozen_of_row wr _ _ _ _ hg
      have HN : Hid ((wr.setCell ⟨w.heap.size, n + 1, none⟩ (.int .i64 77)).heap[w.heap.size]? = some (.cells (X ++ [Value.int .i64 77, Value.int .i64 77]).toArray 3 (0, 0)) ∧ Below w.heap.size w (wr.setCell ⟨w.heap.size, n + 1, none⟩ (.int .i64 77))) :=
        ⟨by rw [heap_setCell_same _ _ _ _ _ _ hg, row_set1 X n hXl]; rfl, hb.setCell (Nat.le_refl _) _⟩
      clear hg
      go_wp2
      go_roundw
      case rel => exact ⟨2, by omega, rfl, HN.out.1, HN.out.2⟩
      case measure => simp [intOf]
    · go_wp2
      go_ret
      exact ⟨rfl, by rw [← HX.out]; exact HG.out, hb⟩

end Go.Proofs.YtmfijackgekioaaDoor
