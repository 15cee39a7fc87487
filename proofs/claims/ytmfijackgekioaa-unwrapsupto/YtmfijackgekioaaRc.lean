import Derived.Test.YtmfijackgekioaaRw
namespace Go.Proofs.Ytmfijackgekioaa
open Go.RowKit

theorem make_n (n : Nat) (hn : n ≤ 320) (Z : List Value) (hZ : Z = List.replicate n (.int .i64 0)) (u : World) :
    (Instr.makeSlice 27 (.int .i64 (n : Int)) (.int .i64 (n : Int))).run Try.prog u =
      .ok (.slice (some ⟨u.heap.size, 0, none⟩) n n) (u.alloc (.cells Z.toArray 3)) := by
  obtain ⟨i0, hi, hz0, hz1, hz2⟩ := info_parts Try.info3
  have h := run_make (P := Try.prog) u 27 3 i0 (.int .i64 0) Try.underlying27 hi hz0 .i64 .i64 (n : Int) (n : Int) (by omega) (Int.le_refl _) (by rw [hz2]; omega) (by omega)
  have e2 : (madeCells #[Value.int .i64 0] n) = Z.toArray := by
    rw [hZ, ← toList_madeCells_one]
  simpa [hz1, Value.cells, e2] using h

theorem vals_replicate (n : Nat) : vals (List.replicate n 0) = List.replicate n (.int .i64 0) := by simp [vals]
theorem vals_set (l : List Int) (i : Nat) (x : Int) : (vals l).toArray.setIfInBounds i (.int .i64 x) = (vals (l.set i x)).toArray := by simp [vals, List.map_set]

set_option maxRecDepth 100000 in
set_option maxHeartbeats 1000000 in
theorem codes44 (ao : Option Addr) (cap : Nat) (ls : List Int) (n : Nat) (w : World) (hn0 : ls.length = n) (hn : n ≤ 320) (hint : Ints w ao ls) (ha : ∀ a, ao = some a → ls ≠ [] → a.block < w.heap.size) :
    Calls Try.prog 43 #[.slice ao n cap] w
      fun e w' => e = .returned (.slice (some ⟨w.heap.size, 0, none⟩) n n) ∧ w'.heap[w.heap.size]? = some (.cells (vals (Rf.codes ls)).toArray 3 (0, 0)) ∧ Below w.heap.size w w' := by
  obtain ⟨Z, hZ⟩ : ∃ Z : List Value, Z = List.replicate n (.int .i64 0) := ⟨_, rfl⟩
  have hmk := make_n n hn Z hZ
  have HZ : Hid (Z = vals (Rf.cOut ls 0).out) := by show _ = _; rw [hZ, Rf.cOut, hn0, vals_replicate]
  clear hZ
  go_enter Try.func43, Try.ntmps43
  go_wp2
  go_loopw [4, 5, 6] (fun x y i wr => ∃ m : Nat, m ≤ 15 ∧ i = .int .i64 ((m : Int) + 1) ∧ x = .int .i64 (Rf.cOut ls m).next ∧ y = .int .i64 (Rf.cOut ls m).last ∧ Hid (wr.heap[w.heap.size]? = some (.cells (vals (Rf.cOut ls m).out).toArray 3 (0, 0))) ∧ Below w.heap.size w wr) (fun _ _ i _ => 16 - (intOf i).toNat)
  case atStart => exact ⟨0, by omega, rfl, rfl, rfl, (blk_new w _).trans (by rw [HZ.out]), (Below.refl _ _).alloc (Nat.le_refl _) _⟩
  case round =>
    clear hmk
    obtain ⟨m, hm, rfl, rfl, rfl, HG, hb⟩ := hrel
    by_cases hlt : m < 15
    · go_wp2
      go_loopw [4, 5, 7] (fun x y i wr => ∃ k : Nat, k ≤ n ∧ i = .int .i64 k ∧ x = .int .i64 (Rf.cIn ls (m + 1) (Rf.cOut ls m) k).next ∧ y = .int .i64 (Rf.cIn ls (m + 1) (Rf.cOut ls m) k).last ∧ Hid (wr.heap[w.heap.size]? = some (.cells (vals (Rf.cIn ls (m + 1) (Rf.cOut ls m) k).out).toArray 3 (0, 0))) ∧ Below w.heap.size w wr) (fun _ _ i _ => n - (intOf i).toNat)
      case atStart => exact ⟨0, Nat.zero_le _, rfl, rfl, rfl, HG, hb⟩
      case round =>
        clear HG hb
        obtain ⟨k, hk, rfl, rfl, rfl, HG, hb⟩ := hrel
        by_cases hlt2 : k < n
        · obtain ⟨b, off, rfl, hc⟩ := hint k (by omega)
          have hc' : wr.cell? ⟨b, off + k, none⟩ = some (.int .i64 ls[k]) := (hb.cell (p := ⟨b, off + k, none⟩) (ha ⟨b, off, none⟩ rfl (ne_of_lt (show k < ls.length by omega)))).trans hc
          obtain ⟨x, hx⟩ : ∃ x : Int, x = ls[k] := ⟨_, rfl⟩
          have hx2 : ls.getD k 0 = x := by rw [hx]; simp [List.getD, List.getElem?_eq_getElem (show k < ls.length by omega)]
          rw [← hx] at hc'
          have hsm := Rf.c_small ls m k hlt (by omega) (by omega)
          have HC : Hid (Rf.cIn ls (m + 1) (Rf.cOut ls m) (k + 1) = if x = ((m + 1 : Nat) : Int) then { next := (Rf.cIn ls (m + 1) (Rf.cOut ls m) k).next * 2 ^ (m + 1 - (Rf.cIn ls (m + 1) (Rf.cOut ls m) k).last) + 1, last := m + 1, out := (Rf.cIn ls (m + 1) (Rf.cOut ls m) k).out.set k ((Rf.cIn ls (m + 1) (Rf.cOut ls m) k).next * 2 ^ (m + 1 - (Rf.cIn ls (m + 1) (Rf.cOut ls m) k).last) : Nat) } else Rf.cIn ls (m + 1) (Rf.cOut ls m) k) := by
            show _ = _; rw [← hx2]; rfl
          have hol : (Rf.cIn ls (m + 1) (Rf.cOut ls m) k).out.length = n := by rw [Rf.cIn_length, Rf.cOut_length, hn0]
          clear hc hx hx2
          generalize Rf.cIn ls (m + 1) (Rf.cOut ls m) k = c at *
          obtain ⟨s1, s2, s3⟩ := hsm
          by_cases heq : x = (m : Int) + 1
          · have heq' : (x == (m : Int) + 1) = true := beq_iff_eq.2 heq
            obtain ⟨y, hy⟩ : ∃ y : Nat, y = c.next * 2 ^ (m + 1 - c.last) := ⟨_, rfl⟩
            have hg := HG.out
            have c1 : wr.cell? ⟨w.heap.size, k, none⟩ = some (.int .i64 (c.out.getD k 0)) := (cell_of_row _ _ _ _ _ _ hg).trans (by simp [vals, List.getD, List.getElem?_eq_getElem (show k < c.out.length by omega)])
            have f1 : wr.frozen? ⟨w.heap.size, k, none⟩ = false := frozen_of_row wr _ _ _ _ hg
            have hyb : y ≤ 157286400 := by rw [hy]; exact s3
            have w1 : wrap64 ((c.next : Int) * 2 ^ (m + 1 - c.last)) = (y : Int) := by
              have e : ((c.next : Int) * 2 ^ (m + 1 - c.last)) = (y : Int) := by rw [hy]; simp
              rw [e]; exact IntWalk.wrap64_in _ (by omega)
            have HC2 : Hid (Rf.cIn ls (m + 1) (Rf.cOut ls m) (k + 1) = { next := y + 1, last := m + 1, out := c.out.set k (y : Int) }) := by
              show _ = _; rw [HC.out, if_pos (by omega), ← hy]
            have HN : Hid ((wr.setCell ⟨w.heap.size, k, none⟩ (.int .i64 (y : Int))).heap[w.heap.size]? = some (.cells (vals (c.out.set k (y : Int))).toArray 3 (0, 0)) ∧ Below w.heap.size w (wr.setCell ⟨w.heap.size, k, none⟩ (.int .i64 (y : Int)))) :=
              ⟨by rw [heap_setCell_same _ _ _ _ _ _ hg, vals_set], hb.setCell (Nat.le_refl _) _⟩
            clear hg hy s3
            go_wp2
            go_roundw
            case rel => exact ⟨k + 1, by omega, by go_num, by rw [HC2.out]; go_num, by rw [HC2.out]; go_num, by rw [HC2.out]; exact HN.out.1, HN.out.2⟩
            case measure => simp [intOf]; omega
          · have heq' : (x == (m : Int) + 1) = false := beq_eq_false_iff_ne.2 heq
            go_wp2
            go_roundw
            case rel => exact ⟨k + 1, by omega, by go_num, by rw [HC.out, if_neg (by omega)], by rw [HC.out, if_neg (by omega)], by rw [HC.out, if_neg (by omega)]; exact HG, hb⟩
            case measure => simp [intOf]; omega
        · have hkn : k = n := by omega
          subst hkn
          have HE : Hid (Rf.cOut ls (m + 1) = Rf.cIn ls (m + 1) (Rf.cOut ls m) k) := by show _ = _; rw [Rf.cOut, hn0]
          go_wp2
          go_roundw
          case rel => exact ⟨m + 1, by omega, by go_num, by rw [HE.out], by rw [HE.out], by rw [HE.out]; exact HG, hb⟩
          case measure => simp [intOf]; omega
    · have hm2 : m = 15 := by omega
      subst hm2
      go_wp2
      go_ret
      exact ⟨rfl, HG.out, hb⟩

end Go.Proofs.Ytmfijackgekioaa
