import Derived.Test.YtmfijackgekioaaDoorWn
namespace Go.Proofs.YtmfijackgekioaaDoor
open Go.RowKit

theorem lst_cell {w : World} {g : Nat} {zs : List Int} (hg : w.heap[g]? = some (.cells (vals zs ++ [Value.int .i64 77, Value.int .i64 77]).toArray 3 (0, 0))) (j : Nat) (hj : j < zs.length) : w.cell? ⟨g, j, none⟩ = some (.int .i64 zs[j]) :=
  (cell_of_row _ _ _ _ _ _ hg).trans (by simp [List.getElem?_append, hj])
theorem spare_cell {w : World} {g : Nat} {zs : List Int} (hg : w.heap[g]? = some (.cells (vals zs ++ [Value.int .i64 77, Value.int .i64 77]).toArray 3 (0, 0))) (j : Nat) (h1 : zs.length ≤ j) (h2 : j < zs.length + 2) : w.cell? ⟨g, j, none⟩ = some (.int .i64 77) :=
  (cell_of_row _ _ _ _ _ _ hg).trans (by
    have : j = zs.length ∨ j = zs.length + 1 := by omega
    rcases this with rfl | rfl <;> simp)

set_option maxRecDepth 100000 in
set_option maxHeartbeats 1000000 in
theorem kept17 (g : Nat) (ao : Option Addr) (cap : Nat) (zs : List Int) (n : Nat) (w : World) (hn0 : zs.length = n) (hn : n ≤ 17592186044416)
    (hg : w.heap[g]? = some (.cells (vals zs ++ [Value.int .i64 77, Value.int .i64 77]).toArray 3 (0, 0))) (hint : Ints w ao zs) (ha : ∀ a, ao = some a → zs ≠ [] → a.block < w.heap.size) :
    Calls Tryd.prog 14 #[.slice (some ⟨g, 0, none⟩) n (n + 2), .slice ao n cap] w fun e w' => e = .returned (.bool true) ∧ Below w.heap.size w w' := by
  have HG : Hid (w.heap[g]? = some (.cells (vals zs ++ [Value.int .i64 77, Value.int .i64 77]).toArray 3 (0, 0))) := hg
  have lg := lt_of_block hg
  clear hg
  go_enter Tryd.func14, Tryd.ntmps14
  go_wp2
  go_loopw [6] (fun i wr => ∃ k : Nat, k ≤ n + 2 ∧ i = .int .i64 k ∧ Below w.heap.size w wr) (fun i _ => n + 2 - (intOf i).toNat)
  case atStart => exact ⟨0, Nat.zero_le _, rfl, Below.refl _ _⟩
  case round =>
    obtain ⟨k, hk, rfl, hb⟩ := hrel
    by_cases h1 : k < n
    · obtain ⟨b, off, rfl, hc⟩ := hint k (by omega)
      have hg := HG.out
      have c1 : wr.cell? ⟨g, k, none⟩ = some (.int .i64 zs[k]) := (hb.cell lg).trans (lst_cell hg k (by omega))
      have c2 : wr.cell? ⟨b, off + k, none⟩ = some (.int .i64 zs[k]) := (hb.cell (p := ⟨b, off + k, none⟩) (ha ⟨b, off, none⟩ rfl (ne_of_lt (hn0 ▸ h1)))).trans hc
      generalize zs[k] = x at c1 c2
      clear hc hg hint ha
      have i1 : (k : Int) < (n : Int) := by omega
      have i2 : (k : Int) < (n : Int) + 2 := by omega
      have i3 : ((n : Int) ≤ (k : Int)) = False := by simp; omega
      have i4 : decide ((n : Int) ≤ (k : Int)) = false := by simp; omega
      go_wp2
      go_quiet (fail)
      go_wp2
      go_roundw
      case rel => exact ⟨k + 1, by omega, by go_num, below_drewN hb _⟩
      case measure => simp [intOf]; omega
    · by_cases h2 : k < n + 2
      · have hg := HG.out
        have c1 : wr.cell? ⟨g, k, none⟩ = some (.int .i64 77) := (hb.cell lg).trans (spare_cell hg k (by omega) (by omega))
        clear hg hint ha
        have i1 : (n : Int) ≤ (k : Int) := by omega
        have i2 : (k : Int) < (n : Int) + 2 := by omega
        have i4 : decide ((k : Int) < (n : Int)) = false := by simp; omega
        go_wp2
        go_quiet (fail)
        go_wp2
        go_roundw
        case rel => exact ⟨k + 1, by omega, by go_num, below_drewN hb _⟩
        case measure => simp [intOf]; omega
      · go_wp2
        go_ret
        exact ⟨rfl, hb⟩

end Go.Proofs.YtmfijackgekioaaDoor
