import Derived.Test.YtmfijackgekioaaQ03

namespace Go.Proofs.Ytmfijackgekioaa
open Go.RowKit


set_option maxRecDepth 100000 in
set_option maxHeartbeats 1000000 in
theorem full47 (ao : Option Addr) (cap : Nat) (ls : List Int) (n : Nat) (w : World) (hn0 : ls.length = n) (hn : n ≤ 320) (hint : Ints w ao ls) (hrg : ∀ j, ls.getD j 0 ≤ 15) :
    Calls Try.prog 46 #[.slice ao n cap] w fun e w' => e = .returned (.bool (Rf.full ls)) ∧ w' = w := by
  go_enter Try.func46, Try.ntmps46
  go_wp2
  go_loop [3, 4] (fun s i => ∃ k : Nat, k ≤ n ∧ i = .int .i64 k ∧ s = .int .i64 (Rf.fs ls k)) (fun _ i => n - (intOf i).toNat)
  case atStart => exact ⟨0, Nat.zero_le _, rfl, rfl⟩
  case round =>
    obtain ⟨k, hk, rfl, rfl⟩ := hrel
    have hfs := Rf.fs_le ls k
    by_cases hlt : k < n
    · obtain ⟨b, off, rfl, hc⟩ := hint k (by omega)
      obtain ⟨x, hx⟩ : ∃ x : Int, x = ls[k] := ⟨_, rfl⟩
      have hx2 : ls.getD k 0 = x := by rw [hx]; simp [List.getD, List.getElem?_eq_getElem (show k < ls.length by omega)]
      have hx15 : x ≤ 15 := by rw [← hx2]; exact hrg k
      rw [← hx] at hc
      have HF : Hid (Rf.fs ls (k + 1) = Rf.fs ls k + if 0 < x then 32768 / 2 ^ x.toNat else 0) := by show _ = _; rw [← hx2]; rfl
      have hfb : (Rf.fs ls k : Int) ≤ 10485760 := by omega
      clear hx hx2 hrg hfs
      by_cases h0 : 0 < x
      · obtain ⟨y, hy⟩ : ∃ y : Nat, y = 32768 / 2 ^ x.toNat := ⟨_, rfl⟩
        have hyb : y ≤ 32768 := by rw [hy]; exact Nat.div_le_self _ _
        have e1 : (32768 : Int) / 2 ^ x.toNat = (y : Int) := by rw [hy]; simp
        have e2 : (32768 : Int) / 2 ^ min x.toNat 64 = (y : Int) := by rw [Nat.min_eq_left (by omega)]; exact e1
        have HF2 : Hid (Rf.fs ls (k + 1) = Rf.fs ls k + y) := by show _ = _; rw [HF.out, if_pos h0, ← hy]
        clear hy HF
        go_wp2
        go_round
        case rel => exact ⟨k + 1, by omega, by go_num, by rw [HF2.out]; go_num⟩
        case measure => simp [intOf]; omega
      · have HF2 : Hid (Rf.fs ls (k + 1) = Rf.fs ls k) := by show _ = _; rw [HF.out, if_neg h0]; rfl
        clear HF
        go_wp2
        go_round
        case rel => exact ⟨k + 1, by omega, by go_num, by rw [HF2.out]⟩
        case measure => simp [intOf]; omega
    · have hkn : k = n := by omega
      subst hkn
      go_wp2
      go_ret
      refine ⟨ret_bool ?_, rfl⟩
      rw [Rf.full, hn0, Bool.eq_iff_iff]
      simp
      omega

/-- A list that lies in a block of its own, whole. -/
def Lst (w : World) (g : Nat) (zs : List Int) : Prop := w.heap[g]? = some (.cells (vals zs).toArray 3 (0, 0))
theorem Lst.ints {w : World} {g : Nat} {zs : List Int} (h : Lst w g zs) : Ints w (some ⟨g, 0, none⟩) zs :=
  fun j hj => ⟨g, 0, rfl, (cell_of_row _ _ _ _ _ _ h).trans (by simp [vals, hj])⟩
theorem Lst.set {w : World} {g : Nat} {zs : List Int} (h : Lst w g zs) (i : Nat) (x : Int) : Lst (w.setCell ⟨g, i, none⟩ (.int .i64 x)) g (zs.set i x) :=
  (heap_setCell_same _ _ _ _ _ _ h).trans (by rw [vals_set])

/-- A row under way: the first k places laid. -/
abbrev part (n k : Nat) (f : Nat → Int) : List Int := (List.range n).map fun i => if i < k then f i else 0
theorem part_set (n k : Nat) (f : Nat → Int) : (part n k f).set k (f k) = part n (k + 1) f := by
  apply List.ext_getElem
  · simp
  · intro i h1 h2
    simp only [List.getElem_set, List.getElem_map, List.getElem_range]
    by_cases e : k = i
    · subst e; simp
    · rw [if_neg e]
      by_cases h : i < k
      · rw [if_pos h, if_pos (by omega)]
      · rw [if_neg h, if_neg (by omega)]
theorem part_zero (n : Nat) (f : Nat → Int) : part n 0 f = List.replicate n 0 := by
  apply List.ext_getElem <;> simp
theorem part_all (n : Nat) (f : Nat → Int) : part n n f = (List.range n).map f := by
  apply List.map_congr_left
  intro i hi
  rw [if_pos (List.mem_range.1 hi)]
theorem Lst.cell {w : World} {g : Nat} {zs : List Int} (h : Lst w g zs) (j : Nat) (hj : j < zs.length) : w.cell? ⟨g, j, none⟩ = some (.int .i64 zs[j]) := (cell_of_row _ _ _ _ _ _ h).trans (by simp [vals, hj])

set_option maxRecDepth 100000 in
set_option maxHeartbeats 1000000 in
theorem fixed25 (w : World) :
    Calls Try.prog 26 #[] w fun e w' => ∃ g, e = .returned (.tuple #[.slice (some ⟨w.heap.size, 0, none⟩) 288 288, .slice (some ⟨g, 0, none⟩) 32 32]) ∧ Lst w' w.heap.size Rf.fixS ∧ Lst w' g Rf.fixD ∧ w.heap.size < g ∧ Below w.heap.size w w' := by
  obtain ⟨Z, hZ⟩ : ∃ Z : List Value, Z = List.replicate 288 (.int .i64 0) := ⟨_, rfl⟩
  obtain ⟨Y, hY⟩ : ∃ Y : List Value, Y = List.replicate 32 (.int .i64 0) := ⟨_, rfl⟩
  have hmk : ∀ u : World, (Instr.makeSlice 27 (.int .i64 288) (.int .i64 288)).run Try.prog u = .ok (.slice (some ⟨u.heap.size, 0, none⟩) 288 288) (u.alloc (.cells Z.toArray 3)) := fun u => make_n 288 (by omega) Z hZ u
  have hmk2 : ∀ u : World, (Instr.makeSlice 27 (.int .i64 32) (.int .i64 32)).run Try.prog u = .ok (.slice (some ⟨u.heap.size, 0, none⟩) 32 32) (u.alloc (.cells Y.toArray 3)) := fun u => make_n 32 (by omega) Y hY u
  have HZ : Hid (Z = vals (part 288 0 Rf.fixL)) := by show _ = _; rw [hZ, part_zero, vals_replicate]
  have HY : Hid (Y = vals (part 32 0 fun _ => 5)) := by show _ = _; rw [hY, part_zero, vals_replicate]
  clear hZ hY
  go_enter Try.func26, Try.ntmps26
  go_wp2
  go_loopw [3] (fun i wr => ∃ k : Nat, k ≤ 288 ∧ i = .int .i64 k ∧ Lst wr w.heap.size (part 288 k Rf.fixL) ∧ Below w.heap.size w wr) (fun i _ => 288 - (intOf i).toNat)
  case atStart => exact ⟨0, Nat.zero_le _, rfl, (blk_new w _).trans (by rw [HZ.out]), (Below.refl _ _).alloc (Nat.le_refl _) _⟩
  case round =>
    obtain ⟨k, hk, rfl, hl, hb⟩ := hrel
    by_cases hlt : k < 288
    · obtain ⟨x, c1⟩ : ∃ x, wr.cell? ⟨w.heap.size, k, none⟩ = some (.int .i64 x) := ⟨_, hl.cell k (by simp; omega)⟩
      have f1 : wr.frozen? ⟨w.heap.size, k, none⟩ = false := frozen_of_row wr _ _ _ _ hl
      obtain ⟨y, hy⟩ : ∃ y : Int, y = Rf.fixL k := ⟨_, rfl⟩
      have HL : Hid (Lst (wr.setCell ⟨w.heap.size, k, none⟩ (.int .i64 y)) w.heap.size (part 288 (k + 1) Rf.fixL) ∧ Below w.heap.size w (wr.setCell ⟨w.heap.size, k, none⟩ (.int .i64 y))) := ⟨by rw [hy, ← part_set]; exact hl.set k _, hb.setCell (Nat.le_refl _) _⟩
      unfold Rf.fixL at hy
      by_cases h1 : k < 144
      · rw [if_pos h1] at hy
        subst hy
        go_wp2
        go_roundw
        case rel => exact ⟨k + 1, by omega, by go_num, HL.out.1, HL.out.2⟩
        case measure => simp [intOf]; omega
      · rw [if_neg h1] at hy
        by_cases h2 : k < 256
        · rw [if_pos h2] at hy
          subst hy
          go_wp2
          go_roundw
          case rel => exact ⟨k + 1, by omega, by go_num, HL.out.1, HL.out.2⟩
          case measure => simp [intOf]; omega
        · rw [if_neg h2] at hy
          by_cases h3 : k < 280
          · rw [if_pos h3] at hy
            subst hy
            go_wp2
            go_roundw
            case rel => exact ⟨k + 1, by omega, by go_num, HL.out.1, HL.out.2⟩
            case measure => simp [intOf]; omega
          · rw [if_neg h3] at hy
            subst hy
            go_wp2
            go_roundw
            case rel => exact ⟨k + 1, by omega, by go_num, HL.out.1, HL.out.2⟩
            case measure => simp [intOf]; omega
    · have hk2 : k = 288 := by omega
      subst hk2
      rename World => W1
      have hlw := lt_of_block hl
      go_wp2
      go_loopw [5] (fun i wr => ∃ k : Nat, k ≤ 32 ∧ i = .int .i64 k ∧ Lst wr W1.heap.size (part 32 k fun _ => 5) ∧ Below W1.heap.size W1 wr) (fun i _ => 32 - (intOf i).toNat)
      case atStart => exact ⟨0, Nat.zero_le _, rfl, (blk_new W1 _).trans (by rw [HY.out]), (Below.refl _ _).alloc (Nat.le_refl _) _⟩
      case round =>
        obtain ⟨k, hk, rfl, hl2, hb2⟩ := hrel
        by_cases hlt2 : k < 32
        · obtain ⟨x, c1⟩ : ∃ x, wr.cell? ⟨W1.heap.size, k, none⟩ = some (.int .i64 x) := ⟨_, hl2.cell k (by simp; omega)⟩
          have f1 : wr.frozen? ⟨W1.heap.size, k, none⟩ = false := frozen_of_row wr _ _ _ _ hl2
          have HL : Hid (Lst (wr.setCell ⟨W1.heap.size, k, none⟩ (.int .i64 5)) W1.heap.size (part 32 (k + 1) fun _ => 5) ∧ Below W1.heap.size W1 (wr.setCell ⟨W1.heap.size, k, none⟩ (.int .i64 5))) := ⟨by rw [← part_set]; exact hl2.set k _, hb2.setCell (Nat.le_refl _) _⟩
          go_wp2
          go_roundw
          case rel => exact ⟨k + 1, by omega, by go_num, HL.out.1, HL.out.2⟩
          case measure => simp [intOf]; omega
        · have hk2 : k = 32 := by omega
          subst hk2
          go_wp2
          go_ret2
          refine ⟨W1.heap.size, rfl, ?_, ?_, hlw, hb.trans (hb2.mono (Nat.le_of_lt hlw))⟩
          · rw [Rf.fixS, ← part_all]; exact (hb2.block _ hlw).trans hl
          · rw [Rf.fixD, ← part_all]; exact hl2

end Go.Proofs.Ytmfijackgekioaa

namespace Go.Proofs.Ytmfijackgekioaa
open Go.RowKit

theorem own_blk {w w' : World} {base e n : Nat} {v : Value} {xs : List Value} (h : w.ownsRow base e 1 v n xs) (hb : ∀ g, v.ownBlock = some g → w'.heap[g]? = w.heap[g]?) : w'.ownsRow base e 1 v n xs := by
  refine ⟨h.1, ?_⟩
  rcases h.2 with h' | ⟨g, cap, cur, rfl, hb', hg, hr⟩
  · exact .inl h'
  · exact .inr ⟨g, cap, cur, rfl, hb', (hb g rfl).trans hg, hr⟩

/-- The reader is as it was where its blocks are. -/
theorem Rep.keep {w w' : World} {B : Nat} {L : List Int} {ao : Option Addr} {cap : Nat} {limit : Int} {st : Rf.St} {ov kv : Value} (h : Rep w B L ao cap limit st ov kv)
    (hb : ∀ k, k ≤ B → w'.heap[k]? = w.heap[k]?) (ho : ∀ g, ov.ownBlock = some g → w'.heap[g]? = w.heap[g]?) (hk : ∀ g, kv.ownBlock = some g → w'.heap[g]? = w.heap[g]?) : Rep w' B L ao cap limit st ov kv :=
  ⟨(hb B (Nat.le_refl _)).trans h.blk, fun j hj => by
    obtain ⟨b, off, rfl, hc⟩ := h.hl j hj
    exact ⟨b, off, rfl, (World.cell?_of_block (w := w) (hb b (Nat.le_of_lt (h.hla _ rfl (ne_of_lt hj))))).trans hc⟩, h.hla, h.hb, h.hpos, h.hlen, h.h8, own_blk h.ho ho, own_blk h.hk hk⟩
theorem Rep.later {w w' : World} {B : Nat} {L : List Int} {ao : Option Addr} {cap : Nat} {limit : Int} {st : Rf.St} {ov kv : Value} (h : Rep w B L ao cap limit st ov kv) (hb : Below w.heap.size w w') : Rep w' B L ao cap limit st ov kv :=
  h.keep (fun k hk => hb.block k (Nat.lt_of_le_of_lt hk h.lt)) (fun g hg => hb.block g (h.ho.lt g hg).2) (fun g hg => hb.block g (h.hk.lt g hg).2)

def lenV : Value → Nat | .slice _ n _ => n | _ => 0

/-- The state of the list under way. -/
structure Ls (w0 wr : World) (B : Nat) (v : Value) (out : List Int) : Prop where
  own : wr.ownsRow w0.heap.size 3 1 v out.length (vals out)
  kp : Kp (· = B) w0 wr

end Go.Proofs.Ytmfijackgekioaa
