import Derived.Test.YtmfijackgekioaaQ09

/-
  A table is filled.
-/
namespace Go.Proofs.Ytmfijackgekioaa
open Go.RowKit Go.Maps

/-- The table that is being filled, in its variable (block T), and its map (block M). -/
structure Fill (w : World) (T M : Nat) (ls : List Int) (n i q : Nat) : Prop where
  ex : ∃ (D : DataW Unit) (sh lo : Nat), w.heap[T]? = some (.cells #[.map (some M), .int .u16 sh, .int .u16 lo] 71 (0, 0)) ∧ w.ownsMap Try.prog 116 (plainElem Try.prog 3) M q D ∧ Held D ls n i sh lo

theorem tcells {w : World} {T : Nat} {a b c : Value} {t : TypeId} (h : w.heap[T]? = some (.cells #[a, b, c] t (0, 0))) :
    w.cell? ⟨T, 0, none⟩ = some a ∧ w.cell? ⟨T, 1, none⟩ = some b ∧ w.cell? ⟨T, 2, none⟩ = some c ∧ (∀ j, w.frozen? ⟨T, j, none⟩ = false) ∧ T < w.heap.size :=
  ⟨cell_of_row _ _ _ _ _ _ h, cell_of_row _ _ _ _ _ _ h, cell_of_row _ _ _ _ _ _ h, fun j => frozen_of_row w T j _ _ h, lt_of_block h⟩
theorem tset1 {w : World} {T : Nat} {a b c : Value} {t : TypeId} (h : w.heap[T]? = some (.cells #[a, b, c] t (0, 0))) (u : Value) : (w.setCell ⟨T, 1, none⟩ u).heap[T]? = some (.cells #[a, u, c] t (0, 0)) := (heap_setCell_same w T 1 _ _ u h).trans rfl
theorem tset2 {w : World} {T : Nat} {a b c : Value} {t : TypeId} (h : w.heap[T]? = some (.cells #[a, b, c] t (0, 0))) (u : Value) : (w.setCell ⟨T, 2, none⟩ u).heap[T]? = some (.cells #[a, b, u] t (0, 0)) := (heap_setCell_same w T 2 _ _ u h).trans rfl

set_option maxRecDepth 100000 in
set_option maxHeartbeats 1000000 in
theorem put84 (T M : Nat) (ls : List Int) (n i q : Nat) (w : World) (hF : Fill w T M ls n i q) (hTM : M ≠ T) (hn : n < 15) (hi : i < ls.length) (hlen : ls.length ≤ 320) (hl : ls.getD i 0 = ((n + 1 : Nat) : Int)) (hs : Rf.nx ls n i ≤ 32768) (hq : q ≤ 100000) :
    Calls Try.prog 84 #[.int .i64 i, codeV (Rf.nx ls n i) (n + 1), .pointer (some ⟨T, 0, none⟩)] w
      fun e w' => e = .returned (.tuple #[]) ∧ Fill w' T M ls n (i + 1) (q + 1) ∧ Kp (fun k => k = T ∨ k = M) w w' := by
  obtain ⟨D, sh, lo, hT, hM, hH⟩ := hF
  obtain ⟨c0, c1, c2, fz, hlt⟩ := tcells hT
  have hltM := hM.lt
  have HP : Hid (Held (D.put (kl (Rf.nx ls n i) (n + 1)) (.lit (.int .i64 (i : Int)))) ls n (i + 1) (if Maps.size D = 0 then n + 1 else sh) (n + 1)) := hH.put hn hi hl (by omega)
  have hkey := hkl (Rf.nx ls n i) (n + 1) (by omega) (by omega)
  have hsz := hM.size_le
  have ec : ((n + 1 : Nat) : Int) = (n : Int) + 1 := by omega
  generalize Rf.nx ls n i = a at *
  rw [codeV, ec] at hkey
  rw [codeV, ec]
  have hi64 : (Lit.int .i64 (i : Int)).wf = true := WalkArith.wf_i64 (by omega)
  by_cases h0 : Maps.size D = 0
  · have h0' : ((Maps.size D : Nat) : Int) = 0 := by omega
    rw [if_pos h0] at HP
    go_enter Try.func84, Try.ntmps84
    go_wp2_with (first
      | (at_len; refine wpList_len_own _ rfl _ 68 rfl 116 3 Try.underlying68 _ M q D rfl (hM.alloc _) ?_)
      | (at_mapUpdate; refine wpList_mapUpdate_own _ rfl _ _ _ 68 rfl 116 3 codeKeyed Try.underlying68 _ M q D rfl (((hM.setCell (a := ⟨T, 1, none⟩) hTM _).setCell (a := ⟨T, 2, none⟩) hTM _).alloc _) (by unfold maxLen; omega) _ _ _ rfl rfl hkey _ [] (plainElem_int Try.underlying3 hi64) ?_; intro w1 hown1 hgrow1))
    go_end0
    have hT2 := tset2 (tset1 hT (.int .u16 ((n : Int) + 1))) (.int .u16 ((n : Int) + 1))
    have hT3 := (hgrow1.block T (by simp; omega) (fun e => hTM (Option.some.inj e).symm)).trans (blk_old hT2 (.cells #[.int .u16 a, .int .u16 ((n : Int) + 1)] 116))
    exact ⟨rfl, ⟨_, n + 1, n + 1, hT3, hown1, HP.out⟩, ((((Kp.refl _ w).setCell (p := ⟨T, 1, none⟩) (.inl (.inl rfl)) _).setCell (p := ⟨T, 2, none⟩) (.inl (.inl rfl)) _).alloc _).grown hgrow1 (fun k e => by cases e; exact .inl (.inr rfl))⟩
  · have h0' : ¬ ((Maps.size D : Nat) : Int) = 0 := by omega
    rw [if_neg h0] at HP
    go_enter Try.func84, Try.ntmps84
    go_wp2_with (first
      | (at_len; refine wpList_len_own _ rfl _ 68 rfl 116 3 Try.underlying68 _ M q D rfl (hM.alloc _) ?_)
      | (at_mapUpdate; refine wpList_mapUpdate_own _ rfl _ _ _ 68 rfl 116 3 codeKeyed Try.underlying68 _ M q D rfl ((hM.setCell (a := ⟨T, 2, none⟩) hTM _).alloc _) (by unfold maxLen; omega) _ _ _ rfl rfl hkey _ [] (plainElem_int Try.underlying3 hi64) ?_; intro w1 hown1 hgrow1))
    go_end0
    have hT2 := tset2 hT (.int .u16 ((n : Int) + 1))
    have hT3 := (hgrow1.block T (by simp; omega) (fun e => hTM (Option.some.inj e).symm)).trans (blk_old hT2 (.cells #[.int .u16 a, .int .u16 ((n : Int) + 1)] 116))
    exact ⟨rfl, ⟨_, sh, n + 1, hT3, hown1, HP.out⟩, (((Kp.refl _ w).setCell (p := ⟨T, 2, none⟩) (.inl (.inl rfl)) _).alloc _).grown hgrow1 (fun k e => by cases e; exact .inl (.inr rfl))⟩

end Go.Proofs.Ytmfijackgekioaa
