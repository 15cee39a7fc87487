import Derived.Test.YtmfijackgekioaaGreatQGl
import Derived.Maps.AppendAt

/-
  The steps of a part, one behind another: the program. For Deflates.
-/
namespace Go.Proofs.YtmfijackgekioaaGreat
open Go.RowKit Go.Maps

theorem Tryz.infoStep : (Tryz.prog.info? 101).map (fun i => (i.zero, i.size, i.bytes)) = some (some (.agg #[.int .i64 0, .int .i64 0]), 2, 16) := by kernel_rfl

def scells (S : List (Nat × Nat)) : List Value := S.flatMap fun s => [.int .i64 (s.1 : Nat), .int .i64 (s.2 : Nat)]
theorem scells_snoc (S : List (Nat × Nat)) (s : Nat × Nat) : scells (S ++ [s]) = scells S ++ [.int .i64 (s.1 : Nat), .int .i64 (s.2 : Nat)] := by simp [scells]
theorem scells_length (S : List (Nat × Nat)) : (scells S).length = S.length * 2 := by
  induction S with
  | nil => rfl
  | cons x l ih => simp only [scells, List.flatMap_cons, List.length_append, List.length_cons, List.length_nil] at *; omega

/-- The list of steps, in its variable. -/
structure Stl (w : World) (Xs : Nat) (S : List (Nat × Nat)) (sv : Value) : Prop where
  box : Box w Xs sv 62
  own : w.ownsRow (Xs + 1) 101 2 sv S.length (scells S)
theorem Stl.kept {w w' : World} {Xs : Nat} {S : List (Nat × Nat)} {sv : Value} (h : Stl w Xs S sv) (k : ∀ j, j = Xs ∨ sv.ownBlock = some j → w'.heap[j]? = w.heap[j]?) : Stl w' Xs S sv :=
  ⟨(k _ (.inl rfl)).trans h.box, own_keep h.own (fun g hg => k g (.inr hg))⟩
theorem Stl.lt {w : World} {Xs : Nat} {S : List (Nat × Nat)} {sv : Value} (h : Stl w Xs S sv) (g : Nat) (hg : sv.ownBlock = some g) : Xs + 1 ≤ g ∧ g < w.heap.size := h.own.lt g hg
theorem Stl.below {w w' : World} {Xs : Nat} {S : List (Nat × Nat)} {sv : Value} (h : Stl w Xs S sv) (k : Below w.heap.size w w') : Stl w' Xs S sv :=
  h.kept (fun j hj => k.block j (by rcases hj with rfl | hj; exact lt_of_block h.box; exact (h.lt j hj).2))

set_option maxRecDepth 100000 in
set_option maxHeartbeats 2000000 in
theorem push77 (Xs l d : Nat) (S : List (Nat × Nat)) (sv : Value) (w : World) (h : Stl w Xs S sv) (hS : S.length ≤ 100000) :
    Calls Tryz.prog 63 #[.agg #[.int .i64 (l : Nat), .int .i64 (d : Nat)], .pointer (some ⟨Xs, 0, none⟩)] w fun e w' => e = .returned (.tuple #[]) ∧ ∃ sv', Stl w' Xs (S ++ [(l, d)]) sv' ∧ (sv'.ownBlock = sv.ownBlock ∨ ∃ g, sv'.ownBlock = some g ∧ w.heap.size ≤ g) ∧ Kp (fun k => k = Xs ∨ sv.ownBlock = some k) w w' := by
  obtain ⟨i0, hi, hz0, hz1, hz2⟩ := info_parts Tryz.infoStep
  have hlx := lt_of_block h.box
  obtain ⟨k0, q0, q1⟩ := two_boxes w (.cells #[.int .i64 (l : Nat), .int .i64 (d : Nat)] 101) (.cells #[.int .i64 (l : Nat), .int .i64 (d : Nat)] 101)
  have h2 := h.below k0
  have hsz2 : ((w.alloc (.cells #[.int .i64 (l : Nat), .int .i64 (d : Nat)] 101)).alloc (.cells #[.int .i64 (l : Nat), .int .i64 (d : Nat)] 101)).heap.size = w.heap.size + 1 + 1 := by simp
  obtain ⟨v', w', hr, ho', hg', _, hat⟩ := run_append_own_at (P := Tryz.prog) ((w.alloc (.cells #[.int .i64 (l : Nat), .int .i64 (d : Nat)] 101)).alloc (.cells #[.int .i64 (l : Nat), .int .i64 (d : Nat)] 101)) (Xs + 1) 62 62 101 i0 _ 2 16 Tryz.underlying62 hi hz0 hz1 hz2 rfl (by decide) sv S.length (scells S) h2.own ⟨w.heap.size + 1, 0, none⟩ 1 1 [.int .i64 (l : Nat), .int .i64 (d : Nat)] rfl (fun j u hj => by
      rw [add_at, Nat.zero_add, cell_at q1]
      simpa using hj) (fun u hu => by
      simp only [List.mem_cons, List.not_mem_nil, or_false] at hu
      rcases hu with rfl | rfl <;> rfl) (by unfold maxLen; omega) (by omega) (by omega)
  rw [hsz2] at hat
  have hsl : Stl (w'.setCell ⟨Xs, 0, none⟩ v') Xs (S ++ [(l, d)]) v' := by
    have hbx : w'.heap[Xs]? = some (.cells #[sv] 62 (0, 0)) := (hg'.block Xs (lt_of_block h2.box) (fun e => by have := (h2.lt Xs e.symm).1; omega)).trans h2.box
    refine ⟨one_set hbx v', own_keep (by rw [List.length_append, scells_snoc]; exact ho') (fun g hg => Below.heap_setCell _ ⟨Xs, 0, none⟩ _ g (fun e => by have := (ho'.lt g hg).1; dsimp only at e; omega))⟩
  have hkp : Kp (fun k => k = Xs ∨ sv.ownBlock = some k) w (w'.setCell ⟨Xs, 0, none⟩ v') := by
    refine (Kp.grown (Kp.ofBelow k0) hg' (fun k hk => .inl (.inr hk))).setCell (p := ⟨Xs, 0, none⟩) (.inl (.inl rfl)) _
  have hbx : w'.heap[Xs]? = some (.cells #[sv] 62 (0, 0)) := (hg'.block Xs (lt_of_block h2.box) (fun e => by have := (h2.lt Xs e.symm).1; omega)).trans h2.box
  obtain ⟨x0, x1, x2⟩ := one_cell hbx
  have c0 := h.box.cell
  have HH : Hid (_ ∧ _ ∧ _) := ⟨hsl, hkp, hat⟩
  obtain ⟨oa, oc, rfl⟩ := own_slice2 h.own
  obtain ⟨oa', oc', rfl⟩ := own_slice2 ho'
  clear h2 hsl hkp ho' hg' hat hbx k0 q0 q1 h hsz2
  go_enter Tryz.func63, Tryz.ntmps63
  go_wp2_with (at_builtin; refine Lib.wpList_append_run _ rfl _ _ _ _ rfl _ _ rfl rfl _ _ hr ?_)
  go_end0
  obtain ⟨a, b, c⟩ := HH.out
  refine ⟨rfl, _, a, ?_, b⟩
  rcases c with c | c
  · exact .inl c
  · exact .inr ⟨_, c, by omega⟩
theorem call77 (args : Array Value) (w : World) : (callFunc 63 args).run Tryz.prog w = .ok (.enter 63 args) w := by kernel_rfl

theorem fits_snoc (T : List UInt8) : ∀ (S : List (Nat × Nat)) (p q : Nat) (s : Nat × Nat), Rf.Fits T p S q → Rf.StepOk T q s → Rf.Fits T p (S ++ [s]) (q + s.1)
  | [], p, q, s, h, hs => by
    have h : p = q := h
    subst h
    exact ⟨hs, rfl⟩
  | x :: r, p, q, s, h, hs => ⟨h.1, fits_snoc T r (p + x.1) q s h.2 hs⟩
theorem best_step {T : List UInt8} {p e l d : Nat} (h : BestOk T p (min (e - p) 258) l d) (hp : p < e) (he : e ≤ T.length) : Rf.StepOk T p (l, d) ∧ p + l ≤ e ∧ 1 ≤ l ∧ l ≤ 258 := by
  rcases h with ⟨rfl, rfl⟩ | ⟨a, b, c, g, k, q⟩
  · exact ⟨.inl ⟨rfl, rfl, by omega⟩, by omega, by omega, by omega⟩
  · exact ⟨.inr ⟨a, by omega, c, g, k, by omega, q⟩, by omega, by omega, by omega⟩
end Go.Proofs.YtmfijackgekioaaGreat
