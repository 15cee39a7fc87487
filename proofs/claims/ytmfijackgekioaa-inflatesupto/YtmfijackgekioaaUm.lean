/-
  The fixed tables, made once.
-/
import Derived.Test.YtmfijackgekioaaUh
import Derived.Test.YtmfijackgekioaaUl
namespace Go.Proofs.Ytmfijackgekioaa
open Go.RowKit Go.Maps

abbrev btV (M1 s1 l1 M2 s2 l2 : Nat) : Value := .agg #[.map (some M1), .int .u16 s1, .int .u16 l1, .map (some M2), .int .u16 s2, .int .u16 l2]
abbrev btC (M1 s1 l1 M2 s2 l2 : Nat) : Array Value := #[.map (some M1), .int .u16 s1, .int .u16 l1, .map (some M2), .int .u16 s2, .int .u16 l2]
abbrev zero6 : Array Value := #[.map none, .int .u16 0, .int .u16 0, .map none, .int .u16 0, .int .u16 0]

theorem getD_map_range (n : Nat) (f : Nat → Int) (j : Nat) : ((List.range n).map f).getD j 0 = if j < n then f j else 0 := by
  by_cases h : j < n
  · simp [List.getD, h]
  · simp [List.getD, h]
theorem fixS_le (j : Nat) : Rf.fixS.getD j 0 ≤ 15 := by
  rw [Rf.fixS, getD_map_range]; unfold Rf.fixL; repeat' split
  all_goals omega
theorem fixP_le (j : Nat) : fixP.getD j 0 ≤ 15 := by
  rw [fixP, getD_map_range]; split <;> omega
theorem fixS_fs : Rf.fs Rf.fixS Rf.fixS.length ≤ 32768 := by decide +kernel
theorem fixP_fs : Rf.fs fixP fixP.length ≤ 32768 := by decide +kernel

theorem cells6 {w : World} {T : Nat} {a b c d e f : Value} {t : TypeId} (h : w.heap[T]? = some (.cells #[a, b, c, d, e, f] t (0, 0))) :
    w.cell? ⟨T, 0, none⟩ = some a ∧ w.cell? ⟨T, 1, none⟩ = some b ∧ w.cell? ⟨T, 2, none⟩ = some c ∧ w.cell? ⟨T, 3, none⟩ = some d ∧ w.cell? ⟨T, 4, none⟩ = some e ∧ w.cell? ⟨T, 5, none⟩ = some f ∧ (∀ j, w.frozen? ⟨T, j, none⟩ = false) ∧ T < w.heap.size :=
  ⟨cell_of_row _ _ _ _ _ _ h, cell_of_row _ _ _ _ _ _ h, cell_of_row _ _ _ _ _ _ h, cell_of_row _ _ _ _ _ _ h, cell_of_row _ _ _ _ _ _ h, cell_of_row _ _ _ _ _ _ h, fun j => frozen_of_row w T j _ _ h, lt_of_block h⟩

/-- Six cells of a block stored one by one. -/
abbrev set6 (w : World) (T : Nat) (a b c d e f : Value) : World := (((((w.setCell ⟨T, 0, none⟩ a).setCell ⟨T, 1, none⟩ b).setCell ⟨T, 2, none⟩ c).setCell ⟨T, 3, none⟩ d).setCell ⟨T, 4, none⟩ e).setCell ⟨T, 5, none⟩ f
theorem set6_kp (w : World) (T : Nat) (a b c d e f : Value) : Kp (· = T) w (set6 w T a b c d e f) :=
  ((((((Kp.refl (· = T) w).setCell (p := ⟨T, 0, none⟩) (.inl rfl) a).setCell (p := ⟨T, 1, none⟩) (.inl rfl) b).setCell (p := ⟨T, 2, none⟩) (.inl rfl) c).setCell (p := ⟨T, 3, none⟩) (.inl rfl) d).setCell (p := ⟨T, 4, none⟩) (.inl rfl) e).setCell (p := ⟨T, 5, none⟩) (.inl rfl) f
theorem set6_blk {w : World} {T : Nat} {cs : Array Value} {t : TypeId} (h : w.heap[T]? = some (.cells cs t (0, 0))) (hs : cs.size = 6) (a b c d e f : Value) : (set6 w T a b c d e f).heap[T]? = some (.cells #[a, b, c, d, e, f] t (0, 0)) := by
  obtain ⟨l⟩ := cs
  match l, hs with
  | [x0, x1, x2, x3, x4, x5], _ =>
    exact (heap_setCell_same _ T 5 _ _ f (heap_setCell_same _ T 4 _ _ e (heap_setCell_same _ T 3 _ _ d (heap_setCell_same _ T 2 _ _ c (heap_setCell_same _ T 1 _ _ b (heap_setCell_same w T 0 _ _ a h)))))).trans rfl

set_option maxRecDepth 100000 in
set_option maxHeartbeats 1000000 in
theorem tables_of (S D : List Int) (w : World) (hS : ∀ w, Calls Try.prog 60 #[] w fun e w' => e = .returned (.slice (some ⟨w.heap.size, 0, none⟩) 288 288) ∧ Lst w' w.heap.size S ∧ Below w.heap.size w w')
    (hD : ∀ w, Calls Try.prog 61 #[] w fun e w' => e = .returned (.slice (some ⟨w.heap.size, 0, none⟩) 30 30) ∧ Lst w' w.heap.size D ∧ Below w.heap.size w w')
    (lS : S.length = 288) (lD : D.length = 30) (wS : ∀ j, S.getD j 0 ≤ 15) (wD : ∀ j, D.getD j 0 ≤ 15) (fS : Rf.fs S S.length ≤ 32768) (fD : Rf.fs D D.length ≤ 32768) :
    Calls Try.prog 36 #[] w fun e w' => ∃ M1 s1 l1 M2 s2 l2, e = .returned (btV M1 s1 l1 M2 s2 l2) ∧ Tab w' M1 s1 l1 S ∧ Tab w' M2 s2 l2 D ∧ w.heap.size ≤ M1 ∧ w.heap.size ≤ M2 ∧ Below w.heap.size w w' := by
  go_enter Try.func36, Try.ntmps36
  go_wp2_with fail
  refine (hS _).mono ?_
  rintro e w1 ⟨rfl, l1, b1⟩
  simp only [World.size_alloc] at l1 b1 ⊢
  have h1 : w.heap.size + 1 ≤ w1.heap.size := by have := b1.size; simpa using this
  go_wp2_with fail
  refine (newTable59 _ 288 S 288 _ lS (by omega) l1.ints (fun a e _ => by cases e; exact lt_of_block l1) wS fS).mono ?_
  rintro e w2 ⟨M1, s1, lo1, rfl, T1, hM1, b2⟩
  have h2 := b2.size
  go_wp2_with fail
  refine (hD _).mono ?_
  rintro e w3 ⟨rfl, l3, b3⟩
  have h3 := b3.size
  have T1' := T1.below b3 T1.lt
  go_wp2_with fail
  refine (newTable59 _ 30 D 30 _ lD (by omega) l3.ints (fun a e _ => by cases e; exact lt_of_block l3) wD fD).mono ?_
  rintro e w4 ⟨M2, s2, lo2, rfl, T2, hM2, b4⟩
  have h4 := b4.size
  have hr : w4.heap[w.heap.size]? = some (.cells zero6 73 (0, 0)) :=
    (b4.block _ (by omega)).trans ((b3.block _ (by omega)).trans ((b2.block _ (by omega)).trans ((b1.block _ (by omega)).trans (blk_new w _))))
  obtain ⟨r0, r1, r2, r3, r4, r5, rz, rlt⟩ := cells6 hr
  have HB : Hid (Below w.heap.size w w4) := ((((Below.refl _ _).alloc (Nat.le_refl _) _).trans (b1.mono (by simp))).trans (b2.mono (by omega))).trans ((b3.mono (by omega)).trans (b4.mono (by omega)))
  have HT1 : Hid (Tab w4 M1 s1 lo1 S) := T1'.below b4 T1'.lt
  have hM1' : w.heap.size + 1 ≤ M1 := by omega
  have hM2' : w.heap.size + 1 ≤ M2 := by omega
  have HT2 : Hid (Tab w4 M2 s2 lo2 D) := T2
  clear l1 l3 b1 b2 b3 b4 T1 T1' T2
  go_wp2
  have hk := set6_kp w4 w.heap.size
  exact bodyPost_ret (v := btV M1 s1 lo1 M2 s2 lo2) (by simp [results, Try.results36, go_sem, r0, r1, r2, r3, r4, r5]) rfl
    ⟨M1, s1, lo1, M2, s2, lo2, rfl, HT1.out.kept (hk _ _ _ _ _ _) (by omega), HT2.out.kept (hk _ _ _ _ _ _) (by omega), by omega, by omega, HB.out.trans ((hk _ _ _ _ _ _).below (Nat.le_of_lt rlt) (fun k _ h => by omega))⟩

theorem tables36 (w : World) :
    Calls Try.prog 36 #[] w fun e w' => ∃ M1 s1 l1 M2 s2 l2, e = .returned (btV M1 s1 l1 M2 s2 l2) ∧ Tab w' M1 s1 l1 Rf.fixS ∧ Tab w' M2 s2 l2 fixP ∧ w.heap.size ≤ M1 ∧ w.heap.size ≤ M2 ∧ Below w.heap.size w w' :=
  tables_of Rf.fixS fixP w fixS60 fixD61 (by simp [Rf.fixS]) (by simp [fixP]) fixS_le fixP_le fixS_fs fixP_fs

/-- The fixed tables, made or not yet: the function that makes them (block b), whether it has been called (b + 1), the tables (b + 2). -/
structure Once (w : World) (b : Nat) : Prop where
  f : w.heap[b]? = some (.cells #[.func (.func 36) #[] #[]] 64 (0, 0))
  ex : (w.heap[b + 1]? = some (.cells #[.bool false] 4 (0, 0)) ∧ w.heap[b + 2]? = some (.cells zero6 73 (0, 0))) ∨
    ∃ M1 s1 l1 M2 s2 l2, w.heap[b + 1]? = some (.cells #[.bool true] 4 (0, 0)) ∧ w.heap[b + 2]? = some (.cells (btC M1 s1 l1 M2 s2 l2) 73 (0, 0)) ∧ Tab w M1 s1 l1 Rf.fixS ∧ Tab w M2 s2 l2 fixP ∧ b + 2 < M1 ∧ b + 2 < M2

abbrev onceV (b : Nat) : Value := .func (.func 58) #[] #[.pointer (some ⟨b + 1, 0, none⟩), .pointer (some ⟨b, 0, none⟩), .pointer (some ⟨b + 2, 0, none⟩)]

set_option maxRecDepth 100000 in
set_option maxHeartbeats 1000000 in
theorem make35 (w : World) :
    Calls Try.prog 35 #[.func (.func 36) #[] #[]] w fun e w' => e = .returned (onceV w.heap.size) ∧ Once w' w.heap.size ∧ Below w.heap.size w w' ∧ w'.heap.size = w.heap.size + 3 := by
  have hmf : ∀ (fn : Fn) (first cap : Array Value) (w : World), (Instr.makeFunc fn first cap).run Try.prog w = .ok (.func fn first cap) w := fun _ _ _ _ => rfl
  go_enter Try.func35, Try.ntmps35
  go_wp2
  go_ret
  refine ⟨rfl, ⟨?_, .inl ⟨?_, ?_⟩⟩, ?_, by simp⟩
  · exact blk_old (blk_old (blk_new w _) _) _
  · have h := blk_new (w.alloc (.cells #[.func (.func 36) #[] #[]] 64)) (.cells #[.bool false] 4)
    rw [World.size_alloc] at h
    exact blk_old h _
  · have h := blk_new ((w.alloc (.cells #[.func (.func 36) #[] #[]] 64)).alloc (.cells #[.bool false] 4)) (.cells zero6 73)
    rw [World.size_alloc, World.size_alloc] at h
    exact h
  · exact (((Below.refl _ _).alloc (Nat.le_refl _) _).alloc (by simp) _).alloc (by simp; omega) _

theorem one_cell {w : World} {b : Nat} {v : Value} {t : TypeId} (h : w.heap[b]? = some (.cells #[v] t (0, 0))) : w.cell? ⟨b, 0, none⟩ = some v ∧ w.frozen? ⟨b, 0, none⟩ = false ∧ b < w.heap.size :=
  ⟨cell_of_row _ _ _ _ _ _ h, frozen_of_row w b 0 _ _ h, lt_of_block h⟩
theorem one_set {w : World} {b : Nat} {v : Value} {t : TypeId} (h : w.heap[b]? = some (.cells #[v] t (0, 0))) (u : Value) : (w.setCell ⟨b, 0, none⟩ u).heap[b]? = some (.cells #[u] t (0, 0)) := (heap_setCell_same w b 0 _ _ u h).trans rfl

set_option maxRecDepth 100000 in
set_option maxHeartbeats 1000000 in
theorem once_again (b : Nat) (M1 s1 l1 M2 s2 l2 : Nat) (w : World) (g1 : w.heap[b + 1]? = some (.cells #[.bool true] 4 (0, 0))) (g2 : w.heap[b + 2]? = some (.cells (btC M1 s1 l1 M2 s2 l2) 73 (0, 0))) :
    Calls Try.prog 58 #[.pointer (some ⟨b + 1, 0, none⟩), .pointer (some ⟨b, 0, none⟩), .pointer (some ⟨b + 2, 0, none⟩)] w
      fun e w' => e = .returned (btV M1 s1 l1 M2 s2 l2) ∧ Kp (fun _ => False) w w' := by
  obtain ⟨c1, _, lt1⟩ := one_cell g1
  obtain ⟨r0, r1, r2, r3, r4, r5, rz, rlt⟩ := cells6 g2
  have n0 : (w.alloc (.cells zero6 73)).heap[w.heap.size]? = some (.cells zero6 73 (0, 0)) := blk_new w _
  go_enter Try.func58, Try.ntmps58
  go_wp2
  exact bodyPost_ret (v := btV M1 s1 l1 M2 s2 l2) (by simp [results, Try.results58, go_sem]) rfl ⟨rfl, (Kp.refl _ w).alloc _⟩

set_option maxRecDepth 100000 in
set_option maxHeartbeats 2000000 in
theorem once_first (b : Nat) (w : World) (g0 : w.heap[b]? = some (.cells #[.func (.func 36) #[] #[]] 64 (0, 0))) (g1 : w.heap[b + 1]? = some (.cells #[.bool false] 4 (0, 0))) (g2 : w.heap[b + 2]? = some (.cells zero6 73 (0, 0))) :
    Calls Try.prog 58 #[.pointer (some ⟨b + 1, 0, none⟩), .pointer (some ⟨b, 0, none⟩), .pointer (some ⟨b + 2, 0, none⟩)] w
      fun e w' => ∃ M1 s1 l1 M2 s2 l2, e = .returned (btV M1 s1 l1 M2 s2 l2) ∧ w'.heap[b + 1]? = some (.cells #[.bool true] 4 (0, 0)) ∧ w'.heap[b + 2]? = some (.cells (btC M1 s1 l1 M2 s2 l2) 73 (0, 0)) ∧
        Tab w' M1 s1 l1 Rf.fixS ∧ Tab w' M2 s2 l2 fixP ∧ w.heap.size ≤ M1 ∧ w.heap.size ≤ M2 ∧ Kp (fun k => k = b + 1 ∨ k = b + 2) w w' := by
  obtain ⟨c0, _, lt0⟩ := one_cell g0
  obtain ⟨c1, z1, lt1⟩ := one_cell g1
  have lt2 := lt_of_block g2
  have htab := tables36 (w.alloc (.cells zero6 73))
  simp only [World.size_alloc] at htab
  generalize Rf.fixS = S at *
  generalize fixP = D at *
  go_enter Try.func58, Try.ntmps58
  go_wp2_with fail
  refine htab.mono ?_
  rintro e w1 ⟨M1, s1, l1, M2, s2, l2, rfl, T1, T2, hM1, hM2, b1⟩
  have hsz := b1.size
  simp only [World.size_alloc] at hsz
  have k1 : w1.heap[b + 1]? = some (.cells #[.bool false] 4 (0, 0)) := (b1.block _ (by omega)).trans (blk_old g1 _)
  have k2 : w1.heap[b + 2]? = some (.cells zero6 73 (0, 0)) := (b1.block _ (by omega)).trans (blk_old g2 _)
  have k3 : w1.heap[w.heap.size]? = some (.cells zero6 73 (0, 0)) := (b1.block _ (by omega)).trans (blk_new w _)
  obtain ⟨d1, y1, _⟩ := one_cell k1
  obtain ⟨q0, q1, q2, q3, q4, q5, qz, qlt⟩ := cells6 k2
  obtain ⟨r0, r1, r2, r3, r4, r5, rz, rlt⟩ := cells6 k3
  have HB : Hid (Kp (fun k => k = b + 1 ∨ k = b + 2) w w1) := ((Kp.refl _ w).alloc _).trans ⟨b1.os, b1.tape, b1.output, b1.size, fun k hk _ => b1.block k (by rw [World.size_alloc] at hk; exact hk)⟩
  have HT : Hid (Tab w1 M1 s1 l1 S ∧ Tab w1 M2 s2 l2 D) := ⟨T1, T2⟩
  have HK : Hid (w1.heap[b + 1]? = some (.cells #[.bool false] 4 (0, 0)) ∧ w1.heap[b + 2]? = some (.cells zero6 73 (0, 0))) := ⟨k1, k2⟩
  clear T1 T2 b1 k1 k2 k3 htab g0 g1 g2
  go_wp2
  have kA : Kp (· = b + 1) w1 (w1.setCell ⟨b + 1, 0, none⟩ (.bool true)) := (Kp.refl (· = b + 1) w1).setCell (p := ⟨b + 1, 0, none⟩) (.inl rfl) _
  have kB := set6_kp (w1.setCell ⟨b + 1, 0, none⟩ (.bool true)) (b + 2) (.map (some M1)) (.int .u16 s1) (.int .u16 l1) (.map (some M2)) (.int .u16 s2) (.int .u16 l2)
  have kC := set6_kp (set6 (w1.setCell ⟨b + 1, 0, none⟩ (.bool true)) (b + 2) (.map (some M1)) (.int .u16 s1) (.int .u16 l1) (.map (some M2)) (.int .u16 s2) (.int .u16 l2)) w.heap.size (.map (some M1)) (.int .u16 s1) (.int .u16 l1) (.map (some M2)) (.int .u16 s2) (.int .u16 l2)
  have sA := kA.size
  have sB := kB.size
  have h1 := (kC.block (b + 1) (by omega) (by omega)).trans ((kB.block (b + 1) (by omega) (by omega)).trans (one_set HK.out.1 (.bool true)))
  have h2 := (kC.block (b + 2) (by omega) (by omega)).trans (set6_blk ((kA.block (b + 2) (by omega) (by omega)).trans HK.out.2) rfl (.map (some M1)) (.int .u16 s1) (.int .u16 l1) (.map (some M2)) (.int .u16 s2) (.int .u16 l2))
  have t1 := ((HT.out.1.kept kA (by omega)).kept kB (by omega)).kept kC (by omega)
  have t2 := ((HT.out.2.kept kA (by omega)).kept kB (by omega)).kept kC (by omega)
  have k9 := ((HB.out.then kA (fun i _ e => .inl e)).then kB (fun i _ e => .inr e)).then kC (fun i h e => by omega)
  exact bodyPost_ret (v := btV M1 s1 l1 M2 s2 l2) (by simp [results, Try.results58, go_sem, r0, r1, r2, r3, r4, r5]) rfl ⟨M1, s1, l1, M2, s2, l2, rfl, h1, h2, t1, t2, by omega, by omega, k9⟩

/-- The fixed tables are at hand. -/
theorem once58 (b : Nat) (w : World) (h : Once w b) :
    Calls Try.prog 58 #[.pointer (some ⟨b + 1, 0, none⟩), .pointer (some ⟨b, 0, none⟩), .pointer (some ⟨b + 2, 0, none⟩)] w
      fun e w' => ∃ M1 s1 l1 M2 s2 l2, e = .returned (btV M1 s1 l1 M2 s2 l2) ∧ Tab w' M1 s1 l1 Rf.fixS ∧ Tab w' M2 s2 l2 fixP ∧ b + 2 < M1 ∧ b + 2 < M2 ∧ Once w' b ∧ Kp (fun k => k = b + 1 ∨ k = b + 2) w w' := by
  rcases h.ex with ⟨g1, g2⟩ | ⟨M1, s1, l1, M2, s2, l2, g1, g2, T1, T2, m1, m2⟩
  · refine (once_first b w h.f g1 g2).mono ?_
    rintro e w' ⟨M1, s1, l1, M2, s2, l2, rfl, q1, q2, t1, t2, m1, m2, k⟩
    have lt := lt_of_block g2
    exact ⟨M1, s1, l1, M2, s2, l2, rfl, t1, t2, by omega, by omega, ⟨(k.block b (lt_of_block h.f) (by omega)).trans h.f, .inr ⟨M1, s1, l1, M2, s2, l2, q1, q2, t1, t2, by omega, by omega⟩⟩, k⟩
  · refine (once_again b M1 s1 l1 M2 s2 l2 w g1 g2).mono ?_
    rintro e w' ⟨rfl, k⟩
    have k2 : Kp (fun k => k = b + 1 ∨ k = b + 2) w w' := k.mono (fun _ _ h => h.elim)
    have e1 : ∀ j, j < w.heap.size → w'.heap[j]? = w.heap[j]? := fun j hj => k.block j hj id
    have t1 := T1.kept k id
    have t2 := T2.kept k id
    exact ⟨M1, s1, l1, M2, s2, l2, rfl, t1, t2, m1, m2, ⟨(e1 b (lt_of_block h.f)).trans h.f, .inr ⟨M1, s1, l1, M2, s2, l2, (e1 _ (lt_of_block g1)).trans g1, (e1 _ (lt_of_block g2)).trans g2, t1, t2, m1, m2⟩⟩, k2⟩

end Go.Proofs.Ytmfijackgekioaa
