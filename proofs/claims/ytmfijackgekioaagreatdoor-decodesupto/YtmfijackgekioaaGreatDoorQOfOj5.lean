import Derived.Test.YtmfijackgekioaaGreatDoorQOe
import Derived.ArgAppend

/-
  The law's books: lists that came out, each with its mark. For Decodes.
-/
namespace Go.Proofs.YtmfijackgekioaaGreatDoor
open Go.RowKit Go.Maps

/-- A list that came out, and its mark. -/
structure Ent where
  v : Value
  n : Nat
  mr : Int
/-- It reads as its owner wrote it. -/
def Marked (w : World) (X : Nat → Prop) (e : Ent) : Prop := ∃ ao cap, e.v = .slice ao e.n cap ∧ ∀ j, j < e.n → ∃ b off, ao = some ⟨b, off, none⟩ ∧ w.cell? ⟨b, off + j, none⟩ = some (.int .i64 e.mr) ∧ ¬ X b ∧ b < w.heap.size
theorem Marked.kp {w w' : World} {X Y : Nat → Prop} {e : Ent} (h : Marked w X e) (k : Kp X w w') (hY : ∀ b, b < w.heap.size → Y b → X b) : Marked w' Y e := by
  obtain ⟨ao, cap, e1, h1⟩ := h
  refine ⟨ao, cap, e1, fun j hj => ?_⟩
  obtain ⟨b, off, e2, hc, hx, hb⟩ := h1 j hj
  exact ⟨b, off, e2, (k.cell (p := ⟨b, off + j, none⟩) hb hx).trans hc, fun hy => hx (hY b hb hy), Nat.lt_of_lt_of_le hb k.size⟩
abbrev inBook (O : Nat) (lv mv : Value) (k : Nat) : Prop := k = O ∨ lv.ownBlock = some k ∨ mv.ownBlock = some k
/-- The books in memory. -/
structure Book (w : World) (O : Nat) (E : List Ent) (lv mv : Value) : Prop where
  o : w.heap[O]? = some (.cells #[lv, mv] 26 (0, 0))
  l : w.ownsRow (O + 1) 24 1 lv E.length (E.map Ent.v)
  m : w.ownsRow (O + 1) 3 1 mv E.length (vals (E.map Ent.mr))
  lm : ∀ g, lv.ownBlock = some g → mv.ownBlock ≠ some g
  each : ∀ e ∈ E, Marked w (inBook O lv mv) e
theorem Book.far {w w' : World} {O : Nat} {E : List Ent} {lv mv : Value} (h : Book w O E lv mv) (k : Below w.heap.size w w') : Book w' O E lv mv :=
  ⟨(k.block _ (lt_of_block h.o)).trans h.o, own_keep h.l (fun g hg => k.block g (h.l.lt g hg).2), own_keep h.m (fun g hg => k.block g (h.m.lt g hg).2), h.lm, fun e he => (h.each e he).kp (Kp.ofBelow k) (fun _ _ hy => hy)⟩
theorem Tryz.info24 : (Tryz.prog.info? 24).map (fun i => (i.zero, i.size, i.bytes)) = some (some (.slice none 0 0), 1, 24) := by kernel_rfl
/-- One list more. -/
theorem book_push {w : World} {O : Nat} {E : List Ent} {lv mv : Value} (h : Book w O E lv mv) (e : Ent) (he : Marked w (inBook O lv mv) e) (hE : E.length ≤ 1000) (hv : e.v.oneCell' = true) :
    ∃ lv' w1, (Builtin.append_ #[23, 23] 23 #[lv, .slice (some ⟨w.heap.size, 0, none⟩) 1 1]).run Tryz.prog (w.alloc (.cells #[e.v] 24)) = .ok lv' w1 ∧ w1.heap[O]? = some (.cells #[lv, mv] 26 (0, 0)) ∧
    ∃ mv' w3, (Builtin.append_ #[24, 24] 24 #[mv, .slice (some ⟨w1.heap.size, 0, none⟩) 1 1]).run Tryz.prog ((w1.setCell ⟨O, 0, none⟩ lv').alloc (.cells #[.int .i64 e.mr] 3)) = .ok mv' w3 ∧ w3.heap[O]? = some (.cells #[lv', mv] 26 (0, 0)) ∧
      Book (w3.setCell ⟨O, 1, none⟩ mv') O (E ++ [e]) lv' mv' ∧ Kp (inBook O lv mv) w (w3.setCell ⟨O, 1, none⟩ mv') ∧ (∃ a c, lv' = .slice a (E.length + 1) c) ∧ (∃ a c, mv' = .slice a (E.length + 1) c) ∧ (∀ b, b < w.heap.size → inBook O lv' mv' b → inBook O lv mv b) := by
  obtain ⟨i1, hi1, ha0, ha1, ha2⟩ := info_parts Tryz.info24
  obtain ⟨i0, hi0, hz0, hz1, hz2⟩ := info_parts Tryz.info3
  have lO := lt_of_block h.o
  have k0 := below_alloc w (.cells #[e.v] 24)
  have q0 := blk_new w (.cells #[e.v] 24)
  have h1 := h.far k0
  obtain ⟨lv', w1, hr1, ho1, hg1, _, hb1⟩ := run_append_own_at (P := Tryz.prog) (w.alloc (.cells #[e.v] 24)) (O + 1) 23 23 24 i1 _ 1 24 Tryz.underlying23 hi1 ha0 ha1 ha2 rfl (by decide) lv E.length (E.map Ent.v) h1.l ⟨w.heap.size, 0, none⟩ 1 1 [e.v] rfl (fun j y hj => by
      rw [add_at, Nat.zero_add, cell_at q0]
      simpa using hj) (fun u hu => by
      simp only [List.mem_cons, List.not_mem_nil, or_false] at hu
      subst hu
      exact hv) (by unfold maxLen; omega) (by omega) (by simp; omega)
  have z1 : w.heap.size + 1 ≤ w1.heap.size := by have := hg1.size; simpa using this
  have nlO : lv.ownBlock ≠ some O := fun e => by have := (h.l.lt O e).1; omega
  have nmO : mv.ownBlock ≠ some O := fun e => by have := (h.m.lt O e).1; omega
  have o1 : w1.heap[O]? = some (.cells #[lv, mv] 26 (0, 0)) := (hg1.block O (lt_of_block h1.o) (fun e => nlO e.symm)).trans h1.o
  have o2 : (w1.setCell ⟨O, 0, none⟩ lv').heap[O]? = some (.cells #[lv', mv] 26 (0, 0)) := heap_setCell_same _ O 0 _ _ lv' o1
  have far2 := fun g (hg : g ≠ O) => set_far w1 O 0 lv' g hg
  have sz2 : (w1.setCell ⟨O, 0, none⟩ lv').heap.size = w1.heap.size := by simp
  have l2 : (w1.setCell ⟨O, 0, none⟩ lv').ownsRow (O + 1) 24 1 lv' (E.length + 1) (E.map Ent.v ++ [e.v]) := own_keep ho1 (fun g hg => far2 g (by have := (ho1.lt g hg).1; omega))
  have m2 : (w1.setCell ⟨O, 0, none⟩ lv').ownsRow (O + 1) 3 1 mv E.length (vals (E.map Ent.mr)) := own_keep h1.m (fun g hg => (far2 g (by have := (h1.m.lt g hg).1; omega)).trans (hg1.block g (h1.m.lt g hg).2 (fun e => h.lm g e.symm hg)))
  have k2 := below_alloc (w1.setCell ⟨O, 0, none⟩ lv') (.cells #[.int .i64 e.mr] 3)
  have q2 := blk_new (w1.setCell ⟨O, 0, none⟩ lv') (.cells #[.int .i64 e.mr] 3)
  rw [sz2] at q2
  obtain ⟨mv', w3, hr3, ho3, hg3, _, hb3⟩ := run_append_own_at (P := Tryz.prog) ((w1.setCell ⟨O, 0, none⟩ lv').alloc (.cells #[.int .i64 e.mr] 3)) (O + 1) 24 24 3 i0 _ 1 8 Tryz.underlying24 hi0 hz0 hz1 hz2 rfl (by decide) mv E.length (vals (E.map Ent.mr)) (m2.alloc _) ⟨w1.heap.size, 0, none⟩ 1 1 [.int .i64 e.mr] rfl (fun j y hj => by
      rw [add_at, Nat.zero_add, cell_at q2]
      simpa using hj) (fun u hu => by
      simp only [List.mem_cons, List.not_mem_nil, or_false] at hu
      subst hu
      rfl) (by unfold maxLen; omega) (by omega) (by simp; omega)
  have z3 : w1.heap.size + 1 ≤ w3.heap.size := by have := hg3.size; simpa using this
  have o3 : w3.heap[O]? = some (.cells #[lv', mv] 26 (0, 0)) := (hg3.block O (by simp; omega) (fun e => nmO e.symm)).trans ((k2.block O (lt_of_block o2)).trans o2)
  have hlv' : ∀ g, lv'.ownBlock = some g → lv.ownBlock = some g ∨ g = w.heap.size + 1 := fun g hg => by
    rcases hb1 with hb | hb
    · exact .inl (by rw [← hb]; exact hg)
    · rw [hb] at hg
      injection hg with hg
      right
      rw [← hg]
      simp
  have hmv' : ∀ g, mv'.ownBlock = some g → mv.ownBlock = some g ∨ g = w1.heap.size + 1 := fun g hg => by
    rcases hb3 with hb | hb
    · exact .inl (by rw [← hb]; exact hg)
    · rw [hb] at hg
      injection hg with hg
      right
      rw [← hg]
      simp
  have kp : Kp (inBook O lv mv) w (w3.setCell ⟨O, 1, none⟩ mv') := by
    have a1 : Kp (inBook O lv mv) w (w.alloc (.cells #[e.v] 24)) := (Kp.refl _ _).alloc _
    have a2 : Kp (inBook O lv mv) w w1 := a1.grown hg1 (fun k hk => .inl (.inr (.inl hk)))
    have a3 := (a2.setCell (p := ⟨O, 0, none⟩) (.inl (.inl rfl)) lv').alloc (.cells #[.int .i64 e.mr] 3)
    have a4 := a3.grown hg3 (fun k hk => .inl (.inr (.inr hk)))
    exact a4.setCell (p := ⟨O, 1, none⟩) (.inl (.inl rfl)) mv'
  have l3 : w3.ownsRow (O + 1) 24 1 lv' (E.length + 1) (E.map Ent.v ++ [e.v]) := own_keep l2 (fun g hg => by
    have hlt := (l2.lt g hg).2
    refine (hg3.block g (by simp at hlt ⊢; omega) (fun e => ?_)).trans (k2.block g hlt)
    rcases hlv' g hg with h2 | h2
    · exact h.lm g h2 e.symm
    · have := (h.m.lt g e.symm).2
      omega)
  have hY : ∀ b, b < w.heap.size → inBook O lv' mv' b → inBook O lv mv b := fun b hb hy => by
    rcases hy with hy | hy | hy
    · exact .inl hy
    · rcases hlv' b hy with h2 | h2
      · exact .inr (.inl h2)
      · omega
    · rcases hmv' b hy with h2 | h2
      · exact .inr (.inr h2)
      · omega
  refine ⟨lv', w1, hr1, o1, mv', w3, hr3, o3, ⟨heap_setCell_same _ O 1 _ _ mv' o3, ?_, ?_, ?_, ?_⟩, kp, ?_, ?_, hY⟩
  · rw [List.length_append, List.map_append]
    exact own_keep l3 (fun g hg => set_far w3 O 1 mv' g (by have := (l3.lt g hg).1; omega))
  · rw [List.length_append, List.map_append]
    have e1 : vals (E.map Ent.mr ++ [e].map Ent.mr) = vals (E.map Ent.mr) ++ [.int .i64 e.mr] := by simp [vals]
    rw [e1]
    exact own_keep ho3 (fun g hg => set_far w3 O 1 mv' g (by have := (ho3.lt g hg).1; omega))
  · intro g hg1' hg2'
    have hl1 := (ho1.lt g hg1').2
    rcases hmv' g hg2' with h2 | h2
    · rcases hlv' g hg1' with h3 | h3
      · exact h.lm g h3 h2
      · have := (h.m.lt g h2).2
        omega
    · omega
  · intro e' he'
    rcases List.mem_append.mp he' with h2 | h2
    · exact (h.each e' h2).kp kp hY
    · rw [List.mem_singleton] at h2
      subst h2
      exact he.kp kp hY
  · obtain ⟨a, c, e1⟩ := own_slice ho1
    exact ⟨a, c, e1⟩
  · obtain ⟨a, c, e1⟩ := own_slice ho3
    exact ⟨a, c, e1⟩
end Go.Proofs.YtmfijackgekioaaGreatDoor

/-
  The law's books take a list. For Decodes.
-/
namespace Go.Proofs.YtmfijackgekioaaGreatDoor
open Go.RowKit Go.Maps

/-- A list of marks as a value: none, or in a row of its own that is just as long. -/
def MarkV (w : World) (v : Value) (n : Nat) (mk : Int) : Prop := (n = 0 ∧ v = .slice none 0 0) ∨ ∃ G, v = .slice (some ⟨G, 0, none⟩) n n ∧ Lst w G (List.replicate n mk)
/-- So many marks behind it: a new list. -/
theorem app_marks {u : World} {v : Value} {n : Nat} {mk : Int} (h : MarkV u v n mk) (i : Nat) (hi : 0 < i) (hi3 : i ≤ 3) (hn : n ≤ 1000000000) (cs : Array Value) (hcs : cs = (List.replicate i (Value.int .i64 mk)).toArray) :
    ∃ x w', (Builtin.append_ #[24, 24] 24 #[v, .slice (some ⟨u.heap.size, 0, none⟩) i i]).run Tryz.prog (u.alloc (.cells cs 3)) = .ok x w' ∧ Below u.heap.size u w' ∧ Marked w' (fun k => k < u.heap.size) ⟨x, n + i, mk⟩ ∧ ∃ a c, x = .slice a (n + i) c := by
  obtain ⟨i0, hi0, hz0, hz1, hz2⟩ := info_parts Tryz.info3
  have q0 := blk_new u (.cells cs 3)
  have k0 := below_alloc u (.cells cs 3)
  have hnews : ∀ j y, (List.replicate i (Value.int .i64 mk))[j]? = some y → (u.alloc (.cells cs 3)).cell? ((⟨u.heap.size, 0, none⟩ : Addr).add j) = some y := fun j y hj => by
    rw [add_at, Nat.zero_add, cell_at q0, hcs]
    rw [List.getElem?_toArray]
    exact hj
  have fin : ∀ x w', w'.ownsRow (u.heap.size) 3 1 x (n + i) (vals (List.replicate (n + i) mk)) → (u.alloc (.cells cs 3)).grownBy w' none → Below u.heap.size u w' ∧ Marked w' (fun k => k < u.heap.size) ⟨x, n + i, mk⟩ ∧ ∃ a c, x = .slice a (n + i) c := fun x w' ho hg => by
    obtain ⟨a, c, e1, h1, _, h3⟩ := own_ints' ho
    refine ⟨k0.grown hg (by simp) (fun b hb => by cases hb), ⟨a, c, e1, fun j hj => ?_⟩, a, c, e1⟩
    obtain ⟨b, off, eb, hc⟩ := h1 j (by simpa using hj)
    have h4 := h3 _ eb (by intro h; have := congrArg List.length h; simp at this; omega)
    rw [List.getElem_replicate] at hc
    exact ⟨b, off, eb, hc, by dsimp only at h4; omega, h4.2⟩
  rcases h with ⟨h1, h2⟩ | ⟨G, h2, h3⟩
  · subst h1 h2
    obtain ⟨x, w', hr, ho, hg, _, _⟩ := run_append_own_at (P := Tryz.prog) (u.alloc (.cells cs 3)) (u.heap.size) 24 24 3 i0 _ 1 8 Tryz.underlying24 hi0 hz0 hz1 hz2 rfl (by decide) (.slice none 0 0) 0 [] (World.ownsRow_nil _ _ _ _) ⟨u.heap.size, 0, none⟩ i i (List.replicate i (.int .i64 mk)) (by simp) hnews (fun y hy => by rw [List.mem_replicate] at hy; rw [hy.2]; rfl) (by unfold maxLen; omega) (by omega) (by simp)
    refine ⟨x, w', hr, fin x w' ?_ hg⟩
    rw [List.nil_append] at ho
    rw [Nat.zero_add] at ho ⊢
    simpa [vals] using ho
  · subst h2
    have lG := lt_of_block h3
    obtain ⟨x, w', hr, ho, hg⟩ := run_append_arg_grows (P := Tryz.prog) (w := u.alloc (.cells cs 3)) 24 24 3 i0 _ 1 8 Tryz.underlying24 hi0 hz0 hz1 hz2 rfl (by decide) ⟨G, 0, none⟩ n n (List.replicate n (.int .i64 mk)) (by simp) (fun j y hj => by
      rw [add_at, Nat.zero_add]
      have hj' : j < n := by
        rw [List.getElem?_replicate] at hj
        by_cases h : j < n
        · exact h
        · rw [if_neg h] at hj; cases hj
      have hc := h3.cell j (by simpa using hj')
      refine (k0.cell (p := ⟨G, j, none⟩) lG).trans (hc.trans ?_)
      rw [List.getElem?_replicate, if_pos hj'] at hj
      rw [List.getElem_replicate, ← hj]) ⟨u.heap.size, 0, none⟩ i i (List.replicate i (.int .i64 mk)) (by simp) hnews (by omega) (by unfold maxLen; omega) (by omega)
    refine ⟨x, w', hr, fin x w' ?_ hg⟩
    have h5 := own_mono ho (show u.heap.size ≤ (u.alloc (.cells cs 3)).heap.size by simp)
    rw [List.replicate_append_replicate] at h5
    simpa [vals] using h5
end Go.Proofs.YtmfijackgekioaaGreatDoor

/-
  The law's books take a list: what is kept on the way. For Decodes.
-/
namespace Go.Proofs.YtmfijackgekioaaGreatDoor
open Go.RowKit Go.Maps

theorem MarkV.of {w : World} {ao : Option Addr} {n : Nat} {mk : Int} (h : (n = 0 ∧ ao = none) ∨ ∃ G, ao = some ⟨G, 0, none⟩ ∧ Lst w G (List.replicate n mk)) : MarkV w (.slice ao n n) n mk := by
  rcases h with ⟨h1, h2⟩ | ⟨G, h1, h2⟩
  · exact .inl ⟨h1, by rw [h1, h2]⟩
  · exact .inr ⟨G, by rw [h1], h2⟩
/-- What entries that came of this list may not lie in. -/
abbrev Zone (w0 : World) (O : Nat) (ao : Option Addr) (lv mv : Value) (k : Nat) : Prop := inBook O lv mv k ∨ (k < w0.heap.size ∧ ∀ a, ao = some a → a.block ≠ k)
/-- What may turn while a list is taken. -/
abbrev Turn (O : Nat) (ao : Option Addr) (lv mv : Value) (k : Nat) : Prop := inBook O lv mv k ∨ ∃ a, ao = some a ∧ a.block = k
/-- On the way. -/
structure TK (w0 : World) (O : Nat) (ao : Option Addr) (n : Nat) (mk : Int) (S : Nat → Prop) (E : List Ent) (w : World) (N : List Ent) (lv mv : Value) : Prop where
  b : Book w O (E ++ N) lv mv
  v : (n = 0 ∧ ao = none) ∨ ∃ G, ao = some ⟨G, 0, none⟩ ∧ Lst w G (List.replicate n mk)
  f : ∀ a, ao = some a → ¬ inBook O lv mv a.block
  k : Kp S w0 w
  s : ∀ g, g < w0.heap.size → inBook O lv mv g → S g
  z : ∀ e ∈ N, Marked w (Zone w0 O ao lv mv) e
theorem book_lt {w : World} {O : Nat} {E : List Ent} {lv mv : Value} (h : Book w O E lv mv) (k : Nat) (hk : inBook O lv mv k) : k < w.heap.size := by
  rcases hk with hk | hk | hk
  · rw [hk]; exact lt_of_block h.o
  · exact (h.l.lt k hk).2
  · exact (h.m.lt k hk).2
theorem TK.app {w0 : World} {O : Nat} {ao : Option Addr} {n : Nat} {mk : Int} {S : Nat → Prop} {E : List Ent} {w : World} {N : List Ent} {lv mv : Value} (h : TK w0 O ao n mk S E w N lv mv) (i : Nat) (hi : 0 < i) (hi3 : i ≤ 3) (hn : n ≤ 1000000000) (cs : Array Value) (hcs : cs = (List.replicate i (Value.int .i64 mk)).toArray) :
    ∃ a c w', (Builtin.append_ #[24, 24] 24 #[.slice ao n n, .slice (some ⟨w.heap.size, 0, none⟩) i i]).run Tryz.prog (w.alloc (.cells cs 3)) = .ok (.slice a (n + i) c) w' ∧ TK w0 O ao n mk S E w' N lv mv ∧ Marked w' (Zone w0 O ao lv mv) ⟨.slice a (n + i) c, n + i, mk⟩ := by
  obtain ⟨x, w', hr, hb, hm, a, c, rfl⟩ := app_marks (MarkV.of h.v) i hi hi3 hn cs hcs
  have kk : ∀ {T : Nat → Prop}, Kp T w w' := fun {T} => Kp.ofBelow hb
  refine ⟨a, c, w', hr, ⟨h.b.far hb, ?_, h.f, h.k.trans kk, h.s, fun e he => (h.z e he).kp kk (fun _ _ hy => hy)⟩, ?_⟩
  · rcases h.v with h1 | ⟨G, h1, h2⟩
    · exact .inl h1
    · exact .inr ⟨G, h1, (hb.block _ (lt_of_block h2)).trans h2⟩
  · exact hm.kp (Kp.refl _ _) (fun g _ hy => by
      rcases hy with hy | hy
      · exact book_lt h.b g hy
      · have := h.k.size; exact Nat.lt_of_lt_of_le hy.1 this)
theorem TK.push {w0 : World} {O : Nat} {ao : Option Addr} {n : Nat} {mk : Int} {S : Nat → Prop} {E : List Ent} {w : World} {N : List Ent} {lv mv : Value} (h : TK w0 O ao n mk S E w N lv mv) (a : Option Addr) (m c : Nat) (he : Marked w (Zone w0 O ao lv mv) ⟨.slice a m c, m, mk⟩) (hE : (E ++ N).length ≤ 1000) (q : Nat) (hq : q = (E ++ N).length + 1) :
    ∃ lv' w1, (Builtin.append_ #[23, 23] 23 #[lv, .slice (some ⟨w.heap.size, 0, none⟩) 1 1]).run Tryz.prog (w.alloc (.cells #[.slice a m c] 24)) = .ok lv' w1 ∧ w1.heap[O]? = some (.cells #[lv, mv] 26 (0, 0)) ∧
    ∃ mv' w3, (Builtin.append_ #[24, 24] 24 #[mv, .slice (some ⟨w1.heap.size, 0, none⟩) 1 1]).run Tryz.prog ((w1.setCell ⟨O, 0, none⟩ lv').alloc (.cells #[.int .i64 mk] 3)) = .ok mv' w3 ∧ w3.heap[O]? = some (.cells #[lv', mv] 26 (0, 0)) ∧
      TK w0 O ao n mk S E (w3.setCell ⟨O, 1, none⟩ mv') (N ++ [⟨.slice a m c, m, mk⟩]) lv' mv' ∧ (∃ a c, lv' = .slice a q c) ∧ (∃ a c, mv' = .slice a q c) := by
  subst hq
  obtain ⟨lv', w1, r1, o1, mv', w3, r3, o3, hb, kp, s1, s2, hY⟩ := book_push h.b ⟨.slice a m c, m, mk⟩ (he.kp (Kp.refl _ _) (fun _ _ hy => .inl hy)) hE rfl
  have hz := h.k.size
  have kz : Kp (Zone w0 O ao lv mv) w (w3.setCell ⟨O, 1, none⟩ mv') := kp.mono (fun _ _ hs => .inl hs)
  have hYz : ∀ b, b < w.heap.size → Zone w0 O ao lv' mv' b → Zone w0 O ao lv mv b := fun b hb hy => by
    rcases hy with hy | hy
    · exact .inl (hY b hb hy)
    · exact .inr hy
  refine ⟨lv', w1, r1, o1, mv', w3, r3, o3, ⟨by rw [← List.append_assoc]; exact hb, ?_, ?_, ?_, ?_, ?_⟩, s1, s2⟩
  · rcases h.v with h1 | ⟨G, h1, h2⟩
    · exact .inl h1
    · have hlt : G < w.heap.size := lt_of_block h2
      have h3 := kp.block G hlt (h.f ⟨G, 0, none⟩ h1)
      exact .inr ⟨G, h1, h3.trans h2⟩
  · intro ad had hy
    rcases h.v with h1 | ⟨G, h1, h2⟩
    · rw [h1.2] at had; cases had
    · have hlt : G < w.heap.size := lt_of_block h2
      have e : ad = ⟨G, 0, none⟩ := Option.some.inj (had.symm.trans h1)
      subst e
      exact h.f _ h1 (hY G hlt hy)
  · exact h.k.then kp (fun g hg hs => h.s g hg hs)
  · exact fun g hg hs => h.s g hg (hY g (Nat.lt_of_lt_of_le hg hz) hs)
  · intro e he'
    rcases List.mem_append.mp he' with h2 | h2
    · exact (h.z e h2).kp kz hYz
    · rw [List.mem_singleton] at h2
      subst h2
      exact he.kp kz hYz
end Go.Proofs.YtmfijackgekioaaGreatDoor

/-
  The law's books take a list. For Decodes.
-/
namespace Go.Proofs.YtmfijackgekioaaGreatDoor
open Go.RowKit Go.Maps

/-- A list under way: the first k are written over. -/
def Filed (w : World) (ao : Option Addr) (l : List Int) (mk : Int) (k : Nat) (wr : World) : Prop := (l = [] ∧ ao = none ∧ wr = w) ∨ ∃ G, ao = some ⟨G, 0, none⟩ ∧ Lst wr G (List.replicate k mk ++ l.drop k) ∧ Kp (· = G) w wr
theorem fill_set {l : List Int} {mk : Int} {k : Nat} (hk : k < l.length) : (List.replicate k mk ++ l.drop k).set k mk = List.replicate (k + 1) mk ++ l.drop (k + 1) := by
  rw [List.set_append_right _ _ (by simp)]
  simp only [List.length_replicate, Nat.sub_self]
  rw [List.drop_eq_getElem_cons hk, List.set_cons_zero, List.replicate_succ']
  simp
theorem Filed.o {w wr : World} {ao : Option Addr} {l : List Int} {mk : Int} {k O : Nat} {lv mv : Value} {ob : Obj} (h : Filed w ao l mk k wr) (hO : w.heap[O]? = some ob) (hf : ∀ a, ao = some a → ¬ inBook O lv mv a.block) : wr.heap[O]? = some ob := by
  rcases h with ⟨_, _, h⟩ | ⟨G, h1, h2, h3⟩
  · rw [h]; exact hO
  · exact (h3.block O (lt_of_block hO) (fun e => hf _ h1 (.inl e.symm))).trans hO
theorem Filed.tk {w wr : World} {ao : Option Addr} {l : List Int} {mk : Int} {k O : Nat} {lv mv : Value} {E : List Ent} (h : Filed w ao l mk k wr) (hk : ¬ k < l.length) (hk2 : k ≤ l.length) (hB : Book w O E lv mv) (hf : ∀ a, ao = some a → ¬ inBook O lv mv a.block) (hE : ∀ e ∈ E, Marked w (Turn O ao lv mv) e) :
    TK w O ao l.length mk (Turn O ao lv mv) E wr [] lv mv ∧ Marked wr (Zone w O ao lv mv) ⟨.slice ao l.length l.length, l.length, mk⟩ := by
  have hkl : k = l.length := by omega
  subst hkl
  rcases h with ⟨h1, h2, h3⟩ | ⟨G, h1, h2, h3⟩
  · subst h1 h2 h3
    refine ⟨⟨by rw [List.append_nil]; exact hB, .inl ⟨rfl, rfl⟩, hf, Kp.refl _ _, fun _ _ h => .inl h, fun e he => by cases he⟩, none, 0, rfl, fun j hj => ?_⟩
    exact absurd hj (Nat.not_lt_zero _)
  · rw [List.drop_length, List.append_nil] at h2
    have kT : Kp (Turn O ao lv mv) w wr := h3.mono (fun g _ e => .inr ⟨⟨G, 0, none⟩, h1, e.symm⟩)
    have hG : ¬ inBook O lv mv G := hf ⟨G, 0, none⟩ h1
    have lG : G < wr.heap.size := lt_of_block h2
    have kb : ∀ g, inBook O lv mv g → wr.heap[g]? = w.heap[g]? := fun g hg => h3.block g (book_lt hB g hg) (fun e => hG (by rw [← e]; exact hg))
    refine ⟨⟨?_, .inr ⟨G, h1, h2⟩, hf, kT, fun _ _ h => .inl h, fun e he => by cases he⟩, ao, l.length, rfl, fun j hj => ⟨G, 0, h1, ?_, ?_, lG⟩⟩
    · rw [List.append_nil]
      exact ⟨(kb O (.inl rfl)).trans hB.o, own_keep hB.l (fun g hg => kb g (.inr (.inl hg))), own_keep hB.m (fun g hg => kb g (.inr (.inr hg))), hB.lm, fun e he => (hE e he).kp kT (fun b _ hy => .inl hy)⟩
    · have hc := h2.cell j (by simpa using hj)
      rw [List.getElem_replicate] at hc
      rw [Nat.zero_add]
      exact hc
    · intro hz
      rcases hz with hz | hz
      · exact hG hz
      · exact hz.2 _ h1 rfl
set_option maxRecDepth 100000 in
set_option maxHeartbeats 1000000 in
theorem takeB (w : World) (O : Nat) (ao : Option Addr) (l : List Int) (E : List Ent) (lv mv : Value) (hB : Book w O E lv mv) (hE4 : E.length ≤ 100) (hl : l.length ≤ 1000000000) (hv : (l = [] ∧ ao = none) ∨ ∃ G, ao = some ⟨G, 0, none⟩ ∧ Lst w G l) (hf : ∀ a, ao = some a → ¬ inBook O lv mv a.block) (hE : ∀ e ∈ E, Marked w (Turn O ao lv mv) e) :
    Calls Tryz.prog 23 #[.pointer (some ⟨O, 0, none⟩), .slice ao l.length l.length] w fun e w' => e = .returned (.tuple #[]) ∧ ∃ N lv' mv', N.length = 4 ∧ Book w' O (E ++ N) lv' mv' ∧ Kp (Turn O ao lv mv) w w' ∧ (∀ g, g < w.heap.size → inBook O lv' mv' g → Turn O ao lv mv g) ∧ (∀ e ∈ N, Marked w' (Zone w O ao lv' mv') e) ∧ ∀ e ∈ N, e.n ≤ l.length + 3 := by
  obtain ⟨mk, hmk⟩ : ∃ mk : Int, mk = -1 - (E.length : Int) := ⟨_, rfl⟩
  have hwr : IntKind.i64.wrap (-1 - (E.length : Int)) = mk := by rw [hmk]; exact IntWalk.i64_in _ (by omega)
  obtain ⟨la, lc, rfl⟩ := own_slice hB.l
  obtain ⟨ma, mc, rfl⟩ := own_slice hB.m
  obtain ⟨o0, o1, o2, o3⟩ := cells2 hB.o
  have HF0 : Filed w ao l mk 0 w := by
    rcases hv with h | ⟨G, h1, h2⟩
    · exact .inl ⟨h.1, h.2, rfl⟩
    · exact .inr ⟨G, h1, by simpa using h2, Kp.refl _ _⟩
  have HB : Hid (_ ∧ _ ∧ _) := ⟨hB, hf, hE⟩
  clear hB hf hE hmk hv
  go_enter Tryz.func23, Tryz.ntmps23
  go_wp2
  go_loopw [5] (fun ix wr => ∃ k : Nat, k ≤ l.length ∧ ix = .int .i64 k ∧ Hid (Filed w ao l mk k wr)) (fun ix _ => l.length - (intOf ix).toNat)
  case atStart => exact ⟨0, Nat.zero_le _, rfl, HF0⟩
  case round =>
    obtain ⟨k, hk, rfl, HF⟩ := hrel
    by_cases hlt : k < l.length
    · have hlt' : (k : Int) < (l.length : Int) := by omega
      obtain ⟨G, hao, hL, hK⟩ : ∃ G, ao = some ⟨G, 0, none⟩ ∧ Lst wr G (List.replicate k mk ++ l.drop k) ∧ Kp (· = G) w wr := by
        rcases HF.out with h | h
        · rw [h.1] at hlt; exact absurd hlt (Nat.not_lt_zero _)
        · exact h
      have hc := hL.cell k (by simp; omega)
      have hfz := frozen_of_row wr G k _ _ hL
      have HN : Hid (Filed w ao l mk (k + 1) (wr.setCell ⟨G, k, none⟩ (.int .i64 mk))) := .inr ⟨G, hao, by rw [← fill_set hlt]; exact hL.set k mk, hK.set1 k _⟩
      subst hao
      clear hL hK HF HF0
      go_wp2
      go_roundw
      case rel => exact ⟨k + 1, by omega, by go_num, HN⟩
      case measure => simp [intOf]; omega
    · have hnlt : ¬ (k : Int) < (l.length : Int) := by omega
      obtain ⟨q1, hq1⟩ : ∃ q : Nat, q = E.length + 1 := ⟨_, rfl⟩
      obtain ⟨q2, hq2⟩ : ∃ q : Nat, q = E.length + 2 := ⟨_, rfl⟩
      obtain ⟨q3, hq3⟩ : ∃ q : Nat, q = E.length + 3 := ⟨_, rfl⟩
      obtain ⟨q4, hq4⟩ : ∃ q : Nat, q = E.length + 4 := ⟨_, rfl⟩
      have HQ : Hid (_ ∧ _ ∧ _ ∧ _) := ⟨hq1, hq2, hq3, hq4⟩
      clear hq1 hq2 hq3 hq4
      obtain ⟨T0, M0⟩ := HF.out.tk hlt hk HB.out.1 HB.out.2.1 HB.out.2.2
      obtain ⟨lv1, w1, r1, p1, mv1, w2, r2, p2, T1, ⟨a1, c1, e1⟩, ⟨b1, d1, f1⟩⟩ := T0.push _ _ _ M0 (by simp; omega) q1 (by rw [HQ.out.1]; simp)
      subst e1 f1
      obtain ⟨x0, x1, x2, x3⟩ := cells2 T0.b.o
      obtain ⟨y0, y1, y2, y3⟩ := cells2 p1
      obtain ⟨z0, z1, z2, z3⟩ := cells2 p2
      clear T0 M0 HF HF0 o0 o1 o2 o3 p1 p2
      have sz1 : (w2.setCell ⟨O, 1, none⟩ (.slice b1 q1 d1)).heap.size = w2.heap.size := by simp
      obtain ⟨xa1, xc1, wb1, s10, T2, M2⟩ := T1.app 1 (by omega) (by omega) hl #[.int .i64 mk] rfl
      rw [sz1] at s10
      clear T1 sz1
      obtain ⟨lv1, w11, s11, p1, mv1, w21, s12, p2, T1, ⟨a2, c2, e1⟩, ⟨b2, d2, f1⟩⟩ := T2.push _ _ _ M2 (by simp; omega) q2 (by rw [HQ.out.2.1]; simp)
      subst e1 f1
      obtain ⟨x10, x11, x12, x13⟩ := cells2 T2.b.o
      obtain ⟨y10, y11, y12, y13⟩ := cells2 p1
      obtain ⟨z10, z11, z12, z13⟩ := cells2 p2
      clear T2 M2 p1 p2
      have sz2 : (w21.setCell ⟨O, 1, none⟩ (.slice b2 q2 d2)).heap.size = w21.heap.size := by simp
      obtain ⟨xa2, xc2, wb2, s20, T2, M2⟩ := T1.app 2 (by omega) (by omega) hl #[.int .i64 mk, .int .i64 mk] rfl
      rw [sz2] at s20
      clear T1 sz2
      obtain ⟨lv1, w12, s21, p1, mv1, w22, s22, p2, T1, ⟨a3, c3, e1⟩, ⟨b3, d3, f1⟩⟩ := T2.push _ _ _ M2 (by simp; omega) q3 (by rw [HQ.out.2.2.1]; simp)
      subst e1 f1
      obtain ⟨x20, x21, x22, x23⟩ := cells2 T2.b.o
      obtain ⟨y20, y21, y22, y23⟩ := cells2 p1
      obtain ⟨z20, z21, z22, z23⟩ := cells2 p2
      clear T2 M2 p1 p2
      have sz3 : (w22.setCell ⟨O, 1, none⟩ (.slice b3 q3 d3)).heap.size = w22.heap.size := by simp
      obtain ⟨xa3, xc3, wb3, s30, T2, M2⟩ := T1.app 3 (by omega) (by omega) hl #[.int .i64 mk, .int .i64 mk, .int .i64 mk] rfl
      rw [sz3] at s30
      clear T1 sz3
      obtain ⟨lv1, w13, s31, p1, mv1, w23, s32, p2, T1, ⟨a4, c4, e1⟩, ⟨b4, d4, f1⟩⟩ := T2.push _ _ _ M2 (by simp; omega) q4 (by rw [HQ.out.2.2.2]; simp)
      subst e1 f1
      obtain ⟨x30, x31, x32, x33⟩ := cells2 T2.b.o
      obtain ⟨y30, y31, y32, y33⟩ := cells2 p1
      obtain ⟨z30, z31, z32, z33⟩ := cells2 p2
      clear T2 M2 p1 p2
      have HT : Hid (_) := T1
      clear T1
      go_wp2_with (at_builtin; first | refine Lib.wpList_append_run _ rfl (.tmp 29) (.tmp 31) _ _ rfl _ _ rfl rfl _ _ r1 ?_ | refine Lib.wpList_append_run _ rfl (.tmp 39) (.tmp 41) _ _ rfl _ _ rfl rfl _ _ r2 ?_ | refine Lib.wpList_append_run _ rfl (.tmp 45) (.tmp 47) _ _ rfl _ _ rfl rfl _ _ s10 ?_ | refine Lib.wpList_append_run _ rfl (.tmp 53) (.tmp 55) _ _ rfl _ _ rfl rfl _ _ s11 ?_ | refine Lib.wpList_append_run _ rfl (.tmp 63) (.tmp 65) _ _ rfl _ _ rfl rfl _ _ s12 ?_ | refine Lib.wpList_append_run _ rfl (.tmp 69) (.tmp 72) _ _ rfl _ _ rfl rfl _ _ s20 ?_ | refine Lib.wpList_append_run _ rfl (.tmp 78) (.tmp 80) _ _ rfl _ _ rfl rfl _ _ s21 ?_ | refine Lib.wpList_append_run _ rfl (.tmp 88) (.tmp 90) _ _ rfl _ _ rfl rfl _ _ s22 ?_ | refine Lib.wpList_append_run _ rfl (.tmp 94) (.tmp 98) _ _ rfl _ _ rfl rfl _ _ s30 ?_ | refine Lib.wpList_append_run _ rfl (.tmp 104) (.tmp 106) _ _ rfl _ _ rfl rfl _ _ s31 ?_ | refine Lib.wpList_append_run _ rfl (.tmp 114) (.tmp 116) _ _ rfl _ _ rfl rfl _ _ s32 ?_ )
      have T := HT.out
      go_end0
      refine ⟨rfl, _, rfl, _, _, T.b, T.k, T.s, T.z, fun e he => ?_⟩
      simp only [List.nil_append, List.cons_append, List.mem_cons, List.not_mem_nil, or_false] at he
      rcases he with rfl | rfl | rfl | rfl
      · exact Nat.le_add_right _ _
      · exact Nat.add_le_add_left (by decide) _
      · exact Nat.add_le_add_left (by decide) _
      · exact Nat.le_refl _
end Go.Proofs.YtmfijackgekioaaGreatDoor

/-
  The law's books: every list reads as its owner wrote it. For Decodes.
-/
namespace Go.Proofs.YtmfijackgekioaaGreatDoor
open Go.RowKit Go.Maps

theorem own_vals {w : World} {base e n : Nat} {v : Value} {xs : List Value} (h : w.ownsRow base e 1 v n xs) : ∃ ao cap, v = .slice ao n cap ∧ ∀ j (hj : j < xs.length), ∃ g, ao = some ⟨g, 0, none⟩ ∧ w.cell? ⟨g, j, none⟩ = some xs[j] := by
  have hl : xs.length = n := by have := h.1; simpa using this
  rcases h.2 with ⟨e1, e2⟩ | ⟨g, cap, cur, e, _, hb, _, _, _, ht⟩
  · exact ⟨none, 0, by rw [e1, e2], fun j hj => by omega⟩
  · subst e
    refine ⟨some ⟨g, 0, none⟩, cap, rfl, fun j hj => ⟨g, rfl, ?_⟩⟩
    rw [cell_of_row _ _ _ _ _ _ hb]
    have h1 : (cur.toList.take (n * 1))[j]? = cur.toList[j]? := by rw [List.getElem?_take, if_pos (by omega)]
    rw [ht] at h1
    have h2 : cur[j]? = cur.toList[j]? := by simp
    rw [h2, ← h1, List.getElem?_eq_getElem hj]
theorem Book.at {w : World} {O : Nat} {E : List Ent} {lv mv : Value} (h : Book w O E lv mv) : ∃ lo lc mo mc, lv = .slice lo E.length lc ∧ mv = .slice mo E.length mc ∧ ∀ i, i < E.length → ∃ e g g', e ∈ E ∧ lo = some ⟨g, 0, none⟩ ∧ mo = some ⟨g', 0, none⟩ ∧ w.cell? ⟨g, i, none⟩ = some e.v ∧ w.cell? ⟨g', i, none⟩ = some (.int .i64 e.mr) := by
  obtain ⟨lo, lc, e1, h1⟩ := own_vals h.l
  obtain ⟨mo, mc, e2, h2⟩ := own_vals h.m
  refine ⟨lo, lc, mo, mc, e1, e2, fun i hi => ?_⟩
  obtain ⟨g, f1, c1⟩ := h1 i (by simpa using hi)
  obtain ⟨g', f2, c2⟩ := h2 i (by simpa [vals] using hi)
  refine ⟨E[i], g, g', List.getElem_mem hi, f1, f2, ?_, ?_⟩
  · rw [c1]; simp
  · rw [c2]; simp [vals]
set_option maxRecDepth 100000 in
set_option maxHeartbeats 600000 in
theorem keptB (w : World) (O : Nat) (E : List Ent) (lv mv : Value) (hB : Book w O E lv mv) (hE4 : E.length ≤ 100) (hn : ∀ e ∈ E, e.n ≤ 2000000000) :
    Calls Tryz.prog 24 #[.pointer (some ⟨O, 0, none⟩)] w fun e w' => e = .returned (.bool true) ∧ ∃ m, w' = w.drewN m := by
  obtain ⟨lo, lc, mo, mc, rfl, rfl, hat⟩ := hB.at
  obtain ⟨o0, o1, o2, o3⟩ := cells2 hB.o
  have HB : Hid (_ ∧ _ ∧ _) := ⟨hB, hat, hn⟩
  obtain ⟨q, hq⟩ : ∃ q, q = E.length := ⟨_, rfl⟩
  have HQ : Hid (q = E.length) := hq
  rw [← hq] at hE4 o0 o1
  clear hB hn hat hq
  go_enter Tryz.func24, Tryz.ntmps24
  go_wp2
  go_loopw [3, 4] (fun ix iy wr => ∃ k m : Nat, k ≤ q ∧ ix = .int .i64 k ∧ wr = w.drewN m) (fun ix _ _ => q - (intOf ix).toNat)
  case atStart => exact ⟨0, 0, Nat.zero_le _, rfl, rfl⟩
  case round =>
    obtain ⟨k, m, hk, rfl, hwr⟩ := hrel
    have p0 : wr.cell? ⟨O, 0, none⟩ = some (.slice lo q lc) := by rw [hwr]; exact o0
    have p1 : wr.cell? ⟨O, 1, none⟩ = some (.slice mo q mc) := by rw [hwr]; exact o1
    have HWR : Hid (_) := hwr
    clear hwr
    by_cases hlt : k < q
    · have hlt' : (k : Int) < (q : Int) := by omega
      obtain ⟨e, g, g', he, hlo, hmo, c1, c2⟩ := HB.out.2.1 k (by rw [← HQ.out]; exact hlt)
      obtain ⟨ao, cap, ev, hm⟩ := HB.out.1.each e he
      have hen := HB.out.2.2 e he
      obtain ⟨n, hn⟩ : ∃ n, n = e.n := ⟨_, rfl⟩
      obtain ⟨mk, hmk⟩ : ∃ n, n = e.mr := ⟨_, rfl⟩
      rw [← hn] at hm hen ev
      rw [ev] at c1
      rw [← hmk] at c2 hm
      have HM : Hid (_) := hm
      clear hn hmk he ev hm
      subst hlo hmo
      go_wp2
      go_loopw [4] (fun iy wr => ∃ j m : Nat, j ≤ n ∧ iy = .int .i64 j ∧ wr = w.drewN m) (fun iy _ => n - (intOf iy).toNat)
      case atStart => exact ⟨0, m, Nat.zero_le _, rfl, HWR.out⟩
      case round =>
        obtain ⟨j, m2, hj, rfl, hwr2⟩ := hrel
        have s0 : wr.cell? ⟨O, 0, none⟩ = some (.slice (some ⟨g, 0, none⟩) q lc) := by rw [hwr2]; exact o0
        have s1 : wr.cell? ⟨O, 1, none⟩ = some (.slice (some ⟨g', 0, none⟩) q mc) := by rw [hwr2]; exact o1
        have s2 : wr.cell? ⟨g, k, none⟩ = some (.slice ao n cap) := by rw [hwr2]; exact c1
        have s3 : wr.cell? ⟨g', k, none⟩ = some (.int .i64 mk) := by rw [hwr2]; exact c2
        have HWR2 : Hid (_) := hwr2
        clear hwr2
        by_cases hjn : j < n
        · have hjn' : (j : Int) < (n : Int) := by omega
          obtain ⟨b, off, hao, hc, _⟩ := HM.out j hjn
          have s4 : wr.cell? ⟨b, off + j, none⟩ = some (.int .i64 mk) := by rw [HWR2.out]; exact hc
          have hne : (mk != mk) = false := by simp
          subst hao
          clear hc
          go_wp2
          have hS : wr.drew.cell? ⟨O, 0, none⟩ = some (.slice (some ⟨g, 0, none⟩) q lc) ∧ wr.drew.cell? ⟨O, 1, none⟩ = some (.slice (some ⟨g', 0, none⟩) q mc) ∧ wr.drew.cell? ⟨g, k, none⟩ = some (.slice (some ⟨b, off, none⟩) n cap) ∧ wr.drew.cell? ⟨g', k, none⟩ = some (.int .i64 mk) ∧ wr.drew.cell? ⟨b, off + j, none⟩ = some (.int .i64 mk) := ⟨s0, s1, s2, s3, s4⟩
          refine regionZ (by kernel_rfl) (fun u => u.cell? ⟨O, 0, none⟩ = some (.slice (some ⟨g, 0, none⟩) q lc) ∧ u.cell? ⟨O, 1, none⟩ = some (.slice (some ⟨g', 0, none⟩) q mc) ∧ u.cell? ⟨g, k, none⟩ = some (.slice (some ⟨b, off, none⟩) n cap) ∧ u.cell? ⟨g', k, none⟩ = some (.int .i64 mk) ∧ u.cell? ⟨b, off + j, none⟩ = some (.int .i64 mk)) 99 ?_
          refine anyZ_takeT (i := 0) (t := 26) (v := ?_) (T := ?_) ?ht rfl rfl (by kernel_rfl) (by kernel_rfl) (by kernel_rfl) (by kernel_rfl) (fun _ _ _ h => h) (by kernel_rfl) ?hy hS ?_
          case hy => intro w hSw; (try dsimp only at hSw); go_simp; try with_reducible rfl
          case ht => go_simp; try with_reducible rfl
          refine anyZ_takeT (i := 1) (t := 27) (v := ?_) (T := ?_) ?ht rfl rfl (by kernel_rfl) (by kernel_rfl) (by kernel_rfl) (by kernel_rfl) (fun _ _ _ h => h) (by kernel_rfl) ?hy hS ?_
          case hy => intro w hSw; (try dsimp only at hSw); go_simp; try with_reducible rfl
          case ht => go_simp; try with_reducible rfl
          refine anyZ_takeT (i := 2) (t := 28) (v := ?_) (T := ?_) ?ht rfl rfl (by kernel_rfl) (by kernel_rfl) (by kernel_rfl) (by kernel_rfl) (fun _ _ _ h => h) (by kernel_rfl) ?hy hS ?_
          case hy => intro w hSw; (try dsimp only at hSw); go_simp; try with_reducible rfl
          case ht => go_simp; try with_reducible rfl
          refine anyZ_takeT (i := 3) (t := 29) (v := ?_) (T := ?_) ?ht rfl rfl (by kernel_rfl) (by kernel_rfl) (by kernel_rfl) (by kernel_rfl) (fun _ _ _ h => h) (by kernel_rfl) ?hy hS ?_
          case hy => intro w hSw; (try dsimp only at hSw); go_simp; try with_reducible rfl
          case ht => go_simp; try with_reducible rfl
          refine anyZ_takeT (i := 4) (t := 30) (v := ?_) (T := ?_) ?ht rfl rfl (by kernel_rfl) (by kernel_rfl) (by kernel_rfl) (by kernel_rfl) (fun _ _ _ h => h) (by kernel_rfl) ?hy hS ?_
          case hy => intro w hSw; (try dsimp only at hSw); go_simp; try with_reducible rfl
          case ht => go_simp; try with_reducible rfl
          refine anyZ_takeT (i := 5) (t := 31) (v := ?_) (T := ?_) ?ht rfl rfl (by kernel_rfl) (by kernel_rfl) (by kernel_rfl) (by kernel_rfl) (fun _ _ _ h => h) (by kernel_rfl) ?hy hS ?_
          case hy => intro w hSw; (try dsimp only at hSw); go_simp; try with_reducible rfl
          case ht => go_simp; try with_reducible rfl
          refine anyZ_takeT (i := 6) (t := 32) (v := ?_) (T := ?_) ?ht rfl rfl (by kernel_rfl) (by kernel_rfl) (by kernel_rfl) (by kernel_rfl) (fun _ _ _ h => h) (by kernel_rfl) ?hy hS ?_
          case hy => intro w hSw; (try dsimp only at hSw); go_simp; try with_reducible rfl
          case ht => go_simp; try with_reducible rfl
          refine anyZ_takeT (i := 7) (t := 33) (v := ?_) (T := ?_) ?ht rfl rfl (by kernel_rfl) (by kernel_rfl) (by kernel_rfl) (by kernel_rfl) (fun _ _ _ h => h) (by kernel_rfl) ?hy hS ?_
          case hy => intro w hSw; (try dsimp only at hSw); go_simp; try with_reducible rfl
          case ht => go_simp; try with_reducible rfl
          refine anyZ_takeT (i := 8) (t := 34) (v := ?_) (T := ?_) ?ht rfl rfl (by kernel_rfl) (by kernel_rfl) (by kernel_rfl) (by kernel_rfl) (fun _ _ _ h => h) (by kernel_rfl) ?hy hS ?_
          case hy => intro w hSw; (try dsimp only at hSw); go_simp; try with_reducible rfl
          case ht => go_simp; try with_reducible rfl
          refine anyZ_takeT (i := 9) (t := 35) (v := ?_) (T := ?_) ?ht rfl rfl (by kernel_rfl) (by kernel_rfl) (by kernel_rfl) (by kernel_rfl) (fun _ _ _ h => h) (by kernel_rfl) ?hy hS ?_
          case hy => intro w hSw; (try dsimp only at hSw); go_simp; try with_reducible rfl
          case ht => go_simp; try with_reducible rfl
          refine anyZ_takeT (i := 10) (t := 36) (v := ?_) (T := ?_) ?ht rfl rfl (by kernel_rfl) (by kernel_rfl) (by kernel_rfl) (by kernel_rfl) (fun _ _ _ h => h) (by kernel_rfl) ?hy hS ?_
          case hy => intro w hSw; (try dsimp only at hSw); go_simp; try with_reducible rfl
          case ht => go_simp; try with_reducible rfl
          refine anyZ_takeT (i := 11) (t := 37) (v := ?_) (T := ?_) ?ht rfl rfl (by kernel_rfl) (by kernel_rfl) (by kernel_rfl) (by kernel_rfl) (fun _ _ _ h => h) (by kernel_rfl) ?hy hS ?_
          case hy => intro w hSw; (try dsimp only at hSw); go_simp; try with_reducible rfl
          case ht => go_simp; try with_reducible rfl
          refine anyZ_takeT (i := 12) (t := 38) (v := ?_) (T := ?_) ?ht rfl rfl (by kernel_rfl) (by kernel_rfl) (by kernel_rfl) (by kernel_rfl) (fun _ _ _ h => h) (by kernel_rfl) ?hy hS ?_
          case hy => intro w hSw; (try dsimp only at hSw); go_simp; try with_reducible rfl
          case ht => go_simp; try with_reducible rfl
          refine anyZ_takeT (i := 13) (t := 39) (v := ?_) (T := ?_) ?ht rfl rfl (by kernel_rfl) (by kernel_rfl) (by kernel_rfl) (by kernel_rfl) (fun _ _ _ h => h) (by kernel_rfl) ?hy hS ?_
          case hy => intro w hSw; (try dsimp only at hSw); go_simp; try with_reducible rfl
          case ht => go_simp; try with_reducible rfl
          refine anyZ_takeT (i := 14) (t := 40) (v := ?_) (T := ?_) ?ht rfl rfl (by kernel_rfl) (by kernel_rfl) (by kernel_rfl) (by kernel_rfl) (fun _ _ _ h => h) (by kernel_rfl) ?hy hS ?_
          case hy => intro w hSw; (try dsimp only at hSw); go_simp; try with_reducible rfl
          case ht => go_simp; try with_reducible rfl
          refine anyZ_takeT (i := 15) (t := 41) (v := ?_) (T := ?_) ?ht rfl rfl (by kernel_rfl) (by kernel_rfl) (by kernel_rfl) (by kernel_rfl) (fun _ _ _ h => h) (by kernel_rfl) ?hy hS ?_
          case hy => intro w hSw; (try dsimp only at hSw); go_simp; try with_reducible rfl
          case ht => go_simp; try with_reducible rfl
          refine anyZ_takeT (i := 16) (t := 42) (v := ?_) (T := ?_) ?ht rfl rfl (by kernel_rfl) (by kernel_rfl) (by kernel_rfl) (by kernel_rfl) (fun _ _ _ h => h) (by kernel_rfl) ?hy hS ?_
          case hy => intro w hSw; (try dsimp only at hSw); go_simp; try with_reducible rfl
          case ht => go_simp; try with_reducible rfl
          refine anyZ_takeT (i := 17) (t := 43) (v := ?_) (T := ?_) ?ht rfl rfl (by kernel_rfl) (by kernel_rfl) (by kernel_rfl) (by kernel_rfl) (fun _ _ _ h => h) (by kernel_rfl) ?hy hS ?_
          case hy => intro w hSw; (try dsimp only at hSw); go_simp; try with_reducible rfl
          case ht => go_simp; try with_reducible rfl
          refine anyZ_done (by kernel_rfl) ?_ _
          go_wp2
          go_roundw
          case rel => exact ⟨j + 1, m2 + 1, by omega, by go_num, by rw [HWR2.out]; simp⟩
          case measure => simp [intOf]; omega
        · have hnjn : ¬ (j : Int) < (n : Int) := by omega
          go_wp2
          go_roundw
          case rel => exact ⟨k + 1, m2, by omega, by go_num, HWR2.out⟩
          case measure => simp [intOf]; omega
    · have hnlt : ¬ (k : Int) < (q : Int) := by omega
      go_wp2
      go_ret
      exact ⟨rfl, m, HWR.out⟩
end Go.Proofs.YtmfijackgekioaaGreatDoor
