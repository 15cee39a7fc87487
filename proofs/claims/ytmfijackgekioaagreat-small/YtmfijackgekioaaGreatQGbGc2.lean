import Derived.Test.YtmfijackgekioaaGreatQFpFq2
import Derived.Test.YtmfijackgekioaaGreatQFjGa3

/-
  A block of kind 1: the program. For Deflates.
-/
namespace Go.Proofs.YtmfijackgekioaaGreat
open Go.RowKit

theorem Lst.fr {w w' : World} {B g : Nat} {zs W : List Int} (h : Lst w g zs) (f : Fr B w w') (hw : Writes w B W) : Lst w' g zs := by
  have hne : g ≠ B := fun e => by
    subst e
    obtain ⟨cs, hcs⟩ := hw.box (by rw [show w.heap[g]? = _ from h]; simp)
    rw [show w.heap[g]? = _ from h] at hcs
    simp at hcs
  exact (f.kept hne h (by decide)).trans h
theorem Box.ne {w : World} {B X : Nat} {v : Value} {t : TypeId} {W : List Int} (h : Box w X v t) (hw : Writes w B W) (ht : t ≠ 57) : X ≠ B := fun e => by
  subst e
  obtain ⟨cs, hcs⟩ := hw.box (by rw [show w.heap[X]? = _ from h]; simp)
  rw [show w.heap[X]? = _ from h] at hcs
  simp at hcs
  exact ht hcs.2
theorem fixS_ok : Rf.fixS.length = 288 ∧ (∀ j, 0 ≤ Rf.fixS.getD j 0 ∧ Rf.fixS.getD j 0 ≤ 15) ∧ Rf.fs Rf.fixS Rf.fixS.length ≤ 32768 := by
  have a : ∀ j, j < 288 → 0 ≤ Rf.fixS.getD j 0 ∧ Rf.fixS.getD j 0 ≤ 15 := by decide +kernel
  have l : Rf.fixS.length = 288 := by decide +kernel
  refine ⟨l, fun j => ?_, by decide +kernel⟩
  rcases Nat.lt_or_ge j 288 with h | h
  · exact a j h
  · rw [List.getD_eq_getElem?_getD, List.getElem?_eq_none (by omega)]
    decide
theorem fixP_ok : fixP.length = 30 ∧ (∀ j, 0 ≤ fixP.getD j 0 ∧ fixP.getD j 0 ≤ 15) ∧ Rf.fs fixP fixP.length ≤ 32768 := by
  have a : ∀ j, j < 30 → 0 ≤ fixP.getD j 0 ∧ fixP.getD j 0 ≤ 15 := by decide +kernel
  have l : fixP.length = 30 := by decide +kernel
  refine ⟨l, fun j => ?_, by decide +kernel⟩
  rcases Nat.lt_or_ge j 30 with h | h
  · exact a j h
  · rw [List.getD_eq_getElem?_getD, List.getElem?_eq_none (by omega)]
    decide

set_option maxRecDepth 100000 in
set_option maxHeartbeats 2000000 in
theorem fixed98 (X0 X1 X2 X3 X4 X5 S1 S2 B : Nat) (last : Bool) (s : ByteArray) (ao : Option Addr) (cap : Nat) (steps : List (Nat × Nat)) (ls ds : List Int) (W : List Int) (w : World) (h : Writes w B W) (b0 : Box w X0 (.pointer (some ⟨B, 0, none⟩)) 55) (b1 : Box w X1 (.bool last) 4) (b2 : Box w X2 (.string s) 9)
    (b3 : Box w X3 (.slice ao steps.length cap) 62) (b4 : Box w X4 (.slice (some ⟨S1, 0, none⟩) 288 288) 39) (b5 : Box w X5 (.slice (some ⟨S2, 0, none⟩) 30 30) 39) (l1 : Lst w S1 ls) (l2 : Lst w S2 ds) (hst : Steps w (.slice ao steps.length cap) steps B)
    (hl : ls.length = 288 ∧ (∀ j, 0 ≤ ls.getD j 0 ∧ ls.getD j 0 ≤ 15) ∧ Rf.fs ls ls.length ≤ 32768) (hd : ds.length = 30 ∧ (∀ j, 0 ≤ ds.getD j 0 ∧ ds.getD j 0 ≤ 15) ∧ Rf.fs ds ds.length ≤ 32768)
    (hs : s.size ≤ 65535) (hok : StepsOk s.size 0 steps) (hW : W.length ≤ 80000000) :
    Calls Tryz.prog 99 #[.pointer (some ⟨X0, 0, none⟩), .pointer (some ⟨X1, 0, none⟩), .pointer (some ⟨X2, 0, none⟩), .pointer (some ⟨X3, 0, none⟩), .pointer (some ⟨X4, 0, none⟩), .pointer (some ⟨X5, 0, none⟩)] w fun e w' => e = .returned (.tuple #[]) ∧ Writes w' B (W ++ (hdB last 1 ++ tokBits ls ds (toksOf s.data.toList 0 steps))) ∧ Fr B w w' := by
  have c0 := b0.cell
  have c1 := b1.cell
  go_enter Tryz.func99, Tryz.ntmps99
  go_wp2_with fail
  refine (writeHead90 last 1 B W w h (by omega)).mono ?_
  rintro e w1 ⟨rfl, h1, f1⟩
  have p0 := b0.fr f1 (b0.ne h (by decide)) (by decide)
  have p2 := b2.fr f1 (b2.ne h (by decide)) (by decide)
  have p3 := b3.fr f1 (b3.ne h (by decide)) (by decide)
  have p4 := b4.fr f1 (b4.ne h (by decide)) (by decide)
  have p5 := b5.fr f1 (b5.ne h (by decide)) (by decide)
  have q1 := l1.fr f1 h
  have q2 := l2.fr f1 h
  have st1 := hst.fr f1
  have e1 : (W ++ hdB last 1).length = W.length + 3 := by rw [List.length_append, hdB_length]
  have hW1 : Hid ((W ++ hdB last 1).length ≤ 100000000) := by show _ ≤ _; omega
  have kd : Below w1.heap.size w1 w1.drew := (Below.refl _ _).drew
  have r0 := p0.below kd
  have r2 := p2.below kd
  have r3 := p3.below kd
  have r4 := p4.below kd
  have r5 := p5.below kd
  have t1 := q1.keep kd
  have t2 := q2.keep kd
  have st2 := st1.below kd
  have hw2 := h1.below kd
  have F2 : Fr B w w1.drew := f1.drew
  clear c0 c1 b0 b1 b2 b3 b4 b5 p0 p2 p3 p4 p5 q1 q2 l1 l2 hst st1 h1 f1 kd e1
  have hS : w1.drew.cell? ⟨X2, 0, none⟩ = some (.string s) ∧ w1.drew.cell? ⟨X3, 0, none⟩ = some (.slice ao steps.length cap) ∧ w1.drew.cell? ⟨X0, 0, none⟩ = some (.pointer (some ⟨B, 0, none⟩)) ∧ w1.drew.cell? ⟨X4, 0, none⟩ = some (.slice (some ⟨S1, 0, none⟩) 288 288) ∧ w1.drew.cell? ⟨X5, 0, none⟩ = some (.slice (some ⟨S2, 0, none⟩) 30 30) := ⟨r2.cell, r3.cell, r0.cell, r4.cell, r5.cell⟩
  have keepS : ∀ u, Below w1.drew.heap.size w1.drew u → u.cell? ⟨X2, 0, none⟩ = some (.string s) ∧ u.cell? ⟨X3, 0, none⟩ = some (.slice ao steps.length cap) ∧ u.cell? ⟨X0, 0, none⟩ = some (.pointer (some ⟨B, 0, none⟩)) ∧ u.cell? ⟨X4, 0, none⟩ = some (.slice (some ⟨S1, 0, none⟩) 288 288) ∧ u.cell? ⟨X5, 0, none⟩ = some (.slice (some ⟨S2, 0, none⟩) 30 30) := fun u k => ⟨(r2.below k).cell, (r3.below k).cell, (r0.below k).cell, (r4.below k).cell, (r5.below k).cell⟩
  have keepF : ∀ u u', Below w1.drew.heap.size w1.drew u → Fr B u u' → u'.cell? ⟨X2, 0, none⟩ = some (.string s) ∧ u'.cell? ⟨X3, 0, none⟩ = some (.slice ao steps.length cap) ∧ u'.cell? ⟨X0, 0, none⟩ = some (.pointer (some ⟨B, 0, none⟩)) ∧ u'.cell? ⟨X4, 0, none⟩ = some (.slice (some ⟨S1, 0, none⟩) 288 288) ∧ u'.cell? ⟨X5, 0, none⟩ = some (.slice (some ⟨S2, 0, none⟩) 30 30) := fun u u' k f =>
    ⟨((r2.below k).fr f (r2.ne hw2 (by decide)) (by decide)).cell, ((r3.below k).fr f (r3.ne hw2 (by decide)) (by decide)).cell, ((r0.below k).fr f (r0.ne hw2 (by decide)) (by decide)).cell, ((r4.below k).fr f (r4.ne hw2 (by decide)) (by decide)).cell, ((r5.below k).fr f (r5.ne hw2 (by decide)) (by decide)).cell⟩
  clear r0 r2 r3 r4 r5
  go_wp2_with fail
  refine regionZ (by kernel_rfl) (fun u => u.cell? ⟨X2, 0, none⟩ = some (.string s) ∧ u.cell? ⟨X3, 0, none⟩ = some (.slice ao steps.length cap) ∧ u.cell? ⟨X0, 0, none⟩ = some (.pointer (some ⟨B, 0, none⟩)) ∧ u.cell? ⟨X4, 0, none⟩ = some (.slice (some ⟨S1, 0, none⟩) 288 288) ∧ u.cell? ⟨X5, 0, none⟩ = some (.slice (some ⟨S2, 0, none⟩) 30 30)) 999 ?_
  generalize w1.drew = wd at *
  refine anyZ_take (i := 0) (v := ?_) rfl (by kernel_rfl) (by kernel_rfl) (by kernel_rfl) (by kernel_rfl) (fun _ _ _ h => h) (by kernel_rfl) ?_ hS ?_
  rotate_left
  · intro w hSw; (try dsimp only at hSw); go_simp; try with_reducible rfl
  try simp only [Act.put]
  refine anyZ_take (i := 1) (v := ?_) rfl (by kernel_rfl) (by kernel_rfl) (by kernel_rfl) (by kernel_rfl) (fun _ _ _ h => h) (by kernel_rfl) ?_ hS ?_
  rotate_left
  · intro w hSw; (try dsimp only at hSw); go_simp; try with_reducible rfl
  try simp only [Act.put]
  refine anyZ_take (i := 2) (v := ?_) rfl (by kernel_rfl) (by kernel_rfl) (by kernel_rfl) (by kernel_rfl) (fun _ _ _ h => h) (by kernel_rfl) ?_ hS ?_
  rotate_left
  · intro w hSw; (try dsimp only at hSw); go_simp; try with_reducible rfl
  try simp only [Act.put]
  refine anyZ_take (i := 3) (v := ?_) rfl (by kernel_rfl) (by kernel_rfl) (by kernel_rfl) (by kernel_rfl) (fun _ _ _ h => h) (by kernel_rfl) ?_ hS ?_
  rotate_left
  · intro w hSw; (try dsimp only at hSw); go_simp; try with_reducible rfl
  try simp only [Act.put]
  refine anyZ_take (i := 4) (v := ?_) rfl (by kernel_rfl) (by kernel_rfl) (by kernel_rfl) (by kernel_rfl) (fun _ _ _ h => h) (by kernel_rfl) ?_ hS ?_
  rotate_left
  · intro w hSw; (try dsimp only at hSw); go_simp; try with_reducible rfl
  try simp only [Act.put]
  refine anyZ_one (i := 5) (by kernel_rfl) rfl (fun K hK => ?_)
  go_simp
  refine (writer99 B ls ds (some ⟨S1, 0, none⟩) (some ⟨S2, 0, none⟩) 288 30 288 30 wd hl.1 hd.1 (by omega) (by omega) t1.ints t2.ints (fun a e _ => by cases e; exact lt_of_block t1) (fun a e _ => by cases e; exact lt_of_block t2) hl.2.1 hd.2.1 hl.2.2 hd.2.2 hw2.lt).mono ?_
  rintro e w3 ⟨fv1, fv2, rfl, cw1, cw2, hb3⟩
  refine hK _ _ (fun _ => keepS _ hb3) ?_
  clear hK K
  refine anyZ_one (i := 6) (by kernel_rfl) rfl (fun K hK => ?_)
  go_simp
  refine (symbols_written B (W ++ hdB last 1) ls ds fv1 fv2 ao cap s steps w3 hW1.out (by omega) (by omega) (hw2.below hb3) (cw1.weak (Nat.zero_le _)) (cw2.weak (Nat.zero_le _)) (st2.below hb3) hs hok).mono ?_
  rintro e w4 ⟨rfl, h4, f4⟩
  refine hK _ _ (fun _ => keepF _ _ hb3 f4) ?_
  clear hK K
  refine anyZ_done (by kernel_rfl) ?_ _
  go_wp2
  go_end0
  refine ⟨rfl, ?_, (F2.trans (fr_below hw2.lt hb3)).trans f4⟩
  rw [List.append_assoc] at h4
  exact h4
end Go.Proofs.YtmfijackgekioaaGreat

/-
  A plan of kind 1: the program. For Deflates.
-/
namespace Go.Proofs.YtmfijackgekioaaGreat
open Go.RowKit

theorem six_boxes (w : World) (o0 o1 o2 o3 o4 o5 : Obj) : Below w.heap.size w ((((((w.alloc o0).alloc o1).alloc o2).alloc o3).alloc o4).alloc o5) ∧ ((((((w.alloc o0).alloc o1).alloc o2).alloc o3).alloc o4).alloc o5).heap[w.heap.size]? = some o0 ∧ ((((((w.alloc o0).alloc o1).alloc o2).alloc o3).alloc o4).alloc o5).heap[w.heap.size + 1]? = some o1 ∧ ((((((w.alloc o0).alloc o1).alloc o2).alloc o3).alloc o4).alloc o5).heap[w.heap.size + 1 + 1]? = some o2 ∧ ((((((w.alloc o0).alloc o1).alloc o2).alloc o3).alloc o4).alloc o5).heap[w.heap.size + 1 + 1 + 1]? = some o3 ∧ ((((((w.alloc o0).alloc o1).alloc o2).alloc o3).alloc o4).alloc o5).heap[w.heap.size + 1 + 1 + 1 + 1]? = some o4 ∧ ((((((w.alloc o0).alloc o1).alloc o2).alloc o3).alloc o4).alloc o5).heap[w.heap.size + 1 + 1 + 1 + 1 + 1]? = some o5 := by
  have a1 := blk_new (w.alloc o0) o1
  have a2 := blk_new ((w.alloc o0).alloc o1) o2
  have a3 := blk_new (((w.alloc o0).alloc o1).alloc o2) o3
  have a4 := blk_new ((((w.alloc o0).alloc o1).alloc o2).alloc o3) o4
  have a5 := blk_new (((((w.alloc o0).alloc o1).alloc o2).alloc o3).alloc o4) o5
  simp only [World.size_alloc] at a1 a2 a3 a4 a5
  exact ⟨((((((Below.refl _ _).alloc (Nat.le_refl _) _).alloc (by simp) _).alloc (by simp; omega) _).alloc (by simp; omega) _).alloc (by simp; omega) _).alloc (by simp; omega) _, (blk_old (blk_old (blk_old (blk_old (blk_old (blk_new w o0) _) _) _) _) _), (blk_old (blk_old (blk_old (blk_old a1 _) _) _) _), (blk_old (blk_old (blk_old a2 _) _) _), (blk_old (blk_old a3 _) _), (blk_old a4 _), a5⟩
theorem two_boxes (w : World) (o0 o1 : Obj) : Below w.heap.size w ((w.alloc o0).alloc o1) ∧ ((w.alloc o0).alloc o1).heap[w.heap.size]? = some o0 ∧ ((w.alloc o0).alloc o1).heap[w.heap.size + 1]? = some o1 := by
  have a1 := blk_new (w.alloc o0) o1
  simp only [World.size_alloc] at a1
  exact ⟨((Below.refl _ _).alloc (Nat.le_refl _) _).alloc (by simp) _, (blk_old (blk_new w o0) _), a1⟩

theorem tokBits_le (ls ds : List Int) (hl : ∀ j, 0 ≤ ls.getD j 0 ∧ ls.getD j 0 ≤ 15) (hd : ∀ j, 0 ≤ ds.getD j 0 ∧ ds.getD j 0 ≤ 15) : ∀ ts : List Tok, (∀ t ∈ ts, TokOk t) → (tokBits ls ds ts).length ≤ 28 * ts.length
  | [], _ => Nat.le_refl _
  | t :: r, h => by
    have ih := tokBits_le ls ds hl hd r (fun u hu => h u (List.mem_cons_of_mem _ hu))
    have ht := (h t (List.mem_cons_self ..)).2.2
    have e1 : tokBits ls ds (t :: r) = (Rf.cbits (if t.1 then ds else ls) t.2.1 ++ Rf.nb t.2.2.1 t.2.2.2) ++ tokBits ls ds r := by simp [tokBits]
    rw [e1, List.length_append, List.length_append, Rf.cbits_length, Rf.nb_length, List.length_cons]
    have b : (((if t.1 then ds else ls) : List Int).getD t.2.1 0).toNat ≤ 15 := by
      split
      · have := (hd t.2.1).2; omega
      · have := (hl t.2.1).2; omega
    omega
theorem extraOf_le : ∀ ts : List Tok, (∀ t ∈ ts, TokOk t) → extraOf ts ≤ 13 * ts.length
  | [], _ => Nat.le_refl _
  | t :: r, h => by
    have ih := extraOf_le r (fun u hu => h u (List.mem_cons_of_mem _ hu))
    have ht := (h t (List.mem_cons_self ..)).2.2
    have e2 : extraOf (t :: r) = t.2.2.2 + extraOf r := by simp [extraOf]
    rw [e2, List.length_cons]
    omega
theorem Part.len {T : List UInt8} {p q : Nat} {s : ByteArray} {steps : List (Nat × Nat)} (h : Part T p q s steps) : (toksOf s.data.toList 0 steps).length ≤ 131071 := by
  have a := toksOf_length s.data.toList steps 0
  have b := h.ok.length
  have c := h.size
  have d := h.small
  omega

theorem tally_bits (ls ds : List Int) (N1 G1 G2 Sy Di : Nat) (ts : List Tok) (v : World) (hts : ∀ t ∈ ts, TokOk t) (hl : ts.length ≤ 131071) (a1 : Lst v Sy (tal 286 false ts)) (a2 : Lst v Di (tal 30 true ts)) (a3 : Lst v G1 ls) (a4 : Lst v G2 ds) (l1 : ls.length = N1) (hN : 286 ≤ N1) (l2 : ds.length = 30)
    (r1 : ∀ j, 0 ≤ ls.getD j 0 ∧ ls.getD j 0 ≤ 15) (r2 : ∀ j, 0 ≤ ds.getD j 0 ∧ ds.getD j 0 ≤ 15) :
    Calls Tryz.prog 98 #[tallyV Sy Di (extraOf ts), .slice (some ⟨G1, 0, none⟩) N1 N1, .slice (some ⟨G2, 0, none⟩) 30 30] v fun e w' => e = .returned (.int .i64 (((tokBits ls ds ts).length : Nat) : Int)) ∧ Below v.heap.size v w' := by
  have hx := extraOf_le ts hts
  rw [tokBits_length ls ds (fun j => (r1 j).1) (fun j => (r2 j).1) ts hts]
  refine bits97 (tal 286 false ts) (tal 30 true ts) ls ds Sy Di (extraOf ts) N1 30 N1 30 v _ _ a1 a2 a3.ints a4.ints (fun a e _ => by cases e; exact lt_of_block a3) (fun a e _ => by cases e; exact lt_of_block a4) (tal_length _ _ _) (tal_length _ _ _) l1 l2 hN (Nat.le_refl _) (by omega) 131071 (by omega) (fun j => ?_) (fun j => ?_) r1 r2
  · have := tal_range 286 false ts j; omega
  · have := tal_range 30 true ts j; omega

theorem call98 (args : Array Value) (w : World) : (callFunc 99 args).run Tryz.prog w = .ok (.enter 99 args) w := by kernel_rfl

theorem fixed_plan {u : World} {B : Nat} {W : List Int} {T : List UInt8} {p q : Nat} {last : Bool} {s : ByteArray} {steps : List (Nat × Nat)} {ao : Option Addr} {cap X0 X1 X2 X3 X4 X5 S1 S2 : Nat} (hp : Part T p q s steps) (hW : W.length ≤ 80000000)
    (b0 : Box u X0 (.pointer (some ⟨B, 0, none⟩)) 55) (b1 : Box u X1 (.bool last) 4) (b2 : Box u X2 (.string s) 9) (b3 : Box u X3 (.slice ao steps.length cap) 62) (b4 : Box u X4 (.slice (some ⟨S1, 0, none⟩) 288 288) 39) (b5 : Box u X5 (.slice (some ⟨S2, 0, none⟩) 30 30) 39) (l1 : Lst u S1 Rf.fixS) (l2 : Lst u S2 fixP) (hst : Steps u (.slice ao steps.length cap) steps B) :
    Plan u B W T p q last 1 (W.length + 3 + (tokBits Rf.fixS fixP (toksOf s.data.toList 0 steps)).length) 99 #[.pointer (some ⟨X0, 0, none⟩), .pointer (some ⟨X1, 0, none⟩), .pointer (some ⟨X2, 0, none⟩), .pointer (some ⟨X3, 0, none⟩), .pointer (some ⟨X4, 0, none⟩), .pointer (some ⟨X5, 0, none⟩)] := by
  have hz := hp.size
  have hm := hp.small
  refine ⟨call98, fun w' hb hw => (fixed98 X0 X1 X2 X3 X4 X5 S1 S2 B last s ao cap steps Rf.fixS fixP W w' hw (b0.kq hb (by decide)) (b1.kq hb (by decide)) (b2.kq hb (by decide)) (b3.kq hb (by decide)) (b4.kq hb (by decide)) (b5.kq hb (by decide)) (l1.kq hb) (l2.kq hb) (hst.kq hb) fixS_ok fixP_ok (by omega) hp.ok hW).mono ?_⟩
  rintro e w'' ⟨rfl, h1, h2⟩
  exact ⟨rfl, 1, _, Nat.le_refl _, h1, rfl, hp.fixed _, h2⟩

set_option maxRecDepth 100000 in
set_option maxHeartbeats 4000000 in
theorem fixedPlan80 (B : Nat) (last : Bool) (s : ByteArray) (ao : Option Addr) (cap : Nat) (steps : List (Nat × Nat)) (W : List Int) (w : World) (h : Writes w B W) (T : List UInt8) (p q Sy Di : Nat) (hp : Part T p q s steps) (hst : Steps w (.slice ao steps.length cap) steps B) (a1 : Lst w Sy (tal 286 false (toksOf s.data.toList 0 steps))) (a2 : Lst w Di (tal 30 true (toksOf s.data.toList 0 steps))) (hW : W.length ≤ 80000000) :
    Calls Tryz.prog 66 #[.pointer (some ⟨B, 0, none⟩), .string s, .slice ao steps.length cap, tallyV Sy Di (extraOf (toksOf s.data.toList 0 steps)), .bool last] w fun e w' => ∃ (E : Nat) (caps : Array Value), e = .returned (.agg #[.int .i64 (E : Int), .func (.func 99) #[] caps]) ∧ Below w.heap.size w w' ∧ Plan w' B W T p q last 1 E 99 caps ∧ E ≤ 90000000 ∧ E = W.length + 3 + (tokBits Rf.fixS fixP (toksOf s.data.toList 0 steps)).length := by
  have hlt := h.lt
  have cB : w.cell? ⟨B, 1, none⟩ = some (.int .i64 W.length) := by obtain ⟨pv, Pk, hw⟩ := h; exact hw.cells.2.1
  have hle := tokBits_le Rf.fixS fixP fixS_ok.2.1 fixP_ok.2.1 _ hp.toks
  have hln := hp.len
  have HB := fun (v : World) (S1 S2 : Nat) (y1 : Lst v Sy (tal 286 false (toksOf s.data.toList 0 steps))) (y2 : Lst v Di (tal 30 true (toksOf s.data.toList 0 steps))) (y3 : Lst v S1 Rf.fixS) (y4 : Lst v S2 fixP) => tally_bits Rf.fixS fixP 288 S1 S2 Sy Di _ v hp.toks hp.len y1 y2 y3 y4 fixS_ok.1 (by omega) fixP_ok.1 fixS_ok.2.1 fixP_ok.2.1
  have HP : Hid (∀ u X0 X1 X2 X3 X4 X5 S1 S2, Box u X0 (.pointer (some ⟨B, 0, none⟩)) 55 → Box u X1 (.bool last) 4 → Box u X2 (.string s) 9 → Box u X3 (.slice ao steps.length cap) 62 → Box u X4 (.slice (some ⟨S1, 0, none⟩) 288 288) 39 → Box u X5 (.slice (some ⟨S2, 0, none⟩) 30 30) 39 → Lst u S1 Rf.fixS → Lst u S2 fixP → Steps u (.slice ao steps.length cap) steps B →
      Plan u B W T p q last 1 (W.length + 3 + (tokBits Rf.fixS fixP (toksOf s.data.toList 0 steps)).length) 99 #[.pointer (some ⟨X0, 0, none⟩), .pointer (some ⟨X1, 0, none⟩), .pointer (some ⟨X2, 0, none⟩), .pointer (some ⟨X3, 0, none⟩), .pointer (some ⟨X4, 0, none⟩), .pointer (some ⟨X5, 0, none⟩)]) :=
    fun u X0 X1 X2 X3 X4 X5 S1 S2 b0 b1 b2 b3 b4 b5 l1 l2 st => fixed_plan hp hW b0 b1 b2 b3 b4 b5 l1 l2 st
  clear hp h
  generalize (tokBits Rf.fixS fixP (toksOf s.data.toList 0 steps)).length = EB at *
  generalize tal 286 false (toksOf s.data.toList 0 steps) = sw at *
  generalize tal 30 true (toksOf s.data.toList 0 steps) = dw at *
  generalize extraOf (toksOf s.data.toList 0 steps) = ex at *
  have hE : EB ≤ 4000000 := by omega
  clear hle hln
  generalize W.length = PL at *
  go_enter Tryz.func66, Tryz.ntmps66
  go_wp2_with fail
  obtain ⟨k0, q0, q1, q2, q3, q4, q5⟩ := six_boxes w (.cells #[.pointer (some ⟨B, 0, none⟩)] 55) (.cells #[.string s] 9) (.cells #[.slice ao steps.length cap] 62) (.cells #[.slice (some ⟨Sy, 0, none⟩) 286 286, .slice (some ⟨Di, 0, none⟩) 30 30, .int .i64 ex] 105) (.cells #[.bool last] 4) (.cells #[.int .i64 0, .nilFunc] 64)
  generalize hwa : ((((((w.alloc (.cells #[.pointer (some ⟨B, 0, none⟩)] 55)).alloc (.cells #[.string s] 9)).alloc (.cells #[.slice ao steps.length cap] 62)).alloc (.cells #[.slice (some ⟨Sy, 0, none⟩) 286 286, .slice (some ⟨Di, 0, none⟩) 30 30, .int .i64 ex] 105)).alloc (.cells #[.bool last] 4)).alloc (.cells #[.int .i64 0, .nilFunc] 64)) = wa at *
  refine (fixS60 wa).mono ?_
  rintro e u1 ⟨rfl, m1, hb1⟩
  go_wp2_with fail
  refine (fixD61 u1).mono ?_
  rintro e u2 ⟨rfl, m2, hb2⟩
  have k2 : Below wa.heap.size wa u2 := hb1.trans (hb2.mono hb1.size)
  have m1' := m1.keep hb2
  have B0 : Below w.heap.size w u2 := k0.trans (k2.mono k0.size)
  generalize hS1 : wa.heap.size = S1 at m1 m1' ⊢
  generalize hS2 : u1.heap.size = S2 at m2 ⊢
  go_wp2_with fail
  obtain ⟨k3, x4, x5⟩ := two_boxes u2 (.cells #[.slice (some ⟨S1, 0, none⟩) 288 288] 39) (.cells #[.slice (some ⟨S2, 0, none⟩) 30 30] 39)
  generalize hu3 : (u2.alloc (.cells #[.slice (some ⟨S1, 0, none⟩) 288 288] 39)).alloc (.cells #[.slice (some ⟨S2, 0, none⟩) 30 30] 39) = u3 at *
  have B3 : Below w.heap.size w u3.drew := (B0.trans (k3.mono B0.size)).drew
  have K3 : Below wa.heap.size wa u3.drew := (k2.trans (k3.mono k2.size)).drew
  have K4 : Below u2.heap.size u2 u3.drew := k3.drew
  have Q0 : Box u3.drew _ _ _ := (K3.block _ (lt_of_block q0)).trans q0
  have Q1 : Box u3.drew _ _ _ := (K3.block _ (lt_of_block q1)).trans q1
  have Q2 : Box u3.drew _ _ _ := (K3.block _ (lt_of_block q2)).trans q2
  have Q3 := (K3.block _ (lt_of_block q3)).trans q3
  have Q4 : Box u3.drew _ _ _ := (K3.block _ (lt_of_block q4)).trans q4
  have Q5 := (K3.block _ (lt_of_block q5)).trans q5
  have Q6 : Box u3.drew _ _ _ := x4
  have Q7 : Box u3.drew _ _ _ := x5
  have L1 := m1'.keep K4
  have L2 := m2.keep K4
  have A1 := a1.keep B3
  have A2 := a2.keep B3
  have CB := (B3.cell hlt).trans cB
  have HBv := HB u3.drew S1 S2 A1 A2 L1 L2
  clear q0 q1 q2 q3 q4 q5 x4 x5 m1 m1' m2 hb1 hb2 k0 k2 k3 B0 K3 K4 hwa hu3 cB a1 a2 HB A1 A2
  refine regionZ (by kernel_rfl) (fun u => u.cell? ⟨w.heap.size, 0, none⟩ = some (.pointer (some ⟨B, 0, none⟩)) ∧ u.cell? ⟨B, 1, none⟩ = some (.int .i64 PL) ∧ u.cell? ⟨w.heap.size + 1 + 1 + 1, 0, none⟩ = some (.slice (some ⟨Sy, 0, none⟩) 286 286) ∧ u.cell? ⟨w.heap.size + 1 + 1 + 1, 1, none⟩ = some (.slice (some ⟨Di, 0, none⟩) 30 30) ∧ u.cell? ⟨w.heap.size + 1 + 1 + 1, 2, none⟩ = some (.int .i64 ex) ∧ u.cell? ⟨u2.heap.size, 0, none⟩ = some (.slice (some ⟨S1, 0, none⟩) 288 288) ∧ u.cell? ⟨u2.heap.size + 1, 0, none⟩ = some (.slice (some ⟨S2, 0, none⟩) 30 30)) 12 ?_
  generalize u3.drew = v at *
  have hlB := B3.size
  obtain ⟨y0, y1, y2, fzT, hlT⟩ := cells3 Q3
  have hS : v.cell? ⟨w.heap.size, 0, none⟩ = some (.pointer (some ⟨B, 0, none⟩)) ∧ v.cell? ⟨B, 1, none⟩ = some (.int .i64 PL) ∧ v.cell? ⟨w.heap.size + 1 + 1 + 1, 0, none⟩ = some (.slice (some ⟨Sy, 0, none⟩) 286 286) ∧ v.cell? ⟨w.heap.size + 1 + 1 + 1, 1, none⟩ = some (.slice (some ⟨Di, 0, none⟩) 30 30) ∧ v.cell? ⟨w.heap.size + 1 + 1 + 1, 2, none⟩ = some (.int .i64 ex) ∧ v.cell? ⟨u2.heap.size, 0, none⟩ = some (.slice (some ⟨S1, 0, none⟩) 288 288) ∧ v.cell? ⟨u2.heap.size + 1, 0, none⟩ = some (.slice (some ⟨S2, 0, none⟩) 30 30) := ⟨Q0.cell, CB, y0, y1, y2, Q6.cell, Q7.cell⟩
  refine anyZ_take (i := 0) (v := ?_) rfl (by kernel_rfl) (by kernel_rfl) (by kernel_rfl) (by kernel_rfl) (fun _ _ _ h => h) (by kernel_rfl) ?_ hS ?_
  rotate_left
  · intro w hSw; (try dsimp only at hSw); go_simp; try with_reducible rfl
  try simp only [Act.put]
  refine anyZ_take (i := 1) (v := ?_) rfl (by kernel_rfl) (by kernel_rfl) (by kernel_rfl) (by kernel_rfl) (fun _ _ _ h => h) (by kernel_rfl) ?_ hS ?_
  rotate_left
  · intro w hSw; (try dsimp only at hSw); go_simp; try with_reducible rfl
  try simp only [Act.put]
  refine anyZ_take (i := 2) (v := ?_) rfl (by kernel_rfl) (by kernel_rfl) (by kernel_rfl) (by kernel_rfl) (fun _ _ _ h => h) (by kernel_rfl) ?_ hS ?_
  rotate_left
  · intro w hSw; (try dsimp only at hSw); go_simp; try with_reducible rfl
  try simp only [Act.put]
  refine anyZ_take (i := 3) (v := ?_) rfl (by kernel_rfl) (by kernel_rfl) (by kernel_rfl) (by kernel_rfl) (fun _ _ _ h => h) (by kernel_rfl) ?_ hS ?_
  rotate_left
  · intro w hSw; (try dsimp only at hSw); go_simp; try with_reducible rfl
  try simp only [Act.put]
  refine anyZ_take (i := 4) (v := ?_) rfl (by kernel_rfl) (by kernel_rfl) (by kernel_rfl) (by kernel_rfl) (fun _ _ _ h => h) (by kernel_rfl) ?_ hS ?_
  rotate_left
  · intro w hSw; (try dsimp only at hSw); go_simp; try with_reducible rfl
  try simp only [Act.put]
  refine anyZ_take (i := 5) (v := ?_) rfl (by kernel_rfl) (by kernel_rfl) (by kernel_rfl) (by kernel_rfl) (fun _ _ _ h => h) (by kernel_rfl) ?_ hS ?_
  rotate_left
  · intro w hSw; (try dsimp only at hSw); go_simp; try with_reducible rfl
  try simp only [Act.put]
  refine anyZ_take (i := 6) (v := ?_) rfl (by kernel_rfl) (by kernel_rfl) (by kernel_rfl) (by kernel_rfl) (fun _ _ _ h => h) (by kernel_rfl) ?_ hS ?_
  rotate_left
  · intro w hSw; (try dsimp only at hSw); go_simp; try with_reducible rfl
  try simp only [Act.put]
  refine anyZ_take (i := 7) (v := ?_) rfl (by kernel_rfl) (by kernel_rfl) (by kernel_rfl) (by kernel_rfl) (fun _ _ _ h => h) (by kernel_rfl) ?_ hS ?_
  rotate_left
  · intro w hSw; (try dsimp only at hSw); go_simp; try with_reducible rfl
  try simp only [Act.put]
  refine anyZ_take (i := 10) (v := ?_) rfl (by kernel_rfl) (by kernel_rfl) (by kernel_rfl) (by kernel_rfl) (fun _ _ _ h => h) (by kernel_rfl) ?_ hS ?_
  rotate_left
  · intro w hSw; (try dsimp only at hSw); go_simp; try with_reducible rfl
  try simp only [Act.put]
  refine anyZ_one (i := 8) (by kernel_rfl) rfl (fun K hK => ?_)
  go_simp
  refine HBv.mono ?_
  rintro e v4 ⟨rfl, hb4⟩
  have R0 := Q0.below hb4
  have R1 := Q1.below hb4
  have R2 := Q2.below hb4
  have R3 := (hb4.block _ (lt_of_block Q3)).trans Q3
  have R4 := Q4.below hb4
  have R5 := (hb4.block _ (lt_of_block Q5)).trans Q5
  have R6 := Q6.below hb4
  have R7 := Q7.below hb4
  have L14 := L1.keep hb4
  have L24 := L2.keep hb4
  have B4 : Below w.heap.size w v4 := B3.trans (hb4.mono hlB)
  have CB4 := (hb4.cell (by show B < _; omega)).trans CB
  obtain ⟨y0', y1', y2', fzT', hlT'⟩ := cells3 R3
  have hS4 : v4.cell? ⟨w.heap.size, 0, none⟩ = some (.pointer (some ⟨B, 0, none⟩)) ∧ v4.cell? ⟨B, 1, none⟩ = some (.int .i64 PL) ∧ v4.cell? ⟨w.heap.size + 1 + 1 + 1, 0, none⟩ = some (.slice (some ⟨Sy, 0, none⟩) 286 286) ∧ v4.cell? ⟨w.heap.size + 1 + 1 + 1, 1, none⟩ = some (.slice (some ⟨Di, 0, none⟩) 30 30) ∧ v4.cell? ⟨w.heap.size + 1 + 1 + 1, 2, none⟩ = some (.int .i64 ex) ∧ v4.cell? ⟨u2.heap.size, 0, none⟩ = some (.slice (some ⟨S1, 0, none⟩) 288 288) ∧ v4.cell? ⟨u2.heap.size + 1, 0, none⟩ = some (.slice (some ⟨S2, 0, none⟩) 30 30) := ⟨R0.cell, CB4, y0', y1', y2', R6.cell, R7.cell⟩
  refine hK _ _ (fun _ => hS4) ?_
  clear hK K HBv Q0 Q1 Q2 Q3 Q4 Q5 Q6 Q7 L1 L2 hS CB B3 y0 y1 y2 fzT hlT y0' y1' y2' fzT' hlT'
  refine anyZ_take (i := 9) (v := ?_) rfl (by kernel_rfl) (by kernel_rfl) (by kernel_rfl) (by kernel_rfl) (fun _ _ _ h => h) (by kernel_rfl) ?_ hS4 ?_
  rotate_left
  · intro w hSw; (try dsimp only at hSw); go_simp; try with_reducible rfl
  try simp only [Act.put]
  refine anyZ_take (i := 11) (v := ?_) rfl (by kernel_rfl) (by kernel_rfl) (by kernel_rfl) (by kernel_rfl) (fun _ _ _ h => h) (by kernel_rfl) ?_ hS4 ?_
  rotate_left
  · intro w hSw; (try dsimp only at hSw); go_simp; try with_reducible rfl
  try simp only [Act.put]
  obtain ⟨r0, r1, fz, hl5⟩ := cells2 R5
  refine anyZ_one (i := 12) (by kernel_rfl) rfl (fun K hK => ?_)
  go_simp
  refine hK _ _ (fun h => absurd rfl h) ?_
  clear hK K
  refine anyZ_done (by kernel_rfl) ?_ _
  go_wp2
  have e1 : IntKind.i64.wrap ((PL : Int) + 3) = (PL : Int) + 3 := IntWalk.i64_in _ (by omega)
  have e2 : IntKind.i64.wrap ((PL : Int) + 3 + (EB : Int)) = ((PL + 3 + EB : Nat) : Int) := (IntWalk.i64_in _ (by omega)).trans (by omega)
  rw [e1, e2]
  have hE9 : PL + 3 + EB ≤ 90000000 := by omega
  generalize PL + 3 + EB = E at *
  have kp : ∀ (v1 v2 : Value) (g : Nat), g ≠ w.heap.size + 1 + 1 + 1 + 1 + 1 → ((v4.setCell ⟨w.heap.size + 1 + 1 + 1 + 1 + 1, 0, none⟩ v1).setCell ⟨w.heap.size + 1 + 1 + 1 + 1 + 1, 1, none⟩ v2).heap[g]? = v4.heap[g]? := fun v1 v2 g hg => (Below.heap_setCell _ ⟨w.heap.size + 1 + 1 + 1 + 1 + 1, 1, none⟩ _ _ hg).trans (Below.heap_setCell _ ⟨w.heap.size + 1 + 1 + 1 + 1 + 1, 0, none⟩ _ _ hg)
  refine bodyPost_ret (v := .agg #[.int .i64 (E : Int), .func (.func 99) #[] #[.pointer (some ⟨w.heap.size, 0, none⟩), .pointer (some ⟨w.heap.size + 1 + 1 + 1 + 1, 0, none⟩), .pointer (some ⟨w.heap.size + 1, 0, none⟩), .pointer (some ⟨w.heap.size + 1 + 1, 0, none⟩), .pointer (some ⟨u2.heap.size, 0, none⟩), .pointer (some ⟨u2.heap.size + 1, 0, none⟩)]]) ?_ rfl ⟨E, _, rfl, ?_, HP.out _ _ _ _ _ _ _ S1 S2 ?_ ?_ ?_ ?_ ?_ ?_ ?_ ?_ ?_, hE9, rfl⟩
  · simp [results, Tryz.results66, go_sem, r0, r1]
  · exact (B4.setCell (p := ⟨w.heap.size + 1 + 1 + 1 + 1 + 1, 0, none⟩) (by dsimp only; omega) _).setCell (p := ⟨w.heap.size + 1 + 1 + 1 + 1 + 1, 1, none⟩) (by dsimp only; omega) _
  · exact (kp _ _ _ (by omega)).trans R0
  · exact (kp _ _ _ (by omega)).trans R4
  · exact (kp _ _ _ (by omega)).trans R1
  · exact (kp _ _ _ (by omega)).trans R2
  · exact (kp _ _ _ (fun e => by rw [e] at R6; rw [show v4.heap[_]? = _ from R6] at R5; simp at R5)).trans R6
  · exact (kp _ _ _ (fun e => by rw [e] at R7; rw [show v4.heap[_]? = _ from R7] at R5; simp at R5)).trans R7
  · exact (kp _ _ _ (fun e => by rw [e] at L14; rw [show v4.heap[_]? = _ from L14] at R5; simp at R5)).trans L14
  · exact (kp _ _ _ (fun e => by rw [e] at L24; rw [show v4.heap[_]? = _ from L24] at R5; simp at R5)).trans L24
  · exact hst.below ((B4.setCell (p := ⟨w.heap.size + 1 + 1 + 1 + 1 + 1, 0, none⟩) (by dsimp only; omega) _).setCell (p := ⟨w.heap.size + 1 + 1 + 1 + 1 + 1, 1, none⟩) (by dsimp only; omega) _)
end Go.Proofs.YtmfijackgekioaaGreat
