import Derived.Test.YtmfijackgekioaaGreatQGbGc2
import Derived.Test.YtmfijackgekioaaGreatQFo

/-
  A block of kind 2, and its plan: the program. For Deflates.
-/
namespace Go.Proofs.YtmfijackgekioaaGreat
open Go.RowKit

theorem headLen (hs hd c : Nat) (nl : List Int) (ts : List (Nat × Nat)) (h : ∀ j, 0 ≤ nl.getD j 0) : ((Rf.headBits hs hd c nl ts).length : Int) = 14 + 3 * (c : Nat) + lenSum nl ts := by
  rw [← tellBits_sum nl h ts]
  simp only [Rf.headBits, List.length_append, Rf.nb_length, Rf.lenBits_length]
  omega

/-- The head of the tables. -/
abbrev hdT (ls ds nl : List Int) : List Int := Rf.headBits (trimF ls 257 286 - 257) (trimF ds 1 30 - 1) (trimF (inOrd nl 19) 4 19) nl (E (toldL ls ds 286 30))
theorem hdT_le {w : World} {G1 G2 G3 : Nat} {ls ds nl : List Int} (h : Tabs w G1 G2 G3 286 30 ls ds nl) : (hdT ls ds nl).length ≤ 10000 := by
  have a := headLen (trimF ls 257 286 - 257) (trimF ds 1 30 - 1) (trimF (inOrd nl 19) 4 19) nl (E (toldL ls ds 286 30)) (fun j => (h.r3 j).1)
  have b := lenSum_le nl h.r3 (E (toldL ls ds 286 30))
  have c := trimF_le (inOrd nl 19) 4 19
  have hte := toldL_le ls ds 286 30 (fun j => (h.r1 j).2) (fun j => (h.r2 j).2)
  have d := E_length _ hte
  have e := toldL_length ls ds 286 30 h.l1 h.l2
  have f := trimF_le ls 257 286
  have g := trimF_le ds 1 30
  unfold hdT
  omega

set_option maxRecDepth 100000 in
set_option maxHeartbeats 2000000 in
theorem own102 (X0 X1 X2 X3 X4 G1 G2 G3 B : Nat) (last : Bool) (s : ByteArray) (ao : Option Addr) (cap : Nat) (steps : List (Nat × Nat)) (ls ds nl : List Int) (W : List Int) (w : World) (h : Writes w B W) (b0 : Box w X0 (.pointer (some ⟨B, 0, none⟩)) 55) (b1 : Box w X1 (.bool last) 4)
    (b2 : w.heap[X2]? = some (.cells #[.slice (some ⟨G1, 0, none⟩) 286 286, .slice (some ⟨G2, 0, none⟩) 30 30, .slice (some ⟨G3, 0, none⟩) 19 19] 127 (0, 0))) (b3 : Box w X3 (.string s) 9) (b4 : Box w X4 (.slice ao steps.length cap) 62) (ht : Tabs w G1 G2 G3 286 30 ls ds nl) (hst : Steps w (.slice ao steps.length cap) steps B)
    (fl : Rf.fs ls ls.length ≤ 32768) (fd : Rf.fs ds ds.length ≤ 32768) (hs : s.size ≤ 65535) (hok : StepsOk s.size 0 steps) (hW : W.length ≤ 80000000) :
    Calls Tryz.prog 103 #[.pointer (some ⟨X0, 0, none⟩), .pointer (some ⟨X1, 0, none⟩), .pointer (some ⟨X2, 0, none⟩), .pointer (some ⟨X3, 0, none⟩), .pointer (some ⟨X4, 0, none⟩)] w fun e w' => e = .returned (.tuple #[]) ∧ Writes w' B (W ++ (hdB last 2 ++ (hdT ls ds nl ++ tokBits ls ds (toksOf s.data.toList 0 steps)))) ∧ Fr B w w' := by
  have c0 := b0.cell
  have c1 := b1.cell
  have n0 := b0.ne h (by decide)
  have n3 := b3.ne h (by decide)
  have n4 := b4.ne h (by decide)
  have n2 : X2 ≠ B := fun e => by
    subst e
    obtain ⟨cs, hcs⟩ := h.box (by rw [b2]; simp)
    rw [b2] at hcs
    simp at hcs
  have hhd := hdT_le ht
  go_enter Tryz.func103, Tryz.ntmps103
  go_wp2_with fail
  refine (writeHead90 last 2 B W w h (by omega)).mono ?_
  rintro e w1 ⟨rfl, h1, f1⟩
  have p0 := b0.fr f1 n0 (by decide)
  have p2 := (f1.kept n2 b2 (by decide)).trans b2
  have p3 := b3.fr f1 n3 (by decide)
  have p4 := b4.fr f1 n4 (by decide)
  have t1 := ht.fr f1 h.box
  have st1 := hst.fr f1
  have e1 : (W ++ hdB last 2).length = W.length + 3 := by rw [List.length_append, hdB_length]
  have hwr := write103 G1 G2 G3 286 30 B ls ds nl (W ++ hdB last 2) w1 t1 h1 (by omega)
  clear c0 c1 b0 b1 b2 b3 b4 ht hst
  have c0 := p0.cell
  obtain ⟨y0, y1, y2, fzT, hlT⟩ := cells3 p2
  go_wp2_with fail
  refine hwr.mono ?_
  rintro e w2 ⟨rfl, h2, f2⟩
  have e2 : (W ++ hdB last 2 ++ hdT ls ds nl).length = W.length + 3 + (hdT ls ds nl).length := by rw [List.length_append, e1]
  have hW1 : Hid ((W ++ hdB last 2 ++ hdT ls ds nl).length ≤ 100000000) := by show _ ≤ _; omega
  have F2 : Fr B w w2.drew := (f1.trans f2).drew
  have kd : Below w2.heap.size w2 w2.drew := (Below.refl _ _).drew
  have r0 := (p0.fr f2 n0 (by decide)).below kd
  have r2 : w2.drew.heap[X2]? = _ := (kd.block _ (by have := f2.below.size; omega)).trans ((f2.kept n2 p2 (by decide)).trans p2)
  have r3 := (p3.fr f2 n3 (by decide)).below kd
  have r4 := (p4.fr f2 n4 (by decide)).below kd
  have t2 := (t1.fr f2 h1.box).below kd
  have st2 := (st1.fr f2).below kd
  have hw2 := h2.below kd
  clear c0 y0 y1 y2 fzT hlT p0 p2 p3 p4 t1 st1 h1 f1 e1 hwr h2 f2 kd e2 hhd h
  have keepS : ∀ u, Below w2.drew.heap.size w2.drew u → u.cell? ⟨X3, 0, none⟩ = some (.string s) ∧ u.cell? ⟨X4, 0, none⟩ = some (.slice ao steps.length cap) ∧ u.cell? ⟨X0, 0, none⟩ = some (.pointer (some ⟨B, 0, none⟩)) ∧ u.cell? ⟨X2, 0, none⟩ = some (.slice (some ⟨G1, 0, none⟩) 286 286) ∧ u.cell? ⟨X2, 1, none⟩ = some (.slice (some ⟨G2, 0, none⟩) 30 30) := fun u k => by
    obtain ⟨z0, z1, _⟩ := cells3 ((k.block _ (lt_of_block r2)).trans r2)
    exact ⟨(r3.below k).cell, (r4.below k).cell, (r0.below k).cell, z0, z1⟩
  have keepF : ∀ u u', Below w2.drew.heap.size w2.drew u → Fr B u u' → u'.cell? ⟨X3, 0, none⟩ = some (.string s) ∧ u'.cell? ⟨X4, 0, none⟩ = some (.slice ao steps.length cap) ∧ u'.cell? ⟨X0, 0, none⟩ = some (.pointer (some ⟨B, 0, none⟩)) ∧ u'.cell? ⟨X2, 0, none⟩ = some (.slice (some ⟨G1, 0, none⟩) 286 286) ∧ u'.cell? ⟨X2, 1, none⟩ = some (.slice (some ⟨G2, 0, none⟩) 30 30) := fun u u' k f => by
    have q2 := (k.block _ (lt_of_block r2)).trans r2
    obtain ⟨z0, z1, _⟩ := cells3 ((f.kept n2 q2 (by decide)).trans q2)
    exact ⟨((r3.below k).fr f n3 (by decide)).cell, ((r4.below k).fr f n4 (by decide)).cell, ((r0.below k).fr f n0 (by decide)).cell, z0, z1⟩
  have hS := keepS _ (Below.refl _ _)
  clear r0 r2 r3 r4
  go_wp2_with fail
  refine regionZ (by kernel_rfl) (fun u => u.cell? ⟨X3, 0, none⟩ = some (.string s) ∧ u.cell? ⟨X4, 0, none⟩ = some (.slice ao steps.length cap) ∧ u.cell? ⟨X0, 0, none⟩ = some (.pointer (some ⟨B, 0, none⟩)) ∧ u.cell? ⟨X2, 0, none⟩ = some (.slice (some ⟨G1, 0, none⟩) 286 286) ∧ u.cell? ⟨X2, 1, none⟩ = some (.slice (some ⟨G2, 0, none⟩) 30 30)) 999 ?_
  generalize w2.drew = wd at *
  refine anyZ_take (i := 0) (v := ?_) rfl (by kernel_rfl) (by kernel_rfl) (by kernel_rfl) (by kernel_rfl) (fun _ _ _ h => h) (by kernel_rfl) ?_ hS ?_
  rotate_left
  · intro w hSw; (try dsimp only at hSw); go_simp; try with_reducible rfl
  try simp only [Act.put]
  refine anyZ_take (i := 1) (v := ?_) rfl (by kernel_rfl) (by kernel_rfl) (by kernel_rfl) (by kernel_rfl) (fun _ _ _ h => h) (by kernel_rfl) ?_ hS ?_
  rotate_left
  · intro w hSw; (try dsimp only at hSw); go_simp; try with_reducible rfl
  try simp only [Act.put]
  refine anyZ_take (i := 2) (v := ?_) rfl (by kernel_rfl) (by kernel_rfl) (by kernel_rfl) (by kernel_rfl) (fun _ _ _ h => h) (by kernel_rfl) ?_ hS ?_
  rotate_left
  · intro w hSw; (try dsimp only at hSw); go_simp; try with_reducible rfl
  try simp only [Act.put]
  refine anyZ_take (i := 3) (v := ?_) rfl (by kernel_rfl) (by kernel_rfl) (by kernel_rfl) (by kernel_rfl) (fun _ _ _ h => h) (by kernel_rfl) ?_ hS ?_
  rotate_left
  · intro w hSw; (try dsimp only at hSw); go_simp; try with_reducible rfl
  try simp only [Act.put]
  refine anyZ_take (i := 4) (v := ?_) rfl (by kernel_rfl) (by kernel_rfl) (by kernel_rfl) (by kernel_rfl) (fun _ _ _ h => h) (by kernel_rfl) ?_ hS ?_
  rotate_left
  · intro w hSw; (try dsimp only at hSw); go_simp; try with_reducible rfl
  try simp only [Act.put]
  refine anyZ_take (i := 5) (v := ?_) rfl (by kernel_rfl) (by kernel_rfl) (by kernel_rfl) (by kernel_rfl) (fun _ _ _ h => h) (by kernel_rfl) ?_ hS ?_
  rotate_left
  · intro w hSw; (try dsimp only at hSw); go_simp; try with_reducible rfl
  try simp only [Act.put]
  refine anyZ_take (i := 6) (v := ?_) rfl (by kernel_rfl) (by kernel_rfl) (by kernel_rfl) (by kernel_rfl) (fun _ _ _ h => h) (by kernel_rfl) ?_ hS ?_
  rotate_left
  · intro w hSw; (try dsimp only at hSw); go_simp; try with_reducible rfl
  try simp only [Act.put]
  refine anyZ_one (i := 7) (by kernel_rfl) rfl (fun K hK => ?_)
  go_simp
  refine (writer99 B ls ds (some ⟨G1, 0, none⟩) (some ⟨G2, 0, none⟩) 286 30 286 30 wd t2.l1 t2.l2 (by omega) (by omega) t2.s.ints t2.d.ints (fun a e _ => by cases e; exact lt_of_block t2.s) (fun a e _ => by cases e; exact lt_of_block t2.d) t2.r1 t2.r2 fl fd hw2.lt).mono ?_
  rintro e w3 ⟨fv1, fv2, rfl, cw1, cw2, hb3⟩
  refine hK _ _ (fun _ => keepS _ hb3) ?_
  clear hK K
  refine anyZ_one (i := 8) (by kernel_rfl) rfl (fun K hK => ?_)
  go_simp
  refine (symbols_written B (W ++ hdB last 2 ++ hdT ls ds nl) ls ds fv1 fv2 ao cap s steps w3 hW1.out (by rw [t2.l1]; omega) (by rw [t2.l2]; omega) (hw2.below hb3) (cw1.weak (Nat.zero_le _)) (cw2.weak (Nat.zero_le _)) (st2.below hb3) hs hok).mono ?_
  rintro e w4 ⟨rfl, h4, f4⟩
  refine hK _ _ (fun _ => keepF _ _ hb3 f4) ?_
  clear hK K
  refine anyZ_done (by kernel_rfl) ?_ _
  go_wp2
  go_end0
  refine ⟨rfl, ?_, (F2.trans (fr_below hw2.lt hb3)).trans f4⟩
  simpa only [List.append_assoc] using h4

theorem call102 (args : Array Value) (w : World) : (callFunc 103 args).run Tryz.prog w = .ok (.enter 103 args) w := by kernel_rfl

theorem own_plan {u : World} {B : Nat} {W : List Int} {T : List UInt8} {p q : Nat} {last : Bool} {s : ByteArray} {steps : List (Nat × Nat)} {ao : Option Addr} {cap X0 X1 X2 X3 X4 G1 G2 G3 : Nat} {ls ds nl : List Int} (hp : Part T p q s steps) (hW : W.length ≤ 80000000) (hm : Made (tal 286 false (toksOf s.data.toList 0 steps)) (tal 30 true (toksOf s.data.toList 0 steps)) ls ds nl)
    (b0 : Box u X0 (.pointer (some ⟨B, 0, none⟩)) 55) (b1 : Box u X1 (.bool last) 4) (b2 : u.heap[X2]? = some (.cells #[.slice (some ⟨G1, 0, none⟩) 286 286, .slice (some ⟨G2, 0, none⟩) 30 30, .slice (some ⟨G3, 0, none⟩) 19 19] 127 (0, 0))) (b3 : Box u X3 (.string s) 9) (b4 : Box u X4 (.slice ao steps.length cap) 62) (ht : Tabs u G1 G2 G3 286 30 ls ds nl) (hst : Steps u (.slice ao steps.length cap) steps B) :
    Plan u B W T p q last 2 (W.length + 3 + (hdT ls ds nl).length + (tokBits ls ds (toksOf s.data.toList 0 steps)).length) 103 #[.pointer (some ⟨X0, 0, none⟩), .pointer (some ⟨X1, 0, none⟩), .pointer (some ⟨X2, 0, none⟩), .pointer (some ⟨X3, 0, none⟩), .pointer (some ⟨X4, 0, none⟩)] := by
  have hz := hp.size
  have hm' := hp.small
  obtain ⟨ws, hw1, hw2, hw3⟩ := hm.s
  refine ⟨call102, fun w' hb hw => (own102 X0 X1 X2 X3 X4 G1 G2 G3 B last s ao cap steps ls ds nl W w' hw (b0.kq hb (by decide)) (b1.kq hb (by decide)) ((hb _ _ _ _ b2 (by decide)).trans b2) (b3.kq hb (by decide)) (b4.kq hb (by decide)) (ht.kq hb) (hst.kq hb) (by rw [ht.l1]; exact hw3.fs) (by rw [ht.l2]; exact hm.d.fs) (by omega) hp.ok hW).mono ?_⟩
  rintro e w'' ⟨rfl, h1, h2⟩
  exact ⟨rfl, 2, _, Nat.le_refl _, h1, by rw [List.length_append]; omega, hp.own _ hm, h2⟩

set_option maxRecDepth 100000 in
set_option maxHeartbeats 4000000 in
theorem dynamicPlan81 (B : Nat) (last : Bool) (s : ByteArray) (ao : Option Addr) (cap : Nat) (steps : List (Nat × Nat)) (W : List Int) (w : World) (h : Writes w B W) (T : List UInt8) (p q Sy Di : Nat) (hp : Part T p q s steps) (hst : Steps w (.slice ao steps.length cap) steps B) (a1 : Lst w Sy (tal 286 false (toksOf s.data.toList 0 steps))) (a2 : Lst w Di (tal 30 true (toksOf s.data.toList 0 steps))) (hW : W.length ≤ 80000000) :
    Calls Tryz.prog 67 #[.pointer (some ⟨B, 0, none⟩), .string s, .slice ao steps.length cap, tallyV Sy Di (extraOf (toksOf s.data.toList 0 steps)), .bool last] w fun e w' => ∃ (E : Nat) (caps : Array Value), e = .returned (.agg #[.int .i64 (E : Int), .func (.func 103) #[] caps]) ∧ Below w.heap.size w w' ∧ Plan w' B W T p q last 2 E 103 caps ∧ E ≤ 90000000 := by
  have hlt := h.lt
  have cB : w.cell? ⟨B, 1, none⟩ = some (.int .i64 W.length) := by obtain ⟨pv, Pk, hw⟩ := h; exact hw.cells.2.1
  have hln := hp.len
  have HB := fun (v : World) (ls ds : List Int) (G1 G2 : Nat) (y1 : Lst v Sy (tal 286 false (toksOf s.data.toList 0 steps))) (y2 : Lst v Di (tal 30 true (toksOf s.data.toList 0 steps))) (y3 : Lst v G1 ls) (y4 : Lst v G2 ds) (y5 : ls.length = 286) (y6 : ds.length = 30) (y7 : ∀ j, 0 ≤ ls.getD j 0 ∧ ls.getD j 0 ≤ 15) (y8 : ∀ j, 0 ≤ ds.getD j 0 ∧ ds.getD j 0 ≤ 15) => tally_bits ls ds 286 G1 G2 Sy Di _ v hp.toks hp.len y1 y2 y3 y4 y5 (Nat.le_refl _) y6 y7 y8
  have HL := fun (ls ds : List Int) (y7 : ∀ j, 0 ≤ ls.getD j 0 ∧ ls.getD j 0 ≤ 15) (y8 : ∀ j, 0 ≤ ds.getD j 0 ∧ ds.getD j 0 ≤ 15) => tokBits_le ls ds y7 y8 _ hp.toks
  have HTB := fun (v : World) (y1 : Lst v Sy (tal 286 false (toksOf s.data.toList 0 steps))) (y2 : Lst v Di (tal 30 true (toksOf s.data.toList 0 steps))) => tablesFor100 Sy Di (extraOf (toksOf s.data.toList 0 steps)) _ _ v (tal_length _ _ _) (tal_length _ _ _) y1 y2 (fun j => by have := tal_range 286 false (toksOf s.data.toList 0 steps) j; omega) (fun j => by have := tal_range 30 true (toksOf s.data.toList 0 steps) j; omega)
  go_enter Tryz.func67, Tryz.ntmps67
  generalize hex : extraOf (toksOf s.data.toList 0 steps) = ex at *
  go_wp2_with fail
  obtain ⟨k0, q0, q1, q2, q3, q4, q5⟩ := six_boxes w (.cells #[.pointer (some ⟨B, 0, none⟩)] 55) (.cells #[.string s] 9) (.cells #[.slice ao steps.length cap] 62) (.cells #[.slice (some ⟨Sy, 0, none⟩) 286 286, .slice (some ⟨Di, 0, none⟩) 30 30, .int .i64 ex] 105) (.cells #[.bool last] 4) (.cells #[.int .i64 0, .nilFunc] 64)
  generalize hwa : ((((((w.alloc (.cells #[.pointer (some ⟨B, 0, none⟩)] 55)).alloc (.cells #[.string s] 9)).alloc (.cells #[.slice ao steps.length cap] 62)).alloc (.cells #[.slice (some ⟨Sy, 0, none⟩) 286 286, .slice (some ⟨Di, 0, none⟩) 30 30, .int .i64 ex] 105)).alloc (.cells #[.bool last] 4)).alloc (.cells #[.int .i64 0, .nilFunc] 64)) = wa at *
  refine (HTB wa (a1.keep k0) (a2.keep k0)).mono ?_
  rintro e u2 ⟨G1, G2, G3, ls, ds, nl, rfl, tb2, md, k2⟩
  have B0 : Below w.heap.size w u2 := k0.trans (k2.mono k0.size)
  go_wp2_with fail
  have k3 := below_alloc u2 (.cells #[.slice (some ⟨G1, 0, none⟩) 286 286, .slice (some ⟨G2, 0, none⟩) 30 30, .slice (some ⟨G3, 0, none⟩) 19 19] 127)
  have x4 := blk_new u2 (.cells #[.slice (some ⟨G1, 0, none⟩) 286 286, .slice (some ⟨G2, 0, none⟩) 30 30, .slice (some ⟨G3, 0, none⟩) 19 19] 127)
  generalize hu3 : u2.alloc (.cells #[.slice (some ⟨G1, 0, none⟩) 286 286, .slice (some ⟨G2, 0, none⟩) 30 30, .slice (some ⟨G3, 0, none⟩) 19 19] 127) = u3 at *
  have B3 : Below w.heap.size w u3.drew := (B0.trans (k3.mono B0.size)).drew
  have K3 : Below wa.heap.size wa u3.drew := (k2.trans (k3.mono k2.size)).drew
  have K4 : Below u2.heap.size u2 u3.drew := k3.drew
  have Q0 : Box u3.drew _ _ _ := (K3.block _ (lt_of_block q0)).trans q0
  have Q1 : Box u3.drew _ _ _ := (K3.block _ (lt_of_block q1)).trans q1
  have Q2 : Box u3.drew _ _ _ := (K3.block _ (lt_of_block q2)).trans q2
  have Q3 := (K3.block _ (lt_of_block q3)).trans q3
  have Q4 : Box u3.drew _ _ _ := (K3.block _ (lt_of_block q4)).trans q4
  have Q5 := (K3.block _ (lt_of_block q5)).trans q5
  have Q6 : u3.drew.heap[u2.heap.size]? = _ := x4
  have TB := tb2.below K4
  have A1 := a1.keep B3
  have A2 := a2.keep B3
  have CB := (B3.cell hlt).trans cB
  have HBT := bits101 G1 G2 G3 286 30 ls ds nl u3.drew TB
  rw [← headLen (trimF ls 257 286 - 257) (trimF ds 1 30 - 1) (trimF (inOrd nl 19) 4 19) nl (E (toldL ls ds 286 30)) (fun j => (TB.r3 j).1)] at HBT
  have HBv := fun (v : World) (k : Below u3.drew.heap.size u3.drew v) => HB v ls ds G1 G2 (A1.keep k) (A2.keep k) ((TB.below k).s) ((TB.below k).d) TB.l1 TB.l2 TB.r1 TB.r2
  have hle := HL ls ds TB.r1 TB.r2
  have hhd := hdT_le TB
  have HP : Hid (∀ u X0 X1 X2 X3 X4, Box u X0 (.pointer (some ⟨B, 0, none⟩)) 55 → Box u X1 (.bool last) 4 → u.heap[X2]? = some (.cells #[.slice (some ⟨G1, 0, none⟩) 286 286, .slice (some ⟨G2, 0, none⟩) 30 30, .slice (some ⟨G3, 0, none⟩) 19 19] 127 (0, 0)) → Box u X3 (.string s) 9 → Box u X4 (.slice ao steps.length cap) 62 → Tabs u G1 G2 G3 286 30 ls ds nl → Steps u (.slice ao steps.length cap) steps B →
      Plan u B W T p q last 2 (W.length + 3 + (hdT ls ds nl).length + (tokBits ls ds (toksOf s.data.toList 0 steps)).length) 103 #[.pointer (some ⟨X0, 0, none⟩), .pointer (some ⟨X1, 0, none⟩), .pointer (some ⟨X2, 0, none⟩), .pointer (some ⟨X3, 0, none⟩), .pointer (some ⟨X4, 0, none⟩)]) :=
    fun u X0 X1 X2 X3 X4 b0 b1 b2 b3 b4 t st => own_plan hp hW md b0 b1 b2 b3 b4 t st
  clear q0 q1 q2 q3 q4 q5 x4 k0 k2 k3 B0 K3 K4 hwa hu3 cB a1 a2 HB A1 A2 HTB HL tb2 hp h md
  unfold hdT at hhd HP
  generalize (tokBits ls ds (toksOf s.data.toList 0 steps)).length = EB at *
  generalize (Rf.headBits (trimF ls 257 286 - 257) (trimF ds 1 30 - 1) (trimF (inOrd nl 19) 4 19) nl (E (toldL ls ds 286 30))).length = HH at *
  have hE : EB ≤ 4000000 := by omega
  clear hle hln hex
  generalize W.length = PL at *
  refine regionZ (by kernel_rfl) (fun u => u.cell? ⟨w.heap.size, 0, none⟩ = some (.pointer (some ⟨B, 0, none⟩)) ∧ u.cell? ⟨B, 1, none⟩ = some (.int .i64 PL) ∧ u.cell? ⟨w.heap.size + 1 + 1 + 1, 0, none⟩ = some (.slice (some ⟨Sy, 0, none⟩) 286 286) ∧ u.cell? ⟨w.heap.size + 1 + 1 + 1, 1, none⟩ = some (.slice (some ⟨Di, 0, none⟩) 30 30) ∧ u.cell? ⟨w.heap.size + 1 + 1 + 1, 2, none⟩ = some (.int .i64 ex) ∧ u.cell? ⟨u2.heap.size, 0, none⟩ = some (.slice (some ⟨G1, 0, none⟩) 286 286) ∧ u.cell? ⟨u2.heap.size, 1, none⟩ = some (.slice (some ⟨G2, 0, none⟩) 30 30) ∧ u.cell? ⟨u2.heap.size, 2, none⟩ = some (.slice (some ⟨G3, 0, none⟩) 19 19)) 17 ?_
  generalize u3.drew = v at *
  have hlB := B3.size
  obtain ⟨y0, y1, y2, fzT, hlT⟩ := cells3 Q3
  obtain ⟨z0, z1, z2, fzZ, hlZ⟩ := cells3 Q6
  have hS : v.cell? ⟨w.heap.size, 0, none⟩ = some (.pointer (some ⟨B, 0, none⟩)) ∧ v.cell? ⟨B, 1, none⟩ = some (.int .i64 PL) ∧ v.cell? ⟨w.heap.size + 1 + 1 + 1, 0, none⟩ = some (.slice (some ⟨Sy, 0, none⟩) 286 286) ∧ v.cell? ⟨w.heap.size + 1 + 1 + 1, 1, none⟩ = some (.slice (some ⟨Di, 0, none⟩) 30 30) ∧ v.cell? ⟨w.heap.size + 1 + 1 + 1, 2, none⟩ = some (.int .i64 ex) ∧ v.cell? ⟨u2.heap.size, 0, none⟩ = some (.slice (some ⟨G1, 0, none⟩) 286 286) ∧ v.cell? ⟨u2.heap.size, 1, none⟩ = some (.slice (some ⟨G2, 0, none⟩) 30 30) ∧ v.cell? ⟨u2.heap.size, 2, none⟩ = some (.slice (some ⟨G3, 0, none⟩) 19 19) := ⟨Q0.cell, CB, y0, y1, y2, z0, z1, z2⟩
  have keepS : ∀ u, Below v.heap.size v u → u.cell? ⟨w.heap.size, 0, none⟩ = some (.pointer (some ⟨B, 0, none⟩)) ∧ u.cell? ⟨B, 1, none⟩ = some (.int .i64 PL) ∧ u.cell? ⟨w.heap.size + 1 + 1 + 1, 0, none⟩ = some (.slice (some ⟨Sy, 0, none⟩) 286 286) ∧ u.cell? ⟨w.heap.size + 1 + 1 + 1, 1, none⟩ = some (.slice (some ⟨Di, 0, none⟩) 30 30) ∧ u.cell? ⟨w.heap.size + 1 + 1 + 1, 2, none⟩ = some (.int .i64 ex) ∧ u.cell? ⟨u2.heap.size, 0, none⟩ = some (.slice (some ⟨G1, 0, none⟩) 286 286) ∧ u.cell? ⟨u2.heap.size, 1, none⟩ = some (.slice (some ⟨G2, 0, none⟩) 30 30) ∧ u.cell? ⟨u2.heap.size, 2, none⟩ = some (.slice (some ⟨G3, 0, none⟩) 19 19) := fun u k => by
    obtain ⟨y0, y1, y2, fzT, hlT⟩ := cells3 ((k.block _ (lt_of_block Q3)).trans Q3)
    obtain ⟨z0, z1, z2, fzZ, hlZ⟩ := cells3 ((k.block _ (lt_of_block Q6)).trans Q6)
    exact ⟨(Q0.below k).cell, (k.cell (by show B < _; omega)).trans CB, y0, y1, y2, z0, z1, z2⟩
  clear y0 y1 y2 fzT hlT z0 z1 z2 fzZ hlZ
  refine anyZ_take (i := 0) (v := ?_) rfl (by kernel_rfl) (by kernel_rfl) (by kernel_rfl) (by kernel_rfl) (fun _ _ _ h => h) (by kernel_rfl) ?_ hS ?_
  rotate_left
  · intro w hSw; (try dsimp only at hSw); go_simp; try with_reducible rfl
  try simp only [Act.put]
  refine anyZ_take (i := 1) (v := ?_) rfl (by kernel_rfl) (by kernel_rfl) (by kernel_rfl) (by kernel_rfl) (fun _ _ _ h => h) (by kernel_rfl) ?_ hS ?_
  rotate_left
  · intro w hSw; (try dsimp only at hSw); go_simp; try with_reducible rfl
  try simp only [Act.put]
  refine anyZ_take (i := 2) (v := ?_) rfl (by kernel_rfl) (by kernel_rfl) (by kernel_rfl) (by kernel_rfl) (fun _ _ _ h => h) (by kernel_rfl) ?_ hS ?_
  rotate_left
  · intro w hSw; (try dsimp only at hSw); go_simp; try with_reducible rfl
  try simp only [Act.put]
  refine anyZ_take (i := 3) (v := ?_) rfl (by kernel_rfl) (by kernel_rfl) (by kernel_rfl) (by kernel_rfl) (fun _ _ _ h => h) (by kernel_rfl) ?_ hS ?_
  rotate_left
  · intro w hSw; (try dsimp only at hSw); go_simp; try with_reducible rfl
  try simp only [Act.put]
  refine anyZ_take (i := 4) (v := ?_) rfl (by kernel_rfl) (by kernel_rfl) (by kernel_rfl) (by kernel_rfl) (fun _ _ _ h => h) (by kernel_rfl) ?_ hS ?_
  rotate_left
  · intro w hSw; (try dsimp only at hSw); go_simp; try with_reducible rfl
  try simp only [Act.put]
  refine anyZ_take (i := 5) (v := ?_) rfl (by kernel_rfl) (by kernel_rfl) (by kernel_rfl) (by kernel_rfl) (fun _ _ _ h => h) (by kernel_rfl) ?_ hS ?_
  rotate_left
  · intro w hSw; (try dsimp only at hSw); go_simp; try with_reducible rfl
  try simp only [Act.put]
  refine anyZ_take (i := 8) (v := ?_) rfl (by kernel_rfl) (by kernel_rfl) (by kernel_rfl) (by kernel_rfl) (fun _ _ _ h => h) (by kernel_rfl) ?_ hS ?_
  rotate_left
  · intro w hSw; (try dsimp only at hSw); go_simp; try with_reducible rfl
  try simp only [Act.put]
  refine anyZ_take (i := 9) (v := ?_) rfl (by kernel_rfl) (by kernel_rfl) (by kernel_rfl) (by kernel_rfl) (fun _ _ _ h => h) (by kernel_rfl) ?_ hS ?_
  rotate_left
  · intro w hSw; (try dsimp only at hSw); go_simp; try with_reducible rfl
  try simp only [Act.put]
  refine anyZ_take (i := 10) (v := ?_) rfl (by kernel_rfl) (by kernel_rfl) (by kernel_rfl) (by kernel_rfl) (fun _ _ _ h => h) (by kernel_rfl) ?_ hS ?_
  rotate_left
  · intro w hSw; (try dsimp only at hSw); go_simp; try with_reducible rfl
  try simp only [Act.put]
  refine anyZ_take (i := 11) (v := ?_) rfl (by kernel_rfl) (by kernel_rfl) (by kernel_rfl) (by kernel_rfl) (fun _ _ _ h => h) (by kernel_rfl) ?_ hS ?_
  rotate_left
  · intro w hSw; (try dsimp only at hSw); go_simp; try with_reducible rfl
  try simp only [Act.put]
  refine anyZ_take (i := 12) (v := ?_) rfl (by kernel_rfl) (by kernel_rfl) (by kernel_rfl) (by kernel_rfl) (fun _ _ _ h => h) (by kernel_rfl) ?_ hS ?_
  rotate_left
  · intro w hSw; (try dsimp only at hSw); go_simp; try with_reducible rfl
  try simp only [Act.put]
  refine anyZ_take (i := 15) (v := ?_) rfl (by kernel_rfl) (by kernel_rfl) (by kernel_rfl) (by kernel_rfl) (fun _ _ _ h => h) (by kernel_rfl) ?_ hS ?_
  rotate_left
  · intro w hSw; (try dsimp only at hSw); go_simp; try with_reducible rfl
  try simp only [Act.put]
  refine anyZ_one (i := 6) (by kernel_rfl) rfl (fun K hK => ?_)
  go_simp
  refine HBT.mono ?_
  rintro e v3 ⟨rfl, hb3⟩
  have hS3 := keepS v3 hb3
  refine hK _ _ (fun _ => hS3) ?_
  clear hK K HBT
  refine anyZ_take (i := 7) (v := ?_) rfl (by kernel_rfl) (by kernel_rfl) (by kernel_rfl) (by kernel_rfl) (fun _ _ _ h => h) (by kernel_rfl) ?_ hS3 ?_
  rotate_left
  · intro w hSw; (try dsimp only at hSw); go_simp; try with_reducible rfl
  try simp only [Act.put]
  refine anyZ_one (i := 13) (by kernel_rfl) rfl (fun K hK => ?_)
  go_simp
  refine (HBv v3 hb3).mono ?_
  rintro e v4 ⟨rfl, hb34⟩
  have hb4 : Below v.heap.size v v4 := hb3.trans (hb34.mono hb3.size)
  have hS4 := keepS v4 hb4
  refine hK _ _ (fun _ => hS4) ?_
  have R0 := Q0.below hb4
  have R1 := Q1.below hb4
  have R2 := Q2.below hb4
  have R4 := Q4.below hb4
  have R5 := (hb4.block _ (lt_of_block Q5)).trans Q5
  have R6 := (hb4.block _ (lt_of_block Q6)).trans Q6
  have TB4 := TB.below hb4
  have B4 : Below w.heap.size w v4 := B3.trans (hb4.mono hlB)
  clear hK K HBv Q0 Q1 Q2 Q3 Q4 Q5 Q6 TB hS CB B3 hS3 hb3 hb34
  refine anyZ_take (i := 14) (v := ?_) rfl (by kernel_rfl) (by kernel_rfl) (by kernel_rfl) (by kernel_rfl) (fun _ _ _ h => h) (by kernel_rfl) ?_ hS4 ?_
  rotate_left
  · intro w hSw; (try dsimp only at hSw); go_simp; try with_reducible rfl
  try simp only [Act.put]
  refine anyZ_take (i := 16) (v := ?_) rfl (by kernel_rfl) (by kernel_rfl) (by kernel_rfl) (by kernel_rfl) (fun _ _ _ h => h) (by kernel_rfl) ?_ hS4 ?_
  rotate_left
  · intro w hSw; (try dsimp only at hSw); go_simp; try with_reducible rfl
  try simp only [Act.put]
  obtain ⟨r0, r1, fz, hl5⟩ := cells2 R5
  refine anyZ_one (i := 17) (by kernel_rfl) rfl (fun K hK => ?_)
  go_simp
  refine hK _ _ (fun h => absurd rfl h) ?_
  clear hK K
  refine anyZ_done (by kernel_rfl) ?_ _
  go_wp2
  have e1 : IntKind.i64.wrap ((PL : Int) + 3) = (PL : Int) + 3 := IntWalk.i64_in _ (by omega)
  have e2 : IntKind.i64.wrap ((PL : Int) + 3 + (HH : Int)) = (PL : Int) + 3 + (HH : Int) := IntWalk.i64_in _ (by omega)
  have e3 : IntKind.i64.wrap ((PL : Int) + 3 + (HH : Int) + (EB : Int)) = ((PL + 3 + HH + EB : Nat) : Int) := (IntWalk.i64_in _ (by omega)).trans (by omega)
  rw [e1, e2, e3]
  have hE9 : PL + 3 + HH + EB ≤ 90000000 := by omega
  generalize PL + 3 + HH + EB = EE at *
  have kp : ∀ (v1 v2 : Value) (g : Nat), g ≠ w.heap.size + 1 + 1 + 1 + 1 + 1 → ((v4.setCell ⟨w.heap.size + 1 + 1 + 1 + 1 + 1, 0, none⟩ v1).setCell ⟨w.heap.size + 1 + 1 + 1 + 1 + 1, 1, none⟩ v2).heap[g]? = v4.heap[g]? := fun v1 v2 g hg => (Below.heap_setCell _ ⟨w.heap.size + 1 + 1 + 1 + 1 + 1, 1, none⟩ _ _ hg).trans (Below.heap_setCell _ ⟨w.heap.size + 1 + 1 + 1 + 1 + 1, 0, none⟩ _ _ hg)
  have kl : ∀ (v1 v2 : Value) (g : Nat) (zs : List Int), Lst v4 g zs → Lst ((v4.setCell ⟨w.heap.size + 1 + 1 + 1 + 1 + 1, 0, none⟩ v1).setCell ⟨w.heap.size + 1 + 1 + 1 + 1 + 1, 1, none⟩ v2) g zs := fun v1 v2 g zs hz => (kp v1 v2 g (fun e => by rw [e] at hz; rw [show v4.heap[_]? = _ from hz] at R5; simp at R5)).trans hz
  refine bodyPost_ret (v := .agg #[.int .i64 (EE : Int), .func (.func 103) #[] #[.pointer (some ⟨w.heap.size, 0, none⟩), .pointer (some ⟨w.heap.size + 1 + 1 + 1 + 1, 0, none⟩), .pointer (some ⟨u2.heap.size, 0, none⟩), .pointer (some ⟨w.heap.size + 1, 0, none⟩), .pointer (some ⟨w.heap.size + 1 + 1, 0, none⟩)]]) ?_ rfl ⟨EE, _, rfl, ?_, HP.out _ _ _ _ _ _ ?_ ?_ ?_ ?_ ?_ ?_ ?_, hE9⟩
  · simp [results, Tryz.results67, go_sem, r0, r1]
  · exact (B4.setCell (p := ⟨w.heap.size + 1 + 1 + 1 + 1 + 1, 0, none⟩) (by dsimp only; omega) _).setCell (p := ⟨w.heap.size + 1 + 1 + 1 + 1 + 1, 1, none⟩) (by dsimp only; omega) _
  · exact (kp _ _ _ (by omega)).trans R0
  · exact (kp _ _ _ (by omega)).trans R4
  · exact (kp _ _ _ (fun e => by rw [e] at R6; rw [R6] at R5; simp at R5)).trans R6
  · exact (kp _ _ _ (by omega)).trans R1
  · exact (kp _ _ _ (by omega)).trans R2
  · exact ⟨kl _ _ _ _ TB4.s, kl _ _ _ _ TB4.d, kl _ _ _ _ TB4.n, TB4.l1, TB4.l2, TB4.l3, TB4.g1, TB4.g2, TB4.r1, TB4.r2, TB4.r3, TB4.full⟩
  · exact hst.below ((B4.setCell (p := ⟨w.heap.size + 1 + 1 + 1 + 1 + 1, 0, none⟩) (by dsimp only; omega) _).setCell (p := ⟨w.heap.size + 1 + 1 + 1 + 1 + 1, 1, none⟩) (by dsimp only; omega) _)
end Go.Proofs.YtmfijackgekioaaGreat
