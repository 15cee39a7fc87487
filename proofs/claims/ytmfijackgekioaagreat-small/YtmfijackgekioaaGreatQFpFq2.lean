import Derived.Test.YtmfijackgekioaaGreatQEeEh4
import Derived.Test.YtmfijackgekioaaGreatQUiUm4
import Derived.Laws.BitsAllLaws
import Derived.Test.YtmfijackgekioaaGreatQDeDh4
import Derived.Test.YtmfijackgekioaaGreatQFbFl10
import Derived.Test.YtmfijackgekioaaGreatQUtFm2

/-
  A block's head, and a block of kind 0: the program. For Deflates.
-/
namespace Go.Proofs.YtmfijackgekioaaGreat
open Go.RowKit

theorem not_i64 (n : Nat) (h : n ≤ 65535) : bits .xor .i64 (-1) (n : Int) = -(n : Int) - 1 := by
  have e : (BitVec.ofInt 64 (n : Int)).toNat = n := ofInt_u64 n (by omega)
  have e1 : BitVec.ofInt 64 (-1) = BitVec.allOnes 64 := by decide
  show IntKind.i64.wrap ((BitVec.ofInt 64 (-1) ^^^ BitVec.ofInt 64 (n : Int)).toNat : Int) = _
  rw [e1, BitVec.allOnes_xor, BitVec.toNat_not, e, IntKind.wrap_i64]
  omega

/-- A block's head. -/
def hdB (last : Bool) (k : Nat) : List Int := Rf.nb (if last then 1 else 0) 1 ++ Rf.nb k 2
theorem hdB_length (last : Bool) (k : Nat) : (hdB last k).length = 3 := by simp [hdB, Rf.nb_length]

set_option maxRecDepth 100000 in
set_option maxHeartbeats 1000000 in
theorem writeHead90 (last : Bool) (k : Nat) (B : Nat) (W : List Int) (w : World) (h : Writes w B W) (hW : W.length ≤ 800000000) :
    Calls Tryz.prog 91 #[.pointer (some ⟨B, 0, none⟩), .bool last, .int .i64 k] w fun e w' => e = .returned (.tuple #[]) ∧ Writes w' B (W ++ hdB last k) ∧ Fr B w w' := by
  cases last
  · go_enter Tryz.func91, Tryz.ntmps91
    go_wp2_with fail
    refine (number92 (0 : Nat) 1 B W w h (by omega) (by omega)).mono ?_
    rintro e w1 ⟨rfl, h1, f1⟩
    go_wp2_with fail
    refine (number92 k 2 B _ w1 h1 (by omega) (by rw [List.length_append, nbI_length]; omega)).mono ?_
    rintro e w2 ⟨rfl, h2, f2⟩
    go_wp2
    go_end0
    refine ⟨rfl, ?_, f1.trans f2⟩
    rw [List.append_assoc, nbI_nat, nbI_nat] at h2
    exact h2
  · go_enter Tryz.func91, Tryz.ntmps91
    go_wp2_with fail
    refine (number92 (1 : Nat) 1 B W w h (by omega) (by omega)).mono ?_
    rintro e w1 ⟨rfl, h1, f1⟩
    go_wp2_with fail
    refine (number92 k 2 B _ w1 h1 (by omega) (by rw [List.length_append, nbI_length]; omega)).mono ?_
    rintro e w2 ⟨rfl, h2, f2⟩
    go_wp2
    go_end0
    refine ⟨rfl, ?_, f1.trans f2⟩
    rw [List.append_assoc, nbI_nat, nbI_nat] at h2
    exact h2

/-- A block of kind 0 behind its head. -/
def stB (at_ : Nat) (s : ByteArray) : List Int := List.replicate ((at_ + 7) / 8 * 8 - at_) 0 ++ (Rf.nb s.size 16 ++ (Rf.nb (65535 - s.size) 16 ++ Rf.bb s.data.toList))
theorem stB_length (at_ : Nat) (s : ByteArray) : (stB at_ s).length = (at_ + 7) / 8 * 8 - at_ + 32 + 8 * s.size := by
  simp only [stB, List.length_append, Rf.nb_length, Rf.bb_length, List.length_replicate, Array.length_toList]
  have : s.data.size = s.size := rfl
  omega

/-- A box that holds one value. -/
def Box (w : World) (X : Nat) (v : Value) (t : TypeId) : Prop := w.heap[X]? = some (.cells #[v] t (0, 0))
theorem Box.fr {w w' : World} {B X : Nat} {v : Value} {t : TypeId} (h : Box w X v t) (f : Fr B w w') (hX : X ≠ B) (ht : t ≠ 5) : Box w' X v t := (f.kept hX h ht).trans h
theorem Box.below {w w' : World} {X : Nat} {v : Value} {t : TypeId} (h : Box w X v t) (k : Below w.heap.size w w') : Box w' X v t := (k.block _ (lt_of_block h)).trans h
theorem Box.cell {w : World} {X : Nat} {v : Value} {t : TypeId} (h : Box w X v t) : w.cell? ⟨X, 0, none⟩ = some v := (one_cell h).1

set_option maxRecDepth 100000 in
set_option maxHeartbeats 1000000 in
theorem stored89 (X0 X1 X2 B : Nat) (last : Bool) (s : ByteArray) (W : List Int) (w : World) (h : Writes w B W) (b0 : Box w X0 (.pointer (some ⟨B, 0, none⟩)) 55) (b1 : Box w X1 (.bool last) 4) (b2 : Box w X2 (.string s) 9) (n0 : X0 ≠ B) (n2 : X2 ≠ B) (hs : s.size ≤ 65535) (hW : W.length ≤ 800000000) :
    Calls Tryz.prog 90 #[.pointer (some ⟨X0, 0, none⟩), .pointer (some ⟨X1, 0, none⟩), .pointer (some ⟨X2, 0, none⟩)] w fun e w' => e = .returned (.tuple #[]) ∧ Writes w' B (W ++ (hdB last 0 ++ stB (W.length + 3) s)) ∧ Fr B w w' := by
  have c0 := b0.cell
  have c1 := b1.cell
  have c2 := b2.cell
  go_enter Tryz.func90, Tryz.ntmps90
  go_wp2_with fail
  refine (writeHead90 last 0 B W w h hW).mono ?_
  rintro e w1 ⟨rfl, h1, f1⟩
  have p0 := b0.fr f1 n0 (by decide)
  have p2 := b2.fr f1 n2 (by decide)
  clear c0 c1 c2 b0 b2
  have c0 := p0.cell
  have e1 : (W ++ hdB last 0).length = W.length + 3 := by rw [List.length_append, hdB_length]
  go_wp2_with fail
  refine (skip91 B _ w1 h1 (by omega)).mono ?_
  rintro e w2 ⟨rfl, h2, f2⟩
  have q0 := p0.fr f2 n0 (by decide)
  have q2 := p2.fr f2 n2 (by decide)
  clear c0 p0 p2
  have c0 := q0.cell
  have c2 := q2.cell
  rw [e1] at h2
  obtain ⟨R, hR⟩ : ∃ R, R = List.replicate ((W.length + 3 + 7) / 8 * 8 - (W.length + 3)) (0 : Int) := ⟨_, rfl⟩
  have hRl : R.length = (W.length + 3 + 7) / 8 * 8 - (W.length + 3) := by rw [hR, List.length_replicate]
  have e2 : (W ++ hdB last 0 ++ R).length = (W.length + 3 + 7) / 8 * 8 := by rw [List.length_append, e1, hRl]; omega
  rw [← hR] at h2
  go_wp2_with fail
  refine (number92 s.size 16 B _ w2 h2 (by omega) (by omega)).mono ?_
  rintro e w3 ⟨rfl, h3, f3⟩
  have p0 := q0.fr f3 n0 (by decide)
  have p2 := q2.fr f3 n2 (by decide)
  clear c0 c2 q0 q2
  have c0 := p0.cell
  have c2 := p2.cell
  go_wp2_with fail
  rw [not_i64 _ hs]
  refine (number92 (-(s.size : Int) - 1) 16 B _ w3 h3 (by omega) (by rw [List.length_append, nbI_length]; omega)).mono ?_
  rintro e w4 ⟨rfl, h4, f4⟩
  have q0 := p0.fr f4 n0 (by decide)
  have q2 := p2.fr f4 n2 (by decide)
  clear c0 c2 p0 p2
  have c0 := q0.cell
  have c2 := q2.cell
  go_wp2_with fail
  refine (bytes93 s B _ w4 h4 (by rw [List.length_append, nbI_length, List.length_append, nbI_length]; omega) (by rw [List.length_append, nbI_length, List.length_append, nbI_length]; omega) (by omega)).mono ?_
  rintro e w5 ⟨rfl, h5, f5⟩
  go_wp2
  go_end0
  refine ⟨rfl, ?_, (((f1.trans f2).trans f3).trans f4).trans f5⟩
  rw [nbI_nat, nbI_not _ hs] at h5
  unfold stB
  rw [← hR]
  simpa only [List.append_assoc] using h5
end Go.Proofs.YtmfijackgekioaaGreat

/-
  A plan to write a block; the one of kind 0: the program. For Deflates.
-/
namespace Go.Proofs.YtmfijackgekioaaGreat
open Go.RowKit

/-- All but rows of plans is kept. -/
def Kq (u w : World) : Prop := ∀ (k : Nat) (cs : Array Value) (t : TypeId) (fr : Nat × Nat), u.heap[k]? = some (.cells cs t fr) → t ≠ 64 → w.heap[k]? = u.heap[k]?
theorem Kq.trans {a b c : World} (h : Kq a b) (k : Kq b c) : Kq a c := fun i cs t fr hi ht => by
  have e := h i cs t fr hi ht
  exact (k i cs t fr (e.trans hi) ht).trans e
theorem Kq.ofBelow {a b : World} (h : Below a.heap.size a b) : Kq a b := fun i _ _ _ hi _ => h.block i (lt_of_block hi)
theorem Box.kq {w w' : World} {X : Nat} {v : Value} {t : TypeId} (h : Box w X v t) (k : Kq w w') (ht : t ≠ 64) : Box w' X v t := (k _ _ _ _ h ht).trans h
theorem Lst.kq {w w' : World} {g : Nat} {zs : List Int} (h : Lst w g zs) (k : Kq w w') : Lst w' g zs := (k _ _ _ _ h (by decide)).trans h
theorem Steps.kq {w w' : World} {sv : Value} {steps : List (Nat × Nat)} {B : Nat} (h : Steps w sv steps B) (k : Kq w w') : Steps w' sv steps B :=
  ⟨h.1, fun hn => by
    obtain ⟨SB, cap, h1, h2, h3⟩ := h.2 hn
    obtain ⟨cs, c1, c2⟩ := h3
    exact ⟨SB, cap, h1, h2, cs, (k _ _ _ _ c1 (by decide)).trans c1, c2⟩⟩
theorem Tabs.kq {w w' : World} {G1 G2 G3 N1 N2 : Nat} {ls ds nl : List Int} (h : Tabs w G1 G2 G3 N1 N2 ls ds nl) (k : Kq w w') : Tabs w' G1 G2 G3 N1 N2 ls ds nl :=
  ⟨h.s.kq k, h.d.kq k, h.n.kq k, h.l1, h.l2, h.l3, h.g1, h.g2, h.r1, h.r2, h.r3, h.full⟩

/-- A plan: what its function writes. -/
structure Plan (u : World) (B : Nat) (W : List Int) (T : List UInt8) (p q : Nat) (last : Bool) (km E : Nat) (f : Nat) (caps : Array Value) : Prop where
  call : ∀ args w, (callFunc f args).run Tryz.prog w = .ok (.enter f args) w
  does : ∀ w', Kq u w' → Writes w' B W → Calls Tryz.prog f caps w' fun e w'' => e = .returned (.tuple #[]) ∧ ∃ k Bk, k ≤ km ∧ Writes w'' B (W ++ (hdB last k ++ Bk)) ∧ W.length + 3 + Bk.length = E ∧ Rf.Brings T T.length (W.length + 3) p q k Bk ∧ Fr B w' w''
theorem Plan.weak {u : World} {B : Nat} {W : List Int} {T : List UInt8} {p q : Nat} {last : Bool} {km E f : Nat} {caps : Array Value} (h : Plan u B W T p q last km E f caps) {km' : Nat} (hk : km ≤ km') : Plan u B W T p q last km' E f caps :=
  ⟨h.call, fun w' hb hw => (h.does w' hb hw).mono fun e w'' ⟨h1, k, Bk, h2, h3⟩ => ⟨h1, k, Bk, by omega, h3⟩⟩
theorem Plan.kq {u u' : World} {B : Nat} {W : List Int} {T : List UInt8} {p q : Nat} {last : Bool} {km E f : Nat} {caps : Array Value} (h : Plan u B W T p q last km E f caps) (k : Kq u u') : Plan u' B W T p q last km E f caps :=
  ⟨h.call, fun w' hb hw => h.does w' (k.trans hb) hw⟩
theorem Plan.below {u u' : World} {B : Nat} {W : List Int} {T : List UInt8} {p q : Nat} {last : Bool} {km E f : Nat} {caps : Array Value} (h : Plan u B W T p q last km E f caps) (k : Below u.heap.size u u') : Plan u' B W T p q last km E f caps := h.kq (Kq.ofBelow k)

/-- Four boxes one behind another. -/
theorem four_boxes (w : World) (o0 o1 o2 o3 : Obj) : Below w.heap.size w ((((w.alloc o0).alloc o1).alloc o2).alloc o3) ∧ ((((w.alloc o0).alloc o1).alloc o2).alloc o3).heap[w.heap.size]? = some o0 ∧ ((((w.alloc o0).alloc o1).alloc o2).alloc o3).heap[w.heap.size + 1]? = some o1 ∧ ((((w.alloc o0).alloc o1).alloc o2).alloc o3).heap[w.heap.size + 1 + 1]? = some o2 ∧ ((((w.alloc o0).alloc o1).alloc o2).alloc o3).heap[w.heap.size + 1 + 1 + 1]? = some o3 := by
  have a1 := blk_new (w.alloc o0) o1
  have a2 := blk_new ((w.alloc o0).alloc o1) o2
  have a3 := blk_new (((w.alloc o0).alloc o1).alloc o2) o3
  simp only [World.size_alloc] at a1 a2 a3
  exact ⟨((((Below.refl _ _).alloc (Nat.le_refl _) _).alloc (by simp) _).alloc (by simp; omega) _).alloc (by simp; omega) _, blk_old (blk_old (blk_old (blk_new w o0) _) _) _, blk_old (blk_old a1 _) _, blk_old a2 _, a3⟩
theorem cells2 {w : World} {T : Nat} {a b : Value} {t : TypeId} (h : w.heap[T]? = some (.cells #[a, b] t (0, 0))) :
    w.cell? ⟨T, 0, none⟩ = some a ∧ w.cell? ⟨T, 1, none⟩ = some b ∧ (∀ j, w.frozen? ⟨T, j, none⟩ = false) ∧ T < w.heap.size :=
  ⟨cell_of_row _ _ _ _ _ _ h, cell_of_row _ _ _ _ _ _ h, fun j => frozen_of_row w T j _ _ h, lt_of_block h⟩

theorem call89 (args : Array Value) (w : World) : (callFunc 90 args).run Tryz.prog w = .ok (.enter 90 args) w := by kernel_rfl

theorem stored_plan {u : World} {B : Nat} {W : List Int} {T : List UInt8} {p q : Nat} {last : Bool} {s : ByteArray} {X0 X1 X2 : Nat} (hs : s.data.toList = (T.take q).drop p) (hpq : p ≤ q) (hq : q ≤ T.length) (h6 : q - p ≤ 65535) (hW : W.length ≤ 800000000)
    (b0 : Box u X0 (.pointer (some ⟨B, 0, none⟩)) 55) (b1 : Box u X1 (.bool last) 4) (b2 : Box u X2 (.string s) 9) (n0 : X0 ≠ B) (n2 : X2 ≠ B) :
    Plan u B W T p q last 0 ((W.length + 10) / 8 * 8 + 32 + 8 * (q - p)) 90 #[.pointer (some ⟨X0, 0, none⟩), .pointer (some ⟨X1, 0, none⟩), .pointer (some ⟨X2, 0, none⟩)] := by
  have hsz : s.size = q - p := by
    have := congrArg List.length hs
    rw [List.length_drop, List.length_take, Array.length_toList] at this
    have e : s.data.size = s.size := rfl
    omega
  refine ⟨call89, fun w' hb hw => (stored89 X0 X1 X2 B last s W w' hw (b0.kq hb (by decide)) (b1.kq hb (by decide)) (b2.kq hb (by decide)) n0 n2 (by omega) hW).mono ?_⟩
  rintro e w'' ⟨rfl, h1, h2⟩
  refine ⟨rfl, 0, stB (W.length + 3) s, Nat.le_refl _, h1, ?_, ?_, h2⟩
  · rw [stB_length, hsz]
    omega
  · have := Rf.brings_plain (T := T) (limit := T.length) (at_ := W.length + 3) (p := p) (q := q) (List.replicate ((W.length + 3 + 7) / 8 * 8 - (W.length + 3)) 0) (by rw [List.length_replicate]; omega) hpq hq h6 (Int.le_refl _)
    unfold stB
    rw [hs, hsz]
    exact this

set_option maxRecDepth 100000 in
set_option maxHeartbeats 2000000 in
theorem storedPlan78 (B : Nat) (last : Bool) (s : ByteArray) (W : List Int) (w : World) (h : Writes w B W) (T : List UInt8) (p q : Nat) (hs : s.data.toList = (T.take q).drop p) (hpq : p ≤ q) (hq : q ≤ T.length) (h6 : q - p ≤ 65535) (hW : W.length ≤ 800000000) :
    Calls Tryz.prog 64 #[.pointer (some ⟨B, 0, none⟩), .string s, .bool last] w fun e w' => ∃ caps, e = .returned (.agg #[.int .i64 (((W.length + 10) / 8 * 8 + 32 + 8 * (q - p) : Nat) : Int), .func (.func 90) #[] caps]) ∧ Below w.heap.size w w' ∧ Plan w' B W T p q last 0 ((W.length + 10) / 8 * 8 + 32 + 8 * (q - p)) 90 caps := by
  have hsz : s.size = q - p := by
    have := congrArg List.length hs
    rw [List.length_drop, List.length_take, Array.length_toList] at this
    have e : s.data.size = s.size := rfl
    omega
  have hlt := h.lt
  have cB : w.cell? ⟨B, 1, none⟩ = some (.int .i64 W.length) := by obtain ⟨pv, Pk, hw⟩ := h; exact hw.cells.2.1
  have HP : Hid (∀ u X0 X1 X2, Box u X0 (.pointer (some ⟨B, 0, none⟩)) 55 → Box u X1 (.bool last) 4 → Box u X2 (.string s) 9 → X0 ≠ B → X2 ≠ B → Plan u B W T p q last 0 ((W.length + 10) / 8 * 8 + 32 + 8 * (q - p)) 90 #[.pointer (some ⟨X0, 0, none⟩), .pointer (some ⟨X1, 0, none⟩), .pointer (some ⟨X2, 0, none⟩)]) :=
    fun u X0 X1 X2 b0 b1 b2 n0 n2 => stored_plan hs hpq hq h6 hW b0 b1 b2 n0 n2
  clear hs h
  generalize W.length = PL at *
  go_enter Tryz.func64, Tryz.ntmps64
  go_wp2_with fail
  obtain ⟨k0, q0, q1, q2, q3⟩ := four_boxes w (.cells #[.pointer (some ⟨B, 0, none⟩)] 55) (.cells #[.string s] 9) (.cells #[.bool last] 4) (.cells #[.int .i64 0, .nilFunc] 64)
  have cB1 := (k0.cell hlt).trans cB
  generalize hwa : (((w.alloc (.cells #[.pointer (some ⟨B, 0, none⟩)] 55)).alloc (.cells #[.string s] 9)).alloc (.cells #[.bool last] 4)).alloc (.cells #[.int .i64 0, .nilFunc] 64) = wa at *
  have kd : Below w.heap.size w wa.drew := k0.drew
  have hS : wa.drew.cell? ⟨w.heap.size, 0, none⟩ = some (.pointer (some ⟨B, 0, none⟩)) ∧ wa.drew.cell? ⟨B, 1, none⟩ = some (.int .i64 PL) ∧ wa.drew.cell? ⟨w.heap.size + 1, 0, none⟩ = some (.string s) := ⟨(one_cell q0).1, cB1, (one_cell q1).1⟩
  have HQ : Hid (wa.drew.heap[w.heap.size]? = some (.cells #[.pointer (some ⟨B, 0, none⟩)] 55 (0, 0)) ∧ wa.drew.heap[w.heap.size + 1]? = some (.cells #[.string s] 9 (0, 0)) ∧ wa.drew.heap[w.heap.size + 1 + 1]? = some (.cells #[.bool last] 4 (0, 0))) := ⟨q0, q1, q2⟩
  obtain ⟨r0, r1, fz, hl3⟩ : wa.drew.cell? ⟨w.heap.size + 1 + 1 + 1, 0, none⟩ = some (.int .i64 0) ∧ wa.drew.cell? ⟨w.heap.size + 1 + 1 + 1, 1, none⟩ = some .nilFunc ∧ (∀ j, wa.drew.frozen? ⟨w.heap.size + 1 + 1 + 1, j, none⟩ = false) ∧ w.heap.size + 1 + 1 + 1 < wa.drew.heap.size := cells2 q3
  clear q0 q1 q2 q3 k0 cB cB1 hwa
  refine regionZ (by kernel_rfl) (fun w' => w'.cell? ⟨w.heap.size, 0, none⟩ = some (.pointer (some ⟨B, 0, none⟩)) ∧ w'.cell? ⟨B, 1, none⟩ = some (.int .i64 PL) ∧ w'.cell? ⟨w.heap.size + 1, 0, none⟩ = some (.string s)) 15 ?_
  generalize wa.drew = wd at *
  refine anyZ_take (i := 0) (v := ?_) rfl (by kernel_rfl) (by kernel_rfl) (by kernel_rfl) (by kernel_rfl) (fun _ _ _ h => h) (by kernel_rfl) ?_ hS ?_
  rotate_left
  · intro w hSw; (try dsimp only at hSw); go_simp; try with_reducible rfl
  try simp only [Act.put]
  refine anyZ_take (i := 1) (v := ?_) rfl (by kernel_rfl) (by kernel_rfl) (by kernel_rfl) (by kernel_rfl) (fun _ _ _ h => h) (by kernel_rfl) ?_ hS ?_
  rotate_left
  · intro w hSw; (try dsimp only at hSw); go_simp; try with_reducible rfl
  try simp only [Act.put]
  refine anyZ_take (i := 2) (v := ?_) rfl (by kernel_rfl) (by kernel_rfl) (by kernel_rfl) (by kernel_rfl) (fun _ _ _ h => h) (by kernel_rfl) ?_ hS ?_
  rotate_left
  · intro w hSw; (try dsimp only at hSw); go_simp; try with_reducible rfl
  try simp only [Act.put]
  refine anyZ_take (i := 3) (v := ?_) rfl (by kernel_rfl) (by kernel_rfl) (by kernel_rfl) (by kernel_rfl) (fun _ _ _ h => h) (by kernel_rfl) ?_ hS ?_
  rotate_left
  · intro w hSw; (try dsimp only at hSw); go_simp; try with_reducible rfl
  try simp only [Act.put]
  refine anyZ_take (i := 4) (v := ?_) rfl (by kernel_rfl) (by kernel_rfl) (by kernel_rfl) (by kernel_rfl) (fun _ _ _ h => h) (by kernel_rfl) ?_ hS ?_
  rotate_left
  · intro w hSw; (try dsimp only at hSw); go_simp; try with_reducible rfl
  try simp only [Act.put]
  refine anyZ_take (i := 5) (v := ?_) rfl (by kernel_rfl) (by kernel_rfl) (by kernel_rfl) (by kernel_rfl) (fun _ _ _ h => h) (by kernel_rfl) ?_ hS ?_
  rotate_left
  · intro w hSw; (try dsimp only at hSw); go_simp; try with_reducible rfl
  try simp only [Act.put]
  refine anyZ_take (i := 6) (v := ?_) rfl (by kernel_rfl) (by kernel_rfl) (by kernel_rfl) (by kernel_rfl) (fun _ _ _ h => h) (by kernel_rfl) ?_ hS ?_
  rotate_left
  · intro w hSw; (try dsimp only at hSw); go_simp; try with_reducible rfl
  try simp only [Act.put]
  refine anyZ_take (i := 7) (v := ?_) rfl (by kernel_rfl) (by kernel_rfl) (by kernel_rfl) (by kernel_rfl) (fun _ _ _ h => h) (by kernel_rfl) ?_ hS ?_
  rotate_left
  · intro w hSw; (try dsimp only at hSw); go_simp; try with_reducible rfl
  try simp only [Act.put]
  refine anyZ_take (i := 8) (v := ?_) rfl (by kernel_rfl) (by kernel_rfl) (by kernel_rfl) (by kernel_rfl) (fun _ _ _ h => h) (by kernel_rfl) ?_ hS ?_
  rotate_left
  · intro w hSw; (try dsimp only at hSw); go_simp; try with_reducible rfl
  try simp only [Act.put]
  refine anyZ_take (i := 9) (v := ?_) rfl (by kernel_rfl) (by kernel_rfl) (by kernel_rfl) (by kernel_rfl) (fun _ _ _ h => h) (by kernel_rfl) ?_ hS ?_
  rotate_left
  · intro w hSw; (try dsimp only at hSw); go_simp; try with_reducible rfl
  try simp only [Act.put]
  refine anyZ_take (i := 10) (v := ?_) rfl (by kernel_rfl) (by kernel_rfl) (by kernel_rfl) (by kernel_rfl) (fun _ _ _ h => h) (by kernel_rfl) ?_ hS ?_
  rotate_left
  · intro w hSw; (try dsimp only at hSw); go_simp; try with_reducible rfl
  try simp only [Act.put]
  refine anyZ_take (i := 11) (v := ?_) rfl (by kernel_rfl) (by kernel_rfl) (by kernel_rfl) (by kernel_rfl) (fun _ _ _ h => h) (by kernel_rfl) ?_ hS ?_
  rotate_left
  · intro w hSw; (try dsimp only at hSw); go_simp; try with_reducible rfl
  try simp only [Act.put]
  refine anyZ_take (i := 12) (v := ?_) rfl (by kernel_rfl) (by kernel_rfl) (by kernel_rfl) (by kernel_rfl) (fun _ _ _ h => h) (by kernel_rfl) ?_ hS ?_
  rotate_left
  · intro w hSw; (try dsimp only at hSw); go_simp; try with_reducible rfl
  try simp only [Act.put]
  refine anyZ_take (i := 13) (v := ?_) rfl (by kernel_rfl) (by kernel_rfl) (by kernel_rfl) (by kernel_rfl) (fun _ _ _ h => h) (by kernel_rfl) ?_ hS ?_
  rotate_left
  · intro w hSw; (try dsimp only at hSw); go_simp; try with_reducible rfl
  try simp only [Act.put]
  refine anyZ_take (i := 14) (v := ?_) rfl (by kernel_rfl) (by kernel_rfl) (by kernel_rfl) (by kernel_rfl) (fun _ _ _ h => h) (by kernel_rfl) ?_ hS ?_
  rotate_left
  · intro w hSw; (try dsimp only at hSw); go_simp; try with_reducible rfl
  try simp only [Act.put]
  refine anyZ_one (i := 15) (by kernel_rfl) rfl (fun K hK => ?_)
  go_simp
  refine hK _ _ (fun h => absurd rfl h) ?_
  clear hK K
  refine anyZ_done (by kernel_rfl) ?_ _
  go_wp2
  have e1 : IntKind.i64.wrap ((PL : Int) + 3) = (PL : Int) + 3 := IntWalk.i64_in _ (by omega)
  have e2 : IntKind.i64.wrap ((PL : Int) + 3 + 7) = (PL : Int) + 10 := (IntWalk.i64_in _ (by omega)).trans (by omega)
  have e3 : IntKind.i64.wrap (((PL : Int) + 10).tdiv 8) = ((PL : Int) + 10) / 8 := by rw [Int.tdiv_eq_ediv_of_nonneg (by omega)]; exact IntWalk.i64_in _ (by omega)
  have e4 : IntKind.i64.wrap (((PL : Int) + 10) / 8 * 8) = ((PL : Int) + 10) / 8 * 8 := IntWalk.i64_in _ (by omega)
  have e5 : IntKind.i64.wrap (((PL : Int) + 10) / 8 * 8 + 32) = ((PL : Int) + 10) / 8 * 8 + 32 := IntWalk.i64_in _ (by omega)
  have e6 : IntKind.i64.wrap (8 * ((q - p : Nat) : Int)) = 8 * ((q - p : Nat) : Int) := IntWalk.i64_in _ (by omega)
  have e7 : IntKind.i64.wrap (((PL : Int) + 10) / 8 * 8 + 32 + 8 * ((q - p : Nat) : Int)) = (((PL + 10) / 8 * 8 + 32 + 8 * (q - p) : Nat) : Int) := (IntWalk.i64_in _ (by omega)).trans (by omega)
  rw [e1, e2, e3, e4, e5, e6, e7]
  obtain ⟨b0, b1, b2⟩ := HQ.out
  generalize (PL + 10) / 8 * 8 + 32 + 8 * (q - p) = E at *
  refine bodyPost_ret (v := .agg #[.int .i64 (E : Int), .func (.func 90) #[] #[.pointer (some ⟨w.heap.size, 0, none⟩), .pointer (some ⟨w.heap.size + 1 + 1, 0, none⟩), .pointer (some ⟨w.heap.size + 1, 0, none⟩)]]) ?_ rfl ⟨_, rfl, ?_, HP.out _ _ _ _ ?_ ?_ ?_ (by omega) (by omega)⟩
  · simp [results, Tryz.results64, go_sem, r0, r1]
  · exact (kd.setCell (p := ⟨w.heap.size + 1 + 1 + 1, 0, none⟩) (by dsimp only; omega) _).setCell (p := ⟨w.heap.size + 1 + 1 + 1, 1, none⟩) (by dsimp only; omega) _
  · exact (Below.heap_setCell _ ⟨w.heap.size + 1 + 1 + 1, 1, none⟩ _ _ (by dsimp only; omega)).trans ((Below.heap_setCell _ ⟨w.heap.size + 1 + 1 + 1, 0, none⟩ _ _ (by dsimp only; omega)).trans b0)
  · exact (Below.heap_setCell _ ⟨w.heap.size + 1 + 1 + 1, 1, none⟩ _ _ (by dsimp only; omega)).trans ((Below.heap_setCell _ ⟨w.heap.size + 1 + 1 + 1, 0, none⟩ _ _ (by dsimp only; omega)).trans b2)
  · exact (Below.heap_setCell _ ⟨w.heap.size + 1 + 1 + 1, 1, none⟩ _ _ (by dsimp only; omega)).trans ((Below.heap_setCell _ ⟨w.heap.size + 1 + 1 + 1, 0, none⟩ _ _ (by dsimp only; omega)).trans b1)
end Go.Proofs.YtmfijackgekioaaGreat
