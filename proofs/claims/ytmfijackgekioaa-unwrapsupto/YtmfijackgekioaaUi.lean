/-
  What the program's unpacking holds in memory; its sink.
-/
import Derived.Test.YtmfijackgekioaaUb
import Derived.Test.YtmfijackgekioaaRp
import Derived.Deep.RegionHeld3
import Derived.Deep.AppendLies
import Derived.Deep.RegionLaw
namespace Go.Proofs.Ytmfijackgekioaa
open Go.RowKit

abbrev needV (R : Nat) : Value := .func (.func 55) #[] #[.pointer (some ⟨R + 3, 0, none⟩), .pointer (some ⟨R + 2, 0, none⟩)]
abbrev putV (R : Nat) : Value := .func (.func 56) #[] #[.pointer (some ⟨R + 5, 0, none⟩), .pointer (some ⟨R + 2, 0, none⟩)]
abbrev againV (R : Nat) : Value := .func (.func 57) #[] #[.pointer (some ⟨R + 2, 0, none⟩), .pointer (some ⟨R + 5, 0, none⟩)]

/-- The reader (block R), what came out (R + 1), the sink's variables (R + 2, R + 3, R + 5); what came out lies behind them. -/
structure Pg (w : World) (s : ByteArray) (R : Nat) (limit : Int) (st : Rf.St) (ov : Value) : Prop where
  rd : Rd w R s st.pos
  o : w.heap[R + 1]? = some (.cells #[ov] 39 (0, 0))
  p : w.heap[R + 2]? = some (.cells #[.pointer (some ⟨R + 1, 0, none⟩)] 63 (0, 0))
  l : w.heap[R + 3]? = some (.cells #[.int .i64 (max limit 0)] 3 (0, 0))
  n : w.heap[R + 5]? = some (.cells #[needV R] 57 (0, 0))
  ho : w.ownsRow (R + 6) 5 1 ov st.out.length (st.out.map byteV)
  hp : st.pos ≤ 8 * s.size
  hs : s.size ≤ 1048576
  hl : limit ≤ 9223372036854775807
  hol : (st.out.length : Int) ≤ max limit 0
  nb : st.bad = false
  nf : st.full = false

/-- Of the old blocks only the reader, what came out, and rows of bytes have turned. -/
structure FrP (R : Nat) (w w' : World) : Prop where
  below : Below R w w'
  other : ∀ k, k < w.heap.size → k ≠ R → k ≠ R + 1 → (∀ c fr, w.heap[k]? ≠ some (.cells c 5 fr)) → w'.heap[k]? = w.heap[k]?
theorem FrP.refl (R : Nat) (w : World) : FrP R w w := ⟨Below.refl _ _, fun _ _ _ _ _ => rfl⟩
theorem FrP.trans {R : Nat} {a b c : World} (h : FrP R a b) (k : FrP R b c) : FrP R a c :=
  ⟨h.below.trans k.below, fun i h1 h2 h3 h4 => by
    have e := h.other i h1 h2 h3 h4
    exact (k.other i (Nat.lt_of_lt_of_le h1 h.below.size) h2 h3 (fun c fr => by rw [e]; exact h4 c fr)).trans e⟩
theorem FrP.ofKp {R : Nat} {w w' : World} (hR : R ≤ w.heap.size) (h : Kp (· = R) w w') : FrP R w w' :=
  ⟨h.below hR (fun _ _ e => Nat.le_of_eq e.symm), fun k h1 h2 _ _ => h.block k h1 h2⟩
theorem FrP.drewN {R : Nat} {a w : World} (h : FrP R a w) (n : Nat) : FrP R a (w.drewN n) := ⟨below_drewN h.below n, h.other⟩

theorem Pg.lt {w : World} {s : ByteArray} {R : Nat} {limit : Int} {st : Rf.St} {ov : Value} (h : Pg w s R limit st ov) : R + 5 < w.heap.size := lt_of_block h.n
theorem Pg.drewN {w : World} {s : ByteArray} {R : Nat} {limit : Int} {st : Rf.St} {ov : Value} (h : Pg w s R limit st ov) (n : Nat) : Pg (w.drewN n) s R limit st ov :=
  ⟨h.rd, h.o, h.p, h.l, h.n, h.ho, h.hp, h.hs, h.hl, h.hol, h.nb, h.nf⟩
theorem own_kept {w w' : World} {base : Nat} {e : TypeId} {size : Nat} {v : Value} {n : Nat} {xs : List Value} (h : w.ownsRow base e size v n xs) (hk : ∀ g, v.ownBlock = some g → w'.heap[g]? = w.heap[g]?) : w'.ownsRow base e size v n xs := by
  refine ⟨h.1, ?_⟩
  rcases h.2 with h' | ⟨g, cap, cur, rfl, hb, hg, r⟩
  · exact .inl h'
  · exact .inr ⟨g, cap, cur, rfl, hb, (hk g rfl).trans hg, r⟩
/-- Bits have been read. -/
theorem Pg.read {w w' : World} {s : ByteArray} {R : Nat} {limit : Int} {st st' : Rf.St} {ov : Value} (h : Pg w s R limit st ov) (k : Kp (· = R) w w') (hr : Rd w' R s st'.pos) (hp : st'.pos ≤ 8 * s.size) (ho : st'.out = st.out) (hb : st'.bad = false) (hf : st'.full = false) : Pg w' s R limit st' ov := by
  have hlt := h.lt
  have e : ∀ j, R < j → j < w.heap.size → w'.heap[j]? = w.heap[j]? := fun j h1 h2 => k.block j h2 (Nat.ne_of_gt h1)
  refine ⟨hr, (e _ (by omega) (by omega)).trans h.o, (e _ (by omega) (by omega)).trans h.p, (e _ (by omega) (by omega)).trans h.l, (e _ (by omega) (by omega)).trans h.n, ?_, hp, h.hs, h.hl, by rw [ho]; exact h.hol, hb, hf⟩
  rw [ho]
  exact own_kept h.ho (fun g hg => e g (by have := (h.ho.lt g hg).1; omega) (h.ho.lt g hg).2)
/-- A byte has been put behind what came out. -/
theorem Pg.push {w w2 : World} {s : ByteArray} {R : Nat} {limit : Int} {st : Rf.St} {ov v' : Value} (h : Pg w s R limit st ov) (o : Obj) (c : UInt8) (hroom : ((st.out.length + 1 : Nat) : Int) ≤ max limit 0)
    (hown' : w2.ownsRow (R + 6) 5 1 v' (st.out.length + 1) (st.out.map byteV ++ [byteV c])) (hgrow : (w.alloc o).grownBy w2 ov.ownBlock) :
    Pg (w2.setCell ⟨R + 1, 0, none⟩ v') s R limit { st with out := st.out ++ [c] } v' ∧ FrP R w (w2.setCell ⟨R + 1, 0, none⟩ v') := by
  have hlt := h.lt
  have hne : ∀ k, k ≤ R + 5 → some k ≠ ov.ownBlock := fun k hk e => by have := (h.ho.lt k e.symm).1; omega
  have hblk : ∀ k, k < w.heap.size → some k ≠ ov.ownBlock → w2.heap[k]? = w.heap[k]? := fun k hk hn => (hgrow.block k (by simp; omega) hn).trans (Below.heap_alloc w o k hk)
  have hsz : w.heap.size ≤ w2.heap.size := by have := hgrow.size; simp at this; omega
  have hset : ∀ k, k ≠ R + 1 → (w2.setCell ⟨R + 1, 0, none⟩ v').heap[k]? = w2.heap[k]? := fun k hk => Below.heap_setCell w2 ⟨R + 1, 0, none⟩ v' k hk
  have hall : ∀ k, k ≤ R + 5 → k ≠ R + 1 → (w2.setCell ⟨R + 1, 0, none⟩ v').heap[k]? = w.heap[k]? := fun k hk hn => (hset k hn).trans (hblk k (by omega) (hne k hk))
  refine ⟨⟨(hall R (by omega) (by omega)).trans h.rd, ?_, (hall _ (by omega) (by omega)).trans h.p, (hall _ (by omega) (by omega)).trans h.l, (hall _ (by omega) (by omega)).trans h.n, ?_, h.hp, h.hs, h.hl, ?_, h.nb, h.nf⟩, ⟨⟨hgrow.os, hgrow.tape, hgrow.output, by simp; omega, ?_⟩, ?_⟩⟩
  · exact (heap_setCell_same w2 (R + 1) 0 _ _ v' ((hblk _ (by omega) (hne _ (by omega))).trans h.o)).trans rfl
  · have e : (st.out ++ [c]).map byteV = st.out.map byteV ++ [byteV c] := by simp
    show (w2.setCell _ _).ownsRow _ _ _ _ (st.out ++ [c]).length ((st.out ++ [c]).map byteV)
    rw [e, List.length_append]
    exact ownsRow_setCell_below hown' (by show R + 1 < _; omega) v'
  · show ((st.out ++ [c]).length : Int) ≤ _
    rw [List.length_append]
    exact hroom
  · intro k hk
    exact (hall k (by omega) (by omega))
  · intro k h1 h2 h3 h4
    refine (hset k h3).trans (hblk k h1 (fun e => ?_))
    obtain ⟨cur, q⟩ := own_type h.ho k e.symm
    exact h4 _ _ q

theorem Pg.grown {w w2 : World} {s : ByteArray} {R : Nat} {limit : Int} {st : Rf.St} {ov : Value} (h : Pg w s R limit st ov) (o : Obj) (hgrow : (w.alloc o).grownBy w2 ov.ownBlock) :
    w2.cell? ⟨R + 1, 0, none⟩ = some ov ∧ w2.frozen? ⟨R + 1, 0, none⟩ = false ∧ w2.cell? ⟨R + 2, 0, none⟩ = some (.pointer (some ⟨R + 1, 0, none⟩)) := by
  have hlt := h.lt
  have hblk : ∀ k, k ≤ R + 5 → w2.heap[k]? = w.heap[k]? := fun k hk => (hgrow.block k (by simp; omega) (fun e => by have := (h.ho.lt k e.symm).1; omega)).trans (Below.heap_alloc w o k (by omega))
  have h1 := (hblk (R + 1) (by omega)).trans h.o
  have h2 := (hblk (R + 2) (by omega)).trans h.p
  exact ⟨cell_of_row _ _ _ _ _ _ h1, frozen_of_row w2 (R + 1) 0 _ _ h1, cell_of_row _ _ _ _ _ _ h2⟩
theorem Pg.cells {w : World} {s : ByteArray} {R : Nat} {limit : Int} {st : Rf.St} {ov : Value} (h : Pg w s R limit st ov) :
    w.cell? ⟨R + 1, 0, none⟩ = some ov ∧ w.cell? ⟨R + 2, 0, none⟩ = some (.pointer (some ⟨R + 1, 0, none⟩)) ∧ w.cell? ⟨R + 3, 0, none⟩ = some (.int .i64 (max limit 0)) ∧ w.cell? ⟨R + 5, 0, none⟩ = some (needV R) ∧ w.frozen? ⟨R + 1, 0, none⟩ = false :=
  ⟨cell_of_row _ _ _ _ _ _ h.o, cell_of_row _ _ _ _ _ _ h.p, cell_of_row _ _ _ _ _ _ h.l, cell_of_row _ _ _ _ _ _ h.n, frozen_of_row w (R + 1) 0 _ _ h.o⟩

theorem Try.infoB : (Try.prog.info? 5).map (fun i => (i.zero, i.size, i.bytes)) = some (some (.int .u8 0), 1, 1) := by kernel_rfl
theorem room_no {limit : Int} {st : Rf.St} {n : Nat} (h : max limit 0 < (st.out.length : Int) + n) (hol : (st.out.length : Int) ≤ max limit 0) : Rf.room limit st n = (false, { st with full := true }) := by
  rw [Rf.room, if_pos (by omega)]
theorem room_yes {limit : Int} {st : Rf.St} {n : Nat} (h : ¬ max limit 0 < (st.out.length : Int) + n) : Rf.room limit st n = (true, st) := by
  rw [Rf.room, if_neg (by omega)]

set_option maxRecDepth 100000 in
set_option maxHeartbeats 1000000 in
theorem room55 (n : Nat) (s : ByteArray) (R : Nat) (limit : Int) (st : Rf.St) (ov : Value) (w : World) (h : Pg w s R limit st ov) (hn : n ≤ 65535) :
    Calls Try.prog 55 #[.int .i64 n, .pointer (some ⟨R + 3, 0, none⟩), .pointer (some ⟨R + 2, 0, none⟩)] w fun e w' =>
      ((Rf.room limit st n = (true, st)) ∧ e = .returned (.tuple #[]) ∧ ((st.out.length + n : Nat) : Int) ≤ max limit 0 ∧ ∃ m, w' = w.drewN m) ∨ ((Rf.room limit st n = (false, { st with full := true })) ∧ e = dies 7 ∧ ∃ m, w' = w.drewN m) := by
  obtain ⟨c1, c2, c3, c5, fz⟩ := h.cells
  obtain ⟨oa, oc, rfl⟩ := own_slice h.ho
  have hl := h.hl
  have hol := h.hol
  obtain ⟨lim, hlim⟩ : ∃ lim : Int, lim = max limit 0 := ⟨_, rfl⟩
  have hlr : 0 ≤ lim ∧ lim ≤ 9223372036854775807 := by omega
  by_cases hr : max limit 0 < (st.out.length : Int) + n
  · have HQ := room_no hr hol
    have HR : Hid (Rf.room limit st n = (false, { st with full := true })) := HQ
    clear HQ
    rw [← hlim] at c3 hol hr
    clear hlim
    have hr' : lim - (st.out.length : Int) < (n : Int) := by omega
    go_enter Try.func55, Try.ntmps55
    go_wp2
    go_quiet (fail)
    go_wp2
    exact ⟨rfl, .inr ⟨HR.out, rfl, _, rfl⟩⟩
  · have HR : Hid (Rf.room limit st n = (true, st) ∧ ((st.out.length + n : Nat) : Int) ≤ max limit 0) := ⟨room_yes hr, by omega⟩
    rw [← hlim] at c3 hol hr
    clear hlim
    have hr' : ¬ lim - (st.out.length : Int) < (n : Int) := by omega
    have hr2 : (n : Int) ≤ lim - (st.out.length : Int) := by omega
    go_enter Try.func55, Try.ntmps55
    go_wp2
    go_quiet (fail)
    go_wp2
    go_end0
    exact .inl ⟨HR.out.1, rfl, HR.out.2, _, rfl⟩

set_option maxRecDepth 100000 in
set_option maxHeartbeats 2000000 in
theorem put56 (c : UInt8) (s : ByteArray) (R : Nat) (limit : Int) (st : Rf.St) (ov : Value) (w : World) (h : Pg w s R limit st ov) (hout : Hid (st.out.length ≤ 3000000000)) :
    Calls Try.prog 56 #[.int .u8 c.toNat, .pointer (some ⟨R + 5, 0, none⟩), .pointer (some ⟨R + 2, 0, none⟩)] w fun e w' =>
      ((Rf.room limit st 1 = (true, st)) ∧ e = .returned (.tuple #[]) ∧ (∃ ov', Pg w' s R limit { st with out := st.out ++ [c] } ov') ∧ FrP R w w') ∨ ((Rf.room limit st 1 = (false, { st with full := true })) ∧ e = dies 7 ∧ Below R w w') := by
  obtain ⟨i0, hi, hz0, hz1, hz2⟩ := info_parts Try.infoB
  obtain ⟨c1, c2, c3, c5, fz⟩ := h.cells
  go_enter Try.func56, Try.ntmps56
  go_wp2_with fail
  refine (room55 1 s R limit st ov _ h (by omega)).mono ?_
  rintro e w1 (⟨hr, rfl, hol, m, rfl⟩ | ⟨hr, rfl, m, rfl⟩)
  · have HR : Hid (Rf.room limit st 1 = (true, st)) := hr
    have HOL : Hid (((st.out.length + 1 : Nat) : Int) ≤ max limit 0) := hol
    have HB : Hid (st.out.length + 1 ≤ maxLen ∧ (st.out.length + 1) * 1 ≤ 140737488355328) := by have := hout.out; show _ ∧ _; unfold maxLen; omega
    have h2 := h.drewN m
    have F2 := (FrP.refl R w).drewN m
    clear hr hol h c1 c2 c3 c5 fz
    generalize w.drewN m = w0 at *
    obtain ⟨c1, c2, c3, c5, fz⟩ := h2.cells
    have hlt := h2.lt
    have b1 : R + 1 < w0.heap.size := by omega
    have b2 : R + 2 < w0.heap.size := by omega
    obtain ⟨oa, oc, rfl⟩ := own_slice h2.ho
    go_wp2
    go_region_law ((refine step_append_lies _ (by rfl) _ _ _ (by rfl) (R + 6) 5 i0 _ 1 1 Try.underlying39 hi hz0 hz1 hz2 rfl (by omega) (.slice oa st.out.length oc) st.out.length (st.out.map byteV) (by rfl) ((h2.ho.alloc _).drew) ⟨w0.heap.size, 0, none⟩ 1 1 [.int .u8 c.toNat] (by rfl) (by rfl) (World.news_of_block (cs := #[.int .u8 c.toNat]) (t := 5) (fr := (0, 0)) (heap_alloc_new w0 _)) (by simp [Value.oneCell']) (by omega) HB.out.1 HB.out.2 (by simp; omega) (w0.heap.size + 1) (by simp) ?_; intro gg cp w6 hown' hgrow hat hlt6; obtain ⟨q1, q2, q3⟩ := h2.grown (.cells #[.int .u8 c.toNat] 5) ⟨hgrow.os, hgrow.tape, hgrow.output, hgrow.size, hgrow.block⟩))
    all_goals
      have R7 := h2.push (.cells #[.int .u8 c.toNat] 5) c HOL.out hown' ⟨hgrow.os, hgrow.tape, hgrow.output, hgrow.size, hgrow.block⟩
      clear hown' hgrow q1 q2 q3 h2
      go_wp2
      go_end0
      exact .inl ⟨HR.out, rfl, ⟨_, R7.1⟩, F2.trans R7.2⟩
  · go_wp2
    exact ⟨rfl, .inr ⟨hr, rfl, below_drewN (Below.refl _ _) _⟩⟩

end Go.Proofs.Ytmfijackgekioaa
