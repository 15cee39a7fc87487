/-
  Symbols up to a block's end, by the program.
-/
import Derived.Test.YtmfijackgekioaaUm
import Derived.Test.YtmfijackgekioaaUo
namespace Go.Proofs.Ytmfijackgekioaa
open Go.RowKit Go.Maps

/-- The program's distances stand for the document's. -/
def Alike (s : ByteArray) (farP far : List Int) : Prop := ∀ st : Rf.St, st.bad = false → st.pos ≤ 8 * s.size →
  ((Rf.symbol (lw s) farP (Rf.codes farP) st).2.bad = false → Rf.symbol (lw s) farP (Rf.codes farP) st = Rf.symbol (lw s) far (Rf.codes far) st ∧ (Rf.symbol (lw s) far (Rf.codes far) st).1 ≤ 29) ∧
  ((Rf.symbol (lw s) farP (Rf.codes farP) st).2.bad = true → (Rf.symbol (lw s) far (Rf.codes far) st).2.bad = true ∨ 29 < (Rf.symbol (lw s) far (Rf.codes far) st).1)
theorem alike_self (s : ByteArray) (far : List Int) (h : far.length ≤ 30) : Alike s far far := fun st _ _ =>
  ⟨fun hb => ⟨rfl, by have := (Rf.symbol_range (lw s) far (Rf.codes far) st).2 hb; omega⟩, fun hb => .inl hb⟩

theorem copied_of (L : List Int) (limit : Int) (i : Nat) (far fcd : List Int) (st st1 st2 st3 : Rf.St) (N D : Nat) (j : Int) (h1 : Rf.lenOf L i st = (N, st1)) (h2 : Rf.symbol L far fcd st1 = (j, st2)) (h3 : Rf.distOf L j.toNat st2 = (D, st3)) :
    Rf.copied L limit i far fcd st = if st1.bad = true then st1 else if st2.bad = true ∨ 29 < j then { st2 with bad := true } else if st3.bad = true ∨ st3.out.length < D then { st3 with bad := true } else
      if (Rf.room limit st3 N).1 = true then { (Rf.room limit st3 N).2 with out := Rf.cpF D N (Rf.room limit st3 N).2.out } else (Rf.room limit st3 N).2 := by
  unfold Rf.copied
  rw [h1]
  simp only
  rw [h2]
  simp only
  rw [h3]
theorem symsF_stop (L : List Int) (limit : Int) (ls cd far fcd : List Int) (f : Nat) (st : Rf.St) (h : (st.bad || st.full) = true) : Rf.symsF L limit ls cd far fcd f st = st := by
  cases f with
  | zero => rfl
  | succ f => rw [Rf.symsF, if_pos h]
theorem symsF_step (L : List Int) (limit : Int) (ls cd far fcd : List Int) (f : Nat) (st st1 : Rf.St) (x : Int) (hb : st.bad = false) (hf : st.full = false) (h1 : Rf.symbol L ls cd st = (x, st1)) :
    Rf.symsF L limit ls cd far fcd (f + 1) st = if st1.bad = true ∨ x = 256 then st1 else if x < 256 then
      Rf.symsF L limit ls cd far fcd f (if (Rf.room limit st1 1).1 = true then { (Rf.room limit st1 1).2 with out := (Rf.room limit st1 1).2.out ++ [UInt8.ofNat x.toNat] } else (Rf.room limit st1 1).2)
      else if 285 < x then Rf.symsF L limit ls cd far fcd f { st1 with bad := true } else Rf.symsF L limit ls cd far fcd f (Rf.copied L limit (x - 257).toNat far fcd st1) := by
  rw [Rf.symsF, if_neg (by rw [hb, hf]; decide), h1]
theorem dist_range (s : ByteArray) (j : Int) (h0 : 0 ≤ j) (h1 : j ≤ 29) (st : Rf.St) (hp : st.pos ≤ 8 * s.size) : 1 ≤ (Rf.distOf (lw s) j.toNat st).1 ∧ (Rf.distOf (lw s) j.toNat st).1 ≤ 65536 := by
  rw [distOf_eq (lw s) j h0 st (by rw [lw_length]; exact hp)]
  have h := db_range j h0 h1
  have ht := Rf.take_range (lw_bits s) st (de j)
  have hpw := pow_small (de j) (by omega)
  simp only
  omega

/-- The reader's place. -/
def posR (R : Nat) (w : World) : Nat := match w.cell? ⟨R, 1, none⟩ with | some (.int _ n) => n.toNat | _ => 0
theorem Rd.posR {w : World} {R : Nat} {s : ByteArray} {p : Nat} (h : Rd w R s p) : Go.Proofs.Ytmfijackgekioaa.posR R w = p := by unfold Go.Proofs.Ytmfijackgekioaa.posR; rw [h.cells.2.1]; simp

/-- What stands beside: tables, boxes. -/
structure Sd (w : World) (R b : Nat) (M1 s1 l1 M2 s2 l2 : Nat) (ls farP : List Int) : Prop where
  t1 : Tab w M1 s1 l1 ls
  t2 : Tab w M2 s2 l2 farP
  m1 : R + 5 < M1
  m2 : R + 5 < M2
  hb : R + 5 < b
  bx : w.heap[b]? = some (.cells (btC M1 s1 l1 M2 s2 l2) 73 (0, 0))
  sx : w.heap[b + 1]? = some (.cells (sinkC R) 61 (0, 0))
theorem Tab.notBytes {w : World} {M sh lo : Nat} {ls : List Int} (h : Tab w M sh lo ls) (c : Array Value) (fr : Nat × Nat) : w.heap[M]? ≠ some (.cells c 5 fr) := by
  obtain ⟨q, D, ⟨es, clock, hb, _⟩, _⟩ := h
  rw [hb]; simp
theorem Tab.of {w w' : World} {M sh lo : Nat} {ls : List Int} (h : Tab w M sh lo ls) (e : w'.heap[M]? = w.heap[M]?) : Tab w' M sh lo ls := by
  obtain ⟨q, D, ⟨es, clock, hb, r⟩, h3⟩ := h
  exact ⟨q, D, ⟨es, clock, e.trans hb, r⟩, h3⟩
theorem Sd.kept {w w' : World} {R b M1 s1 l1 M2 s2 l2 : Nat} {ls farP : List Int} (h : Sd w R b M1 s1 l1 M2 s2 l2 ls farP) (F : FrP R w w') : Sd w' R b M1 s1 l1 M2 s2 l2 ls farP := by
  have m1 := h.m1
  have m2 := h.m2
  have hb := h.hb
  exact ⟨h.t1.of (F.other _ h.t1.lt (by omega) (by omega) h.t1.notBytes), h.t2.of (F.other _ h.t2.lt (by omega) (by omega) h.t2.notBytes), h.m1, h.m2, h.hb,
    (F.other _ (lt_of_block h.bx) (by omega) (by omega) (fun c fr => by rw [h.bx]; simp)).trans h.bx, (F.other _ (lt_of_block h.sx) (by omega) (by omega) (fun c fr => by rw [h.sx]; simp)).trans h.sx⟩
theorem Sd.read {w w' : World} {R b M1 s1 l1 M2 s2 l2 : Nat} {ls farP : List Int} (h : Sd w R b M1 s1 l1 M2 s2 l2 ls farP) (k : Kp (· = R) w w') : Sd w' R b M1 s1 l1 M2 s2 l2 ls farP :=
  h.kept (FrP.ofKp (by have := lt_of_block h.bx; have := h.hb; omega) k)

end Go.Proofs.Ytmfijackgekioaa
