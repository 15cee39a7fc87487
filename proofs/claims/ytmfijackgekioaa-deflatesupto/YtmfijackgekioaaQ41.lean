import Derived.Test.YtmfijackgekioaaQ28
import Derived.Test.YtmfijackgekioaaQ14
import Derived.Laws.BitsAllLaws
import Derived.Test.YtmfijackgekioaaQ23

/-
  A block's head, and a block of kind 0: the program. For Deflates.
-/
namespace Go.Proofs.Ytmfijackgekioaa
open Go.RowKit

theorem not_i64 (n : Nat) (h : n ≤ 65535) : bits .xor .i64 (-1) (n : Int) = -(n : Int) - 1 := by
  have e : (BitVec.ofInt 64 (n : Int)).toNat = n := ofInt_u64 n (by omega)
  have e1 : BitVec.ofInt 64 (-1) = BitVec.allOnes 64 := by decide
  show IntKind.i64.wrap ((BitVec.ofInt 64 (-1) ^^^ BitVec.ofInt 64 (n : Int)).toNat : Int) = _
  rw [e1, BitVec.allOnes_xor, BitVec.toNat_not, e, IntKind.wrap_i64]
  omega

/-- A block's head. -/
def hdB (last : Bool) (k : Nat) : List Int := Rf.nb (if last then 1 else 0) 1 ++ Rf.nb k 2
theorem hdB_length (last : Bool) (k : Nat) : (hdB last k).length = 3 := by simp [hdB, Rf.nb_length]

set_option maxRecDepth 100000 in
set_option maxHeartbeats 1000000 in
theorem writeHead90 (last : Bool) (k : Nat) (B : Nat) (W : List Int) (w : World) (h : Writes w B W) (hW : W.length ≤ 800000000) :
    Calls Try.prog 90 #[.pointer (some ⟨B, 0, none⟩), .bool last, .int .i64 k] w fun e w' => e = .returned (.tuple #[]) ∧ Writes w' B (W ++ hdB last k) ∧ Fr B w w' := by
  cases last
  · go_enter Try.func90, Try.ntmps90
    go_wp2_with fail
    refine (number92 (0 : Nat) 1 B W w h (by omega) (by omega)).mono ?_
    rintro e w1 ⟨rfl, h1, f1⟩
    go_wp2_with fail
    refine (number92 k 2 B _ w1 h1 (by omega) (by rw [List.length_append, nbI_length]; omega)).mono ?_
    rintro e w2 ⟨rfl, h2, f2⟩
    go_wp2
    go_end0
    refine ⟨rfl, ?_, f1.trans f2⟩
    rw [List.append_assoc, nbI_nat, nbI_nat] at h2
    exact h2
  · go_enter Try.func90, Try.ntmps90
    go_wp2_with fail
    refine (number92 (1 : Nat) 1 B W w h (by omega) (by omega)).mono ?_
    rintro e w1 ⟨rfl, h1, f1⟩
    go_wp2_with fail
    refine (number92 k 2 B _ w1 h1 (by omega) (by rw [List.length_append, nbI_length]; omega)).mono ?_
    rintro e w2 ⟨rfl, h2, f2⟩
    go_wp2
    go_end0
    refine ⟨rfl, ?_, f1.trans f2⟩
    rw [List.append_assoc, nbI_nat, nbI_nat] at h2
    exact h2

/-- A block of kind 0 behind its head. -/
def stB (at_ : Nat) (s : ByteArray) : List Int := List.replicate ((at_ + 7) / 8 * 8 - at_) 0 ++ (Rf.nb s.size 16 ++ (Rf.nb (65535 - s.size) 16 ++ Rf.bb s.data.toList))
theorem stB_length (at_ : Nat) (s : ByteArray) : (stB at_ s).length = (at_ + 7) / 8 * 8 - at_ + 32 + 8 * s.size := by
  simp only [stB, List.length_append, Rf.nb_length, Rf.bb_length, List.length_replicate, Array.length_toList]
  have : s.data.size = s.size := rfl
  omega

/-- A box that holds one value. -/
def Box (w : World) (X : Nat) (v : Value) (t : TypeId) : Prop := w.heap[X]? = some (.cells #[v] t (0, 0))
theorem Box.fr {w w' : World} {B X : Nat} {v : Value} {t : TypeId} (h : Box w X v t) (f : Fr B w w') (hX : X ≠ B) (ht : t ≠ 5) : Box w' X v t := (f.kept hX h ht).trans h
theorem Box.below {w w' : World} {X : Nat} {v : Value} {t : TypeId} (h : Box w X v t) (k : Below w.heap.size w w') : Box w' X v t := (k.block _ (lt_of_block h)).trans h
theorem Box.cell {w : World} {X : Nat} {v : Value} {t : TypeId} (h : Box w X v t) : w.cell? ⟨X, 0, none⟩ = some v := (one_cell h).1

set_option maxRecDepth 100000 in
set_option maxHeartbeats 1000000 in
theorem stored89 (X0 X1 X2 B : Nat) (last : Bool) (s : ByteArray) (W : List Int) (w : World) (h : Writes w B W) (b0 : Box w X0 (.pointer (some ⟨B, 0, none⟩)) 81) (b1 : Box w X1 (.bool last) 4) (b2 : Box w X2 (.string s) 9) (n0 : X0 ≠ B) (n2 : X2 ≠ B) (hs : s.size ≤ 65535) (hW : W.length ≤ 800000000) :
    Calls Try.prog 89 #[.pointer (some ⟨X0, 0, none⟩), .pointer (some ⟨X1, 0, none⟩), .pointer (some ⟨X2, 0, none⟩)] w fun e w' => e = .returned (.tuple #[]) ∧ Writes w' B (W ++ (hdB last 0 ++ stB (W.length + 3) s)) ∧ Fr B w w' := by
  have c0 := b0.cell
  have c1 := b1.cell
  have c2 := b2.cell
  go_enter Try.func89, Try.ntmps89
  go_wp2_with fail
  refine (writeHead90 last 0 B W w h hW).mono ?_
  rintro e w1 ⟨rfl, h1, f1⟩
  have p0 := b0.fr f1 n0 (by decide)
  have p2 := b2.fr f1 n2 (by decide)
  clear c0 c1 c2 b0 b2
  have c0 := p0.cell
  have e1 : (W ++ hdB last 0).length = W.length + 3 := by rw [List.length_append, hdB_length]
  go_wp2_with fail
  refine (skip91 B _ w1 h1 (by omega)).mono ?_
  rintro e w2 ⟨rfl, h2, f2⟩
  have q0 := p0.fr f2 n0 (by decide)
  have q2 := p2.fr f2 n2 (by decide)
  clear c0 p0 p2
  have c0 := q0.cell
  have c2 := q2.cell
  rw [e1] at h2
  obtain ⟨R, hR⟩ : ∃ R, R = List.replicate ((W.length + 3 + 7) / 8 * 8 - (W.length + 3)) (0 : Int) := ⟨_, rfl⟩
  have hRl : R.length = (W.length + 3 + 7) / 8 * 8 - (W.length + 3) := by rw [hR, List.length_replicate]
  have e2 : (W ++ hdB last 0 ++ R).length = (W.length + 3 + 7) / 8 * 8 := by rw [List.length_append, e1, hRl]; omega
  rw [← hR] at h2
  go_wp2_with fail
  refine (number92 s.size 16 B _ w2 h2 (by omega) (by omega)).mono ?_
  rintro e w3 ⟨rfl, h3, f3⟩
  have p0 := q0.fr f3 n0 (by decide)
  have p2 := q2.fr f3 n2 (by decide)
  clear c0 c2 q0 q2
  have c0 := p0.cell
  have c2 := p2.cell
  go_wp2_with fail
  rw [not_i64 _ hs]
  refine (number92 (-(s.size : Int) - 1) 16 B _ w3 h3 (by omega) (by rw [List.length_append, nbI_length]; omega)).mono ?_
  rintro e w4 ⟨rfl, h4, f4⟩
  have q0 := p0.fr f4 n0 (by decide)
  have q2 := p2.fr f4 n2 (by decide)
  clear c0 c2 p0 p2
  have c0 := q0.cell
  have c2 := q2.cell
  go_wp2_with fail
  refine (bytes93 s B _ w4 h4 (by rw [List.length_append, nbI_length, List.length_append, nbI_length]; omega) (by rw [List.length_append, nbI_length, List.length_append, nbI_length]; omega) (by omega)).mono ?_
  rintro e w5 ⟨rfl, h5, f5⟩
  go_wp2
  go_end0
  refine ⟨rfl, ?_, (((f1.trans f2).trans f3).trans f4).trans f5⟩
  rw [nbI_nat, nbI_not _ hs] at h5
  unfold stB
  rw [← hR]
  simpa only [List.append_assoc] using h5
end Go.Proofs.Ytmfijackgekioaa
