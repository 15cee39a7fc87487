import Derived.Test.YtmfijackgekioaaGreatDoorQUwVc6

/-
  The chunks of a file: plain. For Decodes.
-/
namespace Go.Proofs.YtmfijackgekioaaGreatDoor

/-- A chunk. -/
structure Ch where
  name : ByteArray
  data : ByteArray

def letterN (c : Nat) : Bool := (decide (65 ≤ c) && decide (c ≤ 90)) || (decide (97 ≤ c) && decide (c ≤ 122))
def crcI (s : ByteArray) : Int := 4294967295 - (Mx.crcR s.data.toList : Int)
/-- How many bytes the first chunk says it has. -/
def chLen (b : ByteArray) : Nat := (fourAt b 0).toNat
theorem fourAt_range (b : ByteArray) (i : Nat) : 0 ≤ fourAt b i ∧ fourAt b i < 4294967296 := by
  have h0 := byteAt_lt b i
  have h1 := byteAt_lt b (i + 1)
  have h2 := byteAt_lt b (i + 2)
  have h3 := byteAt_lt b (i + 3)
  unfold fourAt
  omega
theorem chLen_eq (b : ByteArray) : fourAt b 0 = (chLen b : Int) := by have := fourAt_range b 0; unfold chLen; omega
def lettersB (b : ByteArray) (i : Nat) : Bool := letterN (byteAt b i) && (letterN (byteAt b (i + 1)) && (letterN (byteAt b (i + 2)) && letterN (byteAt b (i + 3))))
/-- The bytes begin with a chunk. -/
def chOk (b : ByteArray) : Bool := decide (12 ≤ b.size) && (decide (chLen b ≤ 2147483647) && (decide (chLen b + 12 ≤ b.size) && (lettersB b 4 && decide (fourAt b (8 + chLen b) = crcI (b.extract 4 (8 + chLen b))))))
def chOf (b : ByteArray) : Ch := ⟨b.extract 4 8, b.extract 8 (8 + chLen b)⟩
def chRest (b : ByteArray) : ByteArray := b.extract (12 + chLen b) b.size
def chF : Nat → ByteArray → Option (List Ch)
  | 0, _ => none
  | f + 1, b => if b.size = 0 then some [] else if chOk b = true then (chF f (chRest b)).map (fun l => chOf b :: l) else none
/-- All chunks, or none. -/
def chunksOf (b : ByteArray) : Option (List Ch) := chF (b.size + 1) b
theorem chOk_size {b : ByteArray} (h : chOk b = true) : 12 ≤ b.size ∧ chLen b + 12 ≤ b.size ∧ chLen b ≤ 2147483647 := by
  simp only [chOk, Bool.and_eq_true, decide_eq_true_eq] at h
  exact ⟨h.1, h.2.2.1, h.2.1⟩
theorem chRest_size {b : ByteArray} (h : chOk b = true) : (chRest b).size + 12 + chLen b = b.size := by
  have := chOk_size h
  unfold chRest
  rw [ByteArray.size_extract]
  omega
/-- More fuel changes nothing. -/
theorem chF_more : ∀ (f g : Nat) (b : ByteArray), b.size < f → b.size < g → chF f b = chF g b
  | 0, _, _, h, _ => absurd h (by omega)
  | _ + 1, 0, _, _, h => absurd h (by omega)
  | f + 1, g + 1, b, h1, h2 => by
    rw [chF, chF]
    split
    · rfl
    · split
      · rename_i h
        have := chRest_size h
        rw [chF_more f g (chRest b) (by omega) (by omega)]
      · rfl
theorem chunks_nil {b : ByteArray} (h : b.size = 0) : chunksOf b = some [] := by rw [chunksOf, chF, if_pos h]
theorem chunks_cons {b : ByteArray} (h0 : b.size ≠ 0) (h : chOk b = true) : chunksOf b = (chunksOf (chRest b)).map (fun l => chOf b :: l) := by
  have := chRest_size h
  rw [chunksOf, chF, if_neg h0, if_pos h, chF_more b.size ((chRest b).size + 1) (chRest b) (by omega) (by omega)]
  rfl
theorem chunks_bad {b : ByteArray} (h0 : b.size ≠ 0) (h : chOk b = false) : chunksOf b = none := by rw [chunksOf, chF, if_neg h0, if_neg (by rw [h]; decide)]
end Go.Proofs.YtmfijackgekioaaGreatDoor
