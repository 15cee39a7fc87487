/-
  The document's unpacking as plain functions: the reference's text, call by call: no program, no world.
-/
namespace Go.Proofs.Ytmfijackgekioaa.Rf

structure St where
  pos : Nat
  bad : Bool
  full : Bool
  out : List UInt8
  kinds : List Int

/-- The number of some bits, the lowest first. -/
def bv (L : List Int) (p : Nat) : Nat → Int
  | 0 => 0
  | k + 1 => bv L p k + L.getD (p + k) 0 * 2 ^ k

def Bits (L : List Int) : Prop := ∀ j, L.getD j 0 = 0 ∨ L.getD j 0 = 1

theorem bv_range {L : List Int} (h : Bits L) (p k : Nat) : 0 ≤ bv L p k ∧ bv L p k < 2 ^ k := by
  induction k with
  | zero => simp [bv]
  | succ k ih =>
    simp only [bv]
    have e : (2 : Int) ^ (k + 1) = 2 * 2 ^ k := by rw [Int.pow_succ]; omega
    rw [e]
    rcases h (p + k) with h | h <;> rw [h] <;> omega

def take (L : List Int) (st : St) (n : Nat) : Int × St :=
  if L.length < st.pos + n then (0, { st with bad := true }) else (bv L st.pos n, { st with pos := st.pos + n })

def room (limit : Int) (st : St) (n : Nat) : Bool × St :=
  if 0 < n ∧ limit < (st.out.length : Int) + n then (false, { st with full := true }) else (true, st)

/-- Codes of lengths: the next code, the last length, what is laid down. -/
structure Cs where
  next : Nat
  last : Nat
  out : List Int

def cIn (ls : List Int) (n : Nat) (c : Cs) : Nat → Cs
  | 0 => c
  | i + 1 =>
    let d := cIn ls n c i
    if ls.getD i 0 = n then { next := d.next * 2 ^ (n - d.last) + 1, last := n, out := d.out.set i (d.next * 2 ^ (n - d.last) : Nat) } else d
def cOut (ls : List Int) : Nat → Cs
  | 0 => { next := 0, last := 0, out := List.replicate ls.length 0 }
  | n + 1 => cIn ls (n + 1) (cOut ls n) ls.length
def codes (ls : List Int) : List Int := (cOut ls 15).out

theorem cIn_length (ls : List Int) (n : Nat) (c : Cs) (i : Nat) : (cIn ls n c i).out.length = c.out.length := by
  induction i with
  | zero => rfl
  | succ i ih => simp only [cIn]; split <;> simp [ih]
theorem cOut_length (ls : List Int) (n : Nat) : (cOut ls n).out.length = ls.length := by
  induction n with
  | zero => simp [cOut]
  | succ n ih => simp only [cOut, cIn_length, ih]
theorem codes_length (ls : List Int) : (codes ls).length = ls.length := cOut_length ls 15

/-- The place of a code. -/
def findFrom (ls code : List Int) (n v : Int) : Nat → Nat → Option Nat
  | 0, _ => none
  | f + 1, i => if ls.getD i 0 = n ∧ code.getD i 0 = v then some i else findFrom ls code n v f (i + 1)
def find (ls code : List Int) (n v : Int) : Option Nat := findFrom ls code n v ls.length 0

def symF (L ls code : List Int) : Nat → Nat → Int → St → Int × St
  | 0, _, _, st => (0, { st with bad := true })
  | f + 1, n, v, st =>
    let r := take L st 1
    if r.2.bad then (0, r.2) else
    match find ls code ((n : Int) + 1) (2 * v + r.1) with
    | some i => ((i : Int), r.2)
    | none => symF L ls code f (n + 1) (2 * v + r.1) r.2
def symbol (L ls code : List Int) (st : St) : Int × St := symF L ls code 15 0 0 st

/-- The bytes of a block of kind 0. -/
def plF (L : List Int) : Nat → St → St
  | 0, st => st
  | f + 1, st => if st.bad then st else
    let r := take L st 8
    plF L f { r.2 with out := r.2.out ++ [UInt8.ofNat r.1.toNat] }
def plain (L : List Int) (limit : Int) (st : St) : St :=
  let st1 := { st with pos := (st.pos + 7) / 8 * 8 }
  let a := take L st1 16
  let b := take L a.2 16
  let st3 := if a.1 + b.1 = 65535 then b.2 else { b.2 with bad := true }
  if st3.bad then st3 else
  let r := room limit st3 a.1.toNat
  if r.1 then plF L a.1.toNat r.2 else r.2

/-- The next code stays small. -/
theorem cIn_bound (ls : List Int) (n K : Nat) (c : Cs) (i : Nat) (h1 : c.next ≤ K * 2 ^ c.last) (h2 : c.last ≤ n) :
    (cIn ls n c i).next ≤ (K + i) * 2 ^ (cIn ls n c i).last ∧ (cIn ls n c i).last ≤ n := by
  induction i with
  | zero => exact ⟨by simpa [cIn] using h1, h2⟩
  | succ i ih =>
    simp only [cIn]
    split
    · refine ⟨?_, Nat.le_refl _⟩
      simp only
      have h3 : (cIn ls n c i).next * 2 ^ (n - (cIn ls n c i).last) ≤ (K + i) * 2 ^ n := by
        have := Nat.mul_le_mul_right (2 ^ (n - (cIn ls n c i).last)) ih.1
        rw [Nat.mul_assoc, ← Nat.pow_add, show (cIn ls n c i).last + (n - (cIn ls n c i).last) = n by omega] at this
        exact this
      have h4 : 1 ≤ 2 ^ n := Nat.one_le_two_pow
      rw [show K + (i + 1) = (K + i) + 1 by omega, Nat.add_mul]
      omega
    · refine ⟨Nat.le_trans ih.1 (Nat.mul_le_mul_right _ (by omega)), ih.2⟩
theorem cOut_bound (ls : List Int) (n : Nat) : (cOut ls n).next ≤ (ls.length * n) * 2 ^ (cOut ls n).last ∧ (cOut ls n).last ≤ n := by
  induction n with
  | zero => simp [cOut]
  | succ n ih =>
    have := cIn_bound ls (n + 1) (ls.length * n) (cOut ls n) ls.length ih.1 (by omega)
    simp only [cOut]
    rw [Nat.mul_succ]
    exact this
theorem pow_le (a b : Nat) (h : a ≤ b) : (2 : Nat) ^ a ≤ 2 ^ b := Nat.pow_le_pow_right (by omega) h
/-- What is laid down in a round is small. -/
theorem c_small (ls : List Int) (m i : Nat) (hm : m < 15) (hi : i ≤ ls.length) (hl : ls.length ≤ 320) :
    (cIn ls (m + 1) (cOut ls m) i).next ≤ 157286400 ∧ (cIn ls (m + 1) (cOut ls m) i).last ≤ m + 1 ∧ (cIn ls (m + 1) (cOut ls m) i).next * 2 ^ (m + 1 - (cIn ls (m + 1) (cOut ls m) i).last) ≤ 157286400 := by
  have hb := cOut_bound ls m
  have h := cIn_bound ls (m + 1) (ls.length * m) (cOut ls m) i hb.1 (by omega)
  generalize cIn ls (m + 1) (cOut ls m) i = c at *
  have hk : ls.length * m + i ≤ 4800 := by
    have : ls.length * m ≤ 320 * 14 := Nat.mul_le_mul hl (by omega)
    omega
  have hp : (2 : Nat) ^ (m + 1) ≤ 2 ^ 15 := pow_le _ _ (by omega)
  have hq : (2 : Nat) ^ c.last ≤ 2 ^ 15 := pow_le _ _ (by omega)
  have h3 : c.next * 2 ^ (m + 1 - c.last) ≤ (ls.length * m + i) * 2 ^ (m + 1) := by
    have := Nat.mul_le_mul_right (2 ^ (m + 1 - c.last)) h.1
    rw [Nat.mul_assoc, ← Nat.pow_add, show c.last + (m + 1 - c.last) = m + 1 by omega] at this
    exact this
  have h4 : (ls.length * m + i) * 2 ^ (m + 1) ≤ 4800 * 2 ^ 15 := Nat.mul_le_mul hk hp
  have h5 : (ls.length * m + i) * 2 ^ c.last ≤ 4800 * 2 ^ 15 := Nat.mul_le_mul hk hq
  exact ⟨by omega, h.2, by omega⟩

theorem take_one {L : List Int} (h : Bits L) (st : St) : 0 ≤ (take L st 1).1 ∧ (take L st 1).1 ≤ 1 := by
  unfold take; split
  · simp
  · have := bv_range h st.pos 1
    simp only
    omega
theorem take_pos (L : List Int) (st : St) (n : Nat) (h : st.pos ≤ L.length) : (take L st n).2.pos ≤ L.length := by
  unfold take; split
  · exact h
  · show st.pos + n ≤ _; omega

theorem find_at (ls code : List Int) (n v : Int) (f j : Nat) (h : ls.getD j 0 = n ∧ code.getD j 0 = v) : findFrom ls code n v (f + 1) j = some j := by rw [findFrom, if_pos h]
theorem find_on (ls code : List Int) (n v : Int) (f j : Nat) (h : ¬ (ls.getD j 0 = n ∧ code.getD j 0 = v)) : findFrom ls code n v (f + 1) j = findFrom ls code n v f (j + 1) := by rw [findFrom, if_neg h]

theorem take_range {L : List Int} (h : Bits L) (st : St) (n : Nat) : 0 ≤ (take L st n).1 ∧ (take L st n).1 < 2 ^ n := by
  unfold take; split
  · have h1 : (1 : Nat) ≤ 2 ^ n := Nat.one_le_two_pow
    have e : ((2 : Int) ^ n) = ((2 ^ n : Nat) : Int) := by simp
    rw [e]
    simp only
    omega
  · exact bv_range h st.pos n
theorem take_out (L : List Int) (st : St) (n : Nat) : (take L st n).2.out = st.out ∧ (take L st n).2.kinds = st.kinds ∧ (take L st n).2.full = st.full := by
  unfold take; split <;> simp
theorem room_out (limit : Int) (st : St) (n : Nat) : (room limit st n).2.out = st.out ∧ (room limit st n).2.kinds = st.kinds ∧ (room limit st n).2.pos = st.pos ∧ (room limit st n).2.bad = st.bad := by
  unfold room; split <;> simp

def fs (ls : List Int) : Nat → Nat
  | 0 => 0
  | k + 1 => fs ls k + if 0 < ls.getD k 0 then 32768 / 2 ^ (ls.getD k 0).toNat else 0
theorem fs_le (ls : List Int) (k : Nat) : fs ls k ≤ 32768 * k := by
  induction k with
  | zero => simp [fs]
  | succ k ih =>
    simp only [fs]
    split
    · have := Nat.div_le_self 32768 (2 ^ (ls.getD k 0).toNat)
      omega
    · omega
def full (ls : List Int) : Bool := decide (fs ls ls.length = 32768)

def fixL (i : Nat) : Int := if i < 144 then 8 else if i < 256 then 9 else if i < 280 then 7 else 8
def fixS : List Int := (List.range 288).map fixL
def fixD : List Int := (List.range 32).map fun _ => 5

def lsF (L ls cd : List Int) (n : Nat) : Nat → List Int → St → List Int × St
  | 0, out, st => (out, st)
  | f + 1, out, st =>
    if n ≤ out.length ∨ st.bad = true then (out, st) else
    let r := symbol L ls cd st
    if r.2.bad = true then ([], r.2)
    else if r.1 < 16 then lsF L ls cd n f (out ++ [r.1]) r.2
    else if r.1 = 16 then
      (if out = [] then ([], { (take L r.2 2).2 with bad := true }) else lsF L ls cd n f (out ++ List.replicate (3 + (take L r.2 2).1.toNat) (out.getD (out.length - 1) 0)) (take L r.2 2).2)
    else if r.1 = 17 then lsF L ls cd n f (out ++ List.replicate (3 + (take L r.2 3).1.toNat) 0) (take L r.2 3).2
    else lsF L ls cd n f (out ++ List.replicate (11 + (take L r.2 7).1.toNat) 0) (take L r.2 7).2
def listed (L ls : List Int) (n : Nat) (st : St) : List Int × St :=
  let r := lsF L ls (codes ls) n (n + 1) [] st
  if r.1.length = n then r else (r.1, { r.2 with bad := true })

/-- What a symbol's search answers lies among the codes. -/
theorem findFrom_lt (ls cd : List Int) (n v : Int) : ∀ (f i j : Nat), findFrom ls cd n v f i = some j → j < i + f
  | 0, _, _, h => by simp [findFrom] at h
  | f + 1, i, j, h => by
    rw [findFrom] at h
    split at h
    · cases h; omega
    · have := findFrom_lt ls cd n v f (i + 1) j h; omega
theorem symF_range (L ls cd : List Int) : ∀ (f n : Nat) (v : Int) (st : St), 0 ≤ (symF L ls cd f n v st).1 ∧ ((symF L ls cd f n v st).2.bad = false → (symF L ls cd f n v st).1 < ls.length)
  | 0, _, _, st => by simp [symF]
  | f + 1, n, v, st => by
    rw [symF]
    split
    · rename_i h
      simp only
      exact ⟨Int.le_refl _, fun h2 => by rw [h] at h2; cases h2⟩
    · split
      · rename_i i hi
        have := findFrom_lt ls cd _ _ _ _ _ hi
        exact ⟨by simp only; omega, fun _ => by simp only; omega⟩
      · exact symF_range L ls cd f (n + 1) _ _
theorem symbol_range (L ls cd : List Int) (st : St) : 0 ≤ (symbol L ls cd st).1 ∧ ((symbol L ls cd st).2.bad = false → (symbol L ls cd st).1 < ls.length) := symF_range L ls cd 15 0 0 st

def lenOf (L : List Int) (i : Nat) (st : St) : Nat × St :=
  if i = 28 then (258, st) else if 8 ≤ i then ((4 + i % 4) * 2 ^ (i / 4 - 1) + 3 + (take L st (i / 4 - 1)).1.toNat, (take L st (i / 4 - 1)).2) else (i + 3, st)
def distOf (L : List Int) (j : Nat) (st : St) : Nat × St :=
  if 4 ≤ j then ((2 + j % 2) * 2 ^ (j / 2 - 1) + 1 + (take L st (j / 2 - 1)).1.toNat, (take L st (j / 2 - 1)).2) else (j + 1, st)
def cpF (d : Nat) : Nat → List UInt8 → List UInt8
  | 0, o => o
  | k + 1, o => cpF d k (o ++ [o.getD (o.length - d) 0])
def copied (L : List Int) (limit : Int) (i : Nat) (far code : List Int) (st : St) : St :=
  if (lenOf L i st).2.bad = true then (lenOf L i st).2 else
  if (symbol L far code (lenOf L i st).2).2.bad = true ∨ 29 < (symbol L far code (lenOf L i st).2).1 then { (symbol L far code (lenOf L i st).2).2 with bad := true } else
  if (distOf L (symbol L far code (lenOf L i st).2).1.toNat (symbol L far code (lenOf L i st).2).2).2.bad = true ∨
      (distOf L (symbol L far code (lenOf L i st).2).1.toNat (symbol L far code (lenOf L i st).2).2).2.out.length < (distOf L (symbol L far code (lenOf L i st).2).1.toNat (symbol L far code (lenOf L i st).2).2).1 then
    { (distOf L (symbol L far code (lenOf L i st).2).1.toNat (symbol L far code (lenOf L i st).2).2).2 with bad := true } else
  if (room limit (distOf L (symbol L far code (lenOf L i st).2).1.toNat (symbol L far code (lenOf L i st).2).2).2 (lenOf L i st).1).1 = true then
    { (room limit (distOf L (symbol L far code (lenOf L i st).2).1.toNat (symbol L far code (lenOf L i st).2).2).2 (lenOf L i st).1).2 with
      out := cpF (distOf L (symbol L far code (lenOf L i st).2).1.toNat (symbol L far code (lenOf L i st).2).2).1 (lenOf L i st).1 (room limit (distOf L (symbol L far code (lenOf L i st).2).1.toNat (symbol L far code (lenOf L i st).2).2).2 (lenOf L i st).1).2.out }
  else (room limit (distOf L (symbol L far code (lenOf L i st).2).1.toNat (symbol L far code (lenOf L i st).2).2).2 (lenOf L i st).1).2

theorem symF_out (L ls cd : List Int) : ∀ (f n : Nat) (v : Int) (st : St), (symF L ls cd f n v st).2.out = st.out ∧ (symF L ls cd f n v st).2.kinds = st.kinds ∧ (symF L ls cd f n v st).2.full = st.full
  | 0, _, _, st => by simp [symF]
  | f + 1, n, v, st => by
    have h := take_out L st 1
    rw [symF]
    split
    · exact h
    · split
      · exact h
      · have h2 := symF_out L ls cd f (n + 1) (2 * v + (take L st 1).1) (take L st 1).2
        exact ⟨h2.1.trans h.1, h2.2.1.trans h.2.1, h2.2.2.trans h.2.2⟩
theorem symbol_out (L ls cd : List Int) (st : St) : (symbol L ls cd st).2.out = st.out ∧ (symbol L ls cd st).2.kinds = st.kinds ∧ (symbol L ls cd st).2.full = st.full := symF_out L ls cd 15 0 0 st

end Go.Proofs.Ytmfijackgekioaa.Rf
