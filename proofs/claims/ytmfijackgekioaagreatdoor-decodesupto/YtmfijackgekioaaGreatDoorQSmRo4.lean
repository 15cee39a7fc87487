

/-
  Plain mathematics of the two sums: no program, no world.
-/
namespace Go.Proofs.YtmfijackgekioaaGreatDoor.Mx

/-- Adler's two numbers behind some bytes. -/
def ad : List UInt8 → Int × Int → Int × Int
  | [], p => p
  | c :: r, p => ad r ((p.1 + c.toNat) % 65521, (p.2 + (p.1 + c.toNat) % 65521) % 65521)

theorem ad_snoc (l : List UInt8) (c : UInt8) (p : Int × Int) :
    ad (l ++ [c]) p = (((ad l p).1 + c.toNat) % 65521, ((ad l p).2 + ((ad l p).1 + c.toNat) % 65521) % 65521) := by
  induction l generalizing p with
  | nil => rfl
  | cons x r ih => exact ih _

def adS (l : List UInt8) : Int := (ad l (1, 0)).1
def adT (l : List UInt8) : Int := (ad l (1, 0)).2

theorem ad_range (l : List UInt8) (p : Int × Int) (h1 : 0 ≤ p.1 ∧ p.1 ≤ 65520) (h2 : 0 ≤ p.2 ∧ p.2 ≤ 65520) :
    (0 ≤ (ad l p).1 ∧ (ad l p).1 ≤ 65520) ∧ (0 ≤ (ad l p).2 ∧ (ad l p).2 ≤ 65520) := by
  induction l generalizing p with
  | nil => exact ⟨h1, h2⟩
  | cons x r ih => exact ih _ (by simp only; omega) (by simp only; omega)

theorem adS_range (l : List UInt8) : 0 ≤ adS l ∧ adS l ≤ 65520 := (ad_range l (1, 0) (by simp) (by simp)).1
theorem adT_range (l : List UInt8) : 0 ≤ adT l ∧ adT l ≤ 65520 := (ad_range l (1, 0) (by simp) (by simp)).2
theorem adS_snoc (l : List UInt8) (c : UInt8) : adS (l ++ [c]) = (adS l + c.toNat) % 65521 := by simp only [adS, ad_snoc]
theorem adT_snoc (l : List UInt8) (c : UInt8) : adT (l ++ [c]) = (adT l + (adS l + c.toNat) % 65521) % 65521 := by simp only [adS, adT, ad_snoc]

def adler (l : List UInt8) : Int := 65536 * adT l + adS l

theorem take_snoc (s : ByteArray) (k : Nat) (h : k < s.size) : s.data.toList.take (k + 1) = s.data.toList.take k ++ [s[k]] := by
  rw [List.take_succ_eq_append_getElem (by simpa using h)]; rfl

/- THE CRC: one step of the register; the number of all bits that are still to come, the register laid over it. -/
def stp (x : Nat) : Nat := (x / 2) ^^^ (3988292384 * (x % 2))
def stps : Nat → Nat → Nat
  | 0, x => x
  | k + 1, x => stp (stps k x)

theorem stp_lt (x : Nat) (h : x < 4294967296) : stp x < 4294967296 := by
  unfold stp
  have : x % 2 ≤ 1 := by omega
  exact Nat.xor_lt_two_pow (n := 32) (by omega) (by omega)
theorem stps_lt (k x : Nat) (h : x < 4294967296) : stps k x < 4294967296 := by
  induction k with
  | zero => exact h
  | succ k ih => exact stp_lt _ ih

theorem stp_xor (x y : Nat) : stp (x ^^^ 2 * y) = stp x ^^^ y := by
  unfold stp
  have h1 : (x ^^^ 2 * y) / 2 = x / 2 ^^^ y := by
    have h := Nat.shiftRight_xor_distrib (a := x) (b := 2 * y) (i := 1)
    simp only [Nat.shiftRight_eq_div_pow, Nat.pow_one] at h
    rw [h, Nat.mul_div_cancel_left _ (by omega)]
  have h2 : (x ^^^ 2 * y) % 2 = x % 2 := by
    have := Nat.xor_mod_two_pow (a := x) (b := 2 * y) (n := 1)
    simp only [Nat.pow_one] at this
    rw [this, Nat.mul_mod_right, Nat.xor_zero]
  rw [h1, h2, Nat.xor_assoc, Nat.xor_assoc, Nat.xor_comm y]

theorem stps_xor (k x y : Nat) : stps k (x ^^^ 2 ^ k * y) = stps k x ^^^ y := by
  induction k generalizing y with
  | zero => simp [stps]
  | succ k ih =>
    show stp (stps k _) = stp (stps k x) ^^^ y
    have e : 2 ^ (k + 1) * y = 2 ^ k * (2 * y) := by rw [Nat.pow_succ, Nat.mul_assoc]
    rw [e, ih, stp_xor]

theorem stps_add (a b x : Nat) : stps (a + b) x = stps b (stps a x) := by
  induction b with
  | zero => rfl
  | succ b ih => show stp (stps (a + b) x) = _; rw [ih]; rfl

/-- The register behind some bytes. -/
def reg : List UInt8 → Nat → Nat
  | [], r => r
  | c :: l, r => reg l (stps 8 (r ^^^ c.toNat))
theorem reg_snoc (l : List UInt8) (c : UInt8) (r : Nat) : reg (l ++ [c]) r = stps 8 (reg l r ^^^ c.toNat) := by
  induction l generalizing r with
  | nil => rfl
  | cons x l ih => exact ih _
def crcR (l : List UInt8) : Nat := reg l 4294967295
theorem xor_lt (a b : Nat) (ha : a < 4294967296) (hb : b < 4294967296) : a ^^^ b < 4294967296 := Nat.xor_lt_two_pow (n := 32) ha hb
theorem reg_lt (l : List UInt8) (r : Nat) (h : r < 4294967296) : reg l r < 4294967296 := by
  induction l generalizing r with
  | nil => exact h
  | cons c l ih => exact ih _ (stps_lt _ _ (xor_lt _ _ h (by have := c.toNat_lt; omega)))
theorem crcR_lt (l : List UInt8) : crcR l < 4294967296 := reg_lt l _ (by omega)
theorem crcR_snoc (l : List UInt8) (c : UInt8) : crcR (l ++ [c]) = stps 8 (crcR l ^^^ c.toNat) := reg_snoc l c _

/-- The bits of some bytes as one number, the first bit the lowest. -/
def num : List UInt8 → Nat
  | [] => 0
  | c :: l => c.toNat + 256 * num l

theorem low_xor (c y : Nat) (h : c < 256) : c + 256 * y = c ^^^ 256 * y := by
  have h8 := Nat.two_pow_add_eq_or_of_lt (i := 8) (b := c) h y
  rw [show (2 : Nat) ^ 8 = 256 from rfl] at h8
  have e2 : c ^^^ 256 * y = 256 * y ||| c := by
    apply Nat.eq_of_testBit_eq
    intro i
    rw [Nat.testBit_xor, Nat.testBit_or, show (256 : Nat) = 2 ^ 8 from rfl, Nat.testBit_two_pow_mul]
    by_cases hi : i < 8
    · simp [show ¬ i ≥ 8 by omega]
    · rw [Nat.testBit_lt_two_pow (x := c) (i := i) (Nat.lt_of_lt_of_le h (by show 2 ^ 8 ≤ _; exact Nat.pow_le_pow_right (by omega) (by omega)))]
      simp
  omega

/-- What all steps come to: the register's. -/
theorem stps_num (l : List UInt8) (r : Nat) : stps (8 * l.length) (num l ^^^ r) = reg l r := by
  induction l generalizing r with
  | nil => simp [stps, num, reg]
  | cons c l ih =>
    show stps (8 * (l.length + 1)) ((c.toNat + 256 * num l) ^^^ r) = reg l (stps 8 (r ^^^ c.toNat))
    rw [show 8 * (l.length + 1) = 8 + 8 * l.length by omega, stps_add, low_xor _ _ (by have := c.toNat_lt; omega)]
    rw [show c.toNat ^^^ 256 * num l ^^^ r = (r ^^^ c.toNat) ^^^ 2 ^ 8 * num l by rw [Nat.xor_comm _ r, ← Nat.xor_assoc], stps_xor, Nat.xor_comm, ih]

end Go.Proofs.YtmfijackgekioaaGreatDoor.Mx

namespace Go.Proofs.YtmfijackgekioaaGreatDoor.Mx
/-- The first bits of a byte, the lowest first. -/
def some (c : UInt8) (j : Nat) : List Int := (List.range j).map fun t => ((c.toNat / 2 ^ t % 2 : Nat) : Int)
theorem some_succ (c : UInt8) (j : Nat) : some c (j + 1) = some c j ++ [((c.toNat / 2 ^ j % 2 : Nat) : Int)] := by
  simp [some, List.range_succ]
theorem some_length (c : UInt8) (j : Nat) : (some c j).length = j := by simp [some]

/-- The bits of bytes, of each the lowest first. -/
def low : List UInt8 → List Int
  | [] => []
  | c :: l => some c 8 ++ low l
theorem low_snoc (l : List UInt8) (c : UInt8) : low (l ++ [c]) = low l ++ some c 8 := by
  induction l with
  | nil => simp [low]
  | cons x l ih => simp only [List.cons_append, low, ih, List.append_assoc]
theorem low_length (l : List UInt8) : (low l).length = 8 * l.length := by
  induction l with
  | nil => rfl
  | cons x l ih => simp only [low, List.length_append, some_length, ih, List.length_cons]; omega
end Go.Proofs.YtmfijackgekioaaGreatDoor.Mx

/-
  The document's unpacking as plain functions: the reference's text, call by call: no program, no world.
-/
namespace Go.Proofs.YtmfijackgekioaaGreatDoor.Rf

structure St where
  pos : Nat
  bad : Bool
  full : Bool
  out : List UInt8
  kinds : List Int

/-- The number of some bits, the lowest first. -/
def bv (L : List Int) (p : Nat) : Nat → Int
  | 0 => 0
  | k + 1 => bv L p k + L.getD (p + k) 0 * 2 ^ k

def Bits (L : List Int) : Prop := ∀ j, L.getD j 0 = 0 ∨ L.getD j 0 = 1

theorem bv_range {L : List Int} (h : Bits L) (p k : Nat) : 0 ≤ bv L p k ∧ bv L p k < 2 ^ k := by
  induction k with
  | zero => simp [bv]
  | succ k ih =>
    simp only [bv]
    have e : (2 : Int) ^ (k + 1) = 2 * 2 ^ k := by rw [Int.pow_succ]; omega
    rw [e]
    rcases h (p + k) with h | h <;> rw [h] <;> omega

def take (L : List Int) (st : St) (n : Nat) : Int × St :=
  if L.length < st.pos + n then (0, { st with bad := true }) else (bv L st.pos n, { st with pos := st.pos + n })

def room (limit : Int) (st : St) (n : Nat) : Bool × St :=
  if 0 < n ∧ limit < (st.out.length : Int) + n then (false, { st with full := true }) else (true, st)

/-- Codes of lengths: the next code, the last length, what is laid down. -/
structure Cs where
  next : Nat
  last : Nat
  out : List Int

def cIn (ls : List Int) (n : Nat) (c : Cs) : Nat → Cs
  | 0 => c
  | i + 1 =>
    let d := cIn ls n c i
    if ls.getD i 0 = n then { next := d.next * 2 ^ (n - d.last) + 1, last := n, out := d.out.set i (d.next * 2 ^ (n - d.last) : Nat) } else d
def cOut (ls : List Int) : Nat → Cs
  | 0 => { next := 0, last := 0, out := List.replicate ls.length 0 }
  | n + 1 => cIn ls (n + 1) (cOut ls n) ls.length
def codes (ls : List Int) : List Int := (cOut ls 15).out

theorem cIn_length (ls : List Int) (n : Nat) (c : Cs) (i : Nat) : (cIn ls n c i).out.length = c.out.length := by
  induction i with
  | zero => rfl
  | succ i ih => simp only [cIn]; split <;> simp [ih]
theorem cOut_length (ls : List Int) (n : Nat) : (cOut ls n).out.length = ls.length := by
  induction n with
  | zero => simp [cOut]
  | succ n ih => simp only [cOut, cIn_length, ih]
theorem codes_length (ls : List Int) : (codes ls).length = ls.length := cOut_length ls 15

/-- The place of a code. -/
def findFrom (ls code : List Int) (n v : Int) : Nat → Nat → Option Nat
  | 0, _ => none
  | f + 1, i => if ls.getD i 0 = n ∧ code.getD i 0 = v then some i else findFrom ls code n v f (i + 1)
def find (ls code : List Int) (n v : Int) : Option Nat := findFrom ls code n v ls.length 0

def symF (L ls code : List Int) : Nat → Nat → Int → St → Int × St
  | 0, _, _, st => (0, { st with bad := true })
  | f + 1, n, v, st =>
    let r := take L st 1
    if r.2.bad then (0, r.2) else
    match find ls code ((n : Int) + 1) (2 * v + r.1) with
    | some i => ((i : Int), r.2)
    | none => symF L ls code f (n + 1) (2 * v + r.1) r.2
def symbol (L ls code : List Int) (st : St) : Int × St := symF L ls code 15 0 0 st

/-- The bytes of a block of kind 0. -/
def plF (L : List Int) : Nat → St → St
  | 0, st => st
  | f + 1, st => if st.bad then st else
    let r := take L st 8
    plF L f { r.2 with out := r.2.out ++ [UInt8.ofNat r.1.toNat] }
def plain (L : List Int) (limit : Int) (st : St) : St :=
  let st1 := { st with pos := (st.pos + 7) / 8 * 8 }
  let a := take L st1 16
  let b := take L a.2 16
  let st3 := if a.1 + b.1 = 65535 then b.2 else { b.2 with bad := true }
  if st3.bad then st3 else
  let r := room limit st3 a.1.toNat
  if r.1 then plF L a.1.toNat r.2 else r.2

/-- The next code stays small. -/
theorem cIn_bound (ls : List Int) (n K : Nat) (c : Cs) (i : Nat) (h1 : c.next ≤ K * 2 ^ c.last) (h2 : c.last ≤ n) :
    (cIn ls n c i).next ≤ (K + i) * 2 ^ (cIn ls n c i).last ∧ (cIn ls n c i).last ≤ n := by
  induction i with
  | zero => exact ⟨by simpa [cIn] using h1, h2⟩
  | succ i ih =>
    simp only [cIn]
    split
    · refine ⟨?_, Nat.le_refl _⟩
      simp only
      have h3 : (cIn ls n c i).next * 2 ^ (n - (cIn ls n c i).last) ≤ (K + i) * 2 ^ n := by
        have := Nat.mul_le_mul_right (2 ^ (n - (cIn ls n c i).last)) ih.1
        rw [Nat.mul_assoc, ← Nat.pow_add, show (cIn ls n c i).last + (n - (cIn ls n c i).last) = n by omega] at this
        exact this
      have h4 : 1 ≤ 2 ^ n := Nat.one_le_two_pow
      rw [show K + (i + 1) = (K + i) + 1 by omega, Nat.add_mul]
      omega
    · refine ⟨Nat.le_trans ih.1 (Nat.mul_le_mul_right _ (by omega)), ih.2⟩
theorem cOut_bound (ls : List Int) (n : Nat) : (cOut ls n).next ≤ (ls.length * n) * 2 ^ (cOut ls n).last ∧ (cOut ls n).last ≤ n := by
  induction n with
  | zero => simp [cOut]
  | succ n ih =>
    have := cIn_bound ls (n + 1) (ls.length * n) (cOut ls n) ls.length ih.1 (by omega)
    simp only [cOut]
    rw [Nat.mul_succ]
    exact this
theorem pow_le (a b : Nat) (h : a ≤ b) : (2 : Nat) ^ a ≤ 2 ^ b := Nat.pow_le_pow_right (by omega) h
/-- What is laid down in a round is small. -/
theorem c_small (ls : List Int) (m i : Nat) (hm : m < 15) (hi : i ≤ ls.length) (hl : ls.length ≤ 320) :
    (cIn ls (m + 1) (cOut ls m) i).next ≤ 157286400 ∧ (cIn ls (m + 1) (cOut ls m) i).last ≤ m + 1 ∧ (cIn ls (m + 1) (cOut ls m) i).next * 2 ^ (m + 1 - (cIn ls (m + 1) (cOut ls m) i).last) ≤ 157286400 := by
  have hb := cOut_bound ls m
  have h := cIn_bound ls (m + 1) (ls.length * m) (cOut ls m) i hb.1 (by omega)
  generalize cIn ls (m + 1) (cOut ls m) i = c at *
  have hk : ls.length * m + i ≤ 4800 := by
    have : ls.length * m ≤ 320 * 14 := Nat.mul_le_mul hl (by omega)
    omega
  have hp : (2 : Nat) ^ (m + 1) ≤ 2 ^ 15 := pow_le _ _ (by omega)
  have hq : (2 : Nat) ^ c.last ≤ 2 ^ 15 := pow_le _ _ (by omega)
  have h3 : c.next * 2 ^ (m + 1 - c.last) ≤ (ls.length * m + i) * 2 ^ (m + 1) := by
    have := Nat.mul_le_mul_right (2 ^ (m + 1 - c.last)) h.1
    rw [Nat.mul_assoc, ← Nat.pow_add, show c.last + (m + 1 - c.last) = m + 1 by omega] at this
    exact this
  have h4 : (ls.length * m + i) * 2 ^ (m + 1) ≤ 4800 * 2 ^ 15 := Nat.mul_le_mul hk hp
  have h5 : (ls.length * m + i) * 2 ^ c.last ≤ 4800 * 2 ^ 15 := Nat.mul_le_mul hk hq
  exact ⟨by omega, h.2, by omega⟩

theorem take_one {L : List Int} (h : Bits L) (st : St) : 0 ≤ (take L st 1).1 ∧ (take L st 1).1 ≤ 1 := by
  unfold take; split
  · simp
  · have := bv_range h st.pos 1
    simp only
    omega
theorem take_pos (L : List Int) (st : St) (n : Nat) (h : st.pos ≤ L.length) : (take L st n).2.pos ≤ L.length := by
  unfold take; split
  · exact h
  · show st.pos + n ≤ _; omega

theorem find_at (ls code : List Int) (n v : Int) (f j : Nat) (h : ls.getD j 0 = n ∧ code.getD j 0 = v) : findFrom ls code n v (f + 1) j = some j := by rw [findFrom, if_pos h]
theorem find_on (ls code : List Int) (n v : Int) (f j : Nat) (h : ¬ (ls.getD j 0 = n ∧ code.getD j 0 = v)) : findFrom ls code n v (f + 1) j = findFrom ls code n v f (j + 1) := by rw [findFrom, if_neg h]

theorem take_range {L : List Int} (h : Bits L) (st : St) (n : Nat) : 0 ≤ (take L st n).1 ∧ (take L st n).1 < 2 ^ n := by
  unfold take; split
  · have h1 : (1 : Nat) ≤ 2 ^ n := Nat.one_le_two_pow
    have e : ((2 : Int) ^ n) = ((2 ^ n : Nat) : Int) := by simp
    rw [e]
    simp only
    omega
  · exact bv_range h st.pos n
theorem take_out (L : List Int) (st : St) (n : Nat) : (take L st n).2.out = st.out ∧ (take L st n).2.kinds = st.kinds ∧ (take L st n).2.full = st.full := by
  unfold take; split <;> simp
theorem room_out (limit : Int) (st : St) (n : Nat) : (room limit st n).2.out = st.out ∧ (room limit st n).2.kinds = st.kinds ∧ (room limit st n).2.pos = st.pos ∧ (room limit st n).2.bad = st.bad := by
  unfold room; split <;> simp

def fs (ls : List Int) : Nat → Nat
  | 0 => 0
  | k + 1 => fs ls k + if 0 < ls.getD k 0 then 32768 / 2 ^ (ls.getD k 0).toNat else 0
theorem fs_le (ls : List Int) (k : Nat) : fs ls k ≤ 32768 * k := by
  induction k with
  | zero => simp [fs]
  | succ k ih =>
    simp only [fs]
    split
    · have := Nat.div_le_self 32768 (2 ^ (ls.getD k 0).toNat)
      omega
    · omega
def full (ls : List Int) : Bool := decide (fs ls ls.length = 32768)

def fixL (i : Nat) : Int := if i < 144 then 8 else if i < 256 then 9 else if i < 280 then 7 else 8
def fixS : List Int := (List.range 288).map fixL
def fixD : List Int := (List.range 32).map fun _ => 5

def lsF (L ls cd : List Int) (n : Nat) : Nat → List Int → St → List Int × St
  | 0, out, st => (out, st)
  | f + 1, out, st =>
    if n ≤ out.length ∨ st.bad = true then (out, st) else
    let r := symbol L ls cd st
    if r.2.bad = true then ([], r.2)
    else if r.1 < 16 then lsF L ls cd n f (out ++ [r.1]) r.2
    else if r.1 = 16 then
      (if out = [] then ([], { (take L r.2 2).2 with bad := true }) else lsF L ls cd n f (out ++ List.replicate (3 + (take L r.2 2).1.toNat) (out.getD (out.length - 1) 0)) (take L r.2 2).2)
    else if r.1 = 17 then lsF L ls cd n f (out ++ List.replicate (3 + (take L r.2 3).1.toNat) 0) (take L r.2 3).2
    else lsF L ls cd n f (out ++ List.replicate (11 + (take L r.2 7).1.toNat) 0) (take L r.2 7).2
def listed (L ls : List Int) (n : Nat) (st : St) : List Int × St :=
  let r := lsF L ls (codes ls) n (n + 1) [] st
  if r.1.length = n then r else (r.1, { r.2 with bad := true })

/-- What a symbol's search answers lies among the codes. -/
theorem findFrom_lt (ls cd : List Int) (n v : Int) : ∀ (f i j : Nat), findFrom ls cd n v f i = some j → j < i + f
  | 0, _, _, h => by simp [findFrom] at h
  | f + 1, i, j, h => by
    rw [findFrom] at h
    split at h
    · cases h; omega
    · have := findFrom_lt ls cd n v f (i + 1) j h; omega
theorem symF_range (L ls cd : List Int) : ∀ (f n : Nat) (v : Int) (st : St), 0 ≤ (symF L ls cd f n v st).1 ∧ ((symF L ls cd f n v st).2.bad = false → (symF L ls cd f n v st).1 < ls.length)
  | 0, _, _, st => by simp [symF]
  | f + 1, n, v, st => by
    rw [symF]
    split
    · rename_i h
      simp only
      exact ⟨Int.le_refl _, fun h2 => by rw [h] at h2; cases h2⟩
    · split
      · rename_i i hi
        have := findFrom_lt ls cd _ _ _ _ _ hi
        exact ⟨by simp only; omega, fun _ => by simp only; omega⟩
      · exact symF_range L ls cd f (n + 1) _ _
theorem symbol_range (L ls cd : List Int) (st : St) : 0 ≤ (symbol L ls cd st).1 ∧ ((symbol L ls cd st).2.bad = false → (symbol L ls cd st).1 < ls.length) := symF_range L ls cd 15 0 0 st

def lenOf (L : List Int) (i : Nat) (st : St) : Nat × St :=
  if i = 28 then (258, st) else if 8 ≤ i then ((4 + i % 4) * 2 ^ (i / 4 - 1) + 3 + (take L st (i / 4 - 1)).1.toNat, (take L st (i / 4 - 1)).2) else (i + 3, st)
def distOf (L : List Int) (j : Nat) (st : St) : Nat × St :=
  if 4 ≤ j then ((2 + j % 2) * 2 ^ (j / 2 - 1) + 1 + (take L st (j / 2 - 1)).1.toNat, (take L st (j / 2 - 1)).2) else (j + 1, st)
def cpF (d : Nat) : Nat → List UInt8 → List UInt8
  | 0, o => o
  | k + 1, o => cpF d k (o ++ [o.getD (o.length - d) 0])
def copied (L : List Int) (limit : Int) (i : Nat) (far code : List Int) (st : St) : St :=
  if (lenOf L i st).2.bad = true then (lenOf L i st).2 else
  if (symbol L far code (lenOf L i st).2).2.bad = true ∨ 29 < (symbol L far code (lenOf L i st).2).1 then { (symbol L far code (lenOf L i st).2).2 with bad := true } else
  if (distOf L (symbol L far code (lenOf L i st).2).1.toNat (symbol L far code (lenOf L i st).2).2).2.bad = true ∨
      (distOf L (symbol L far code (lenOf L i st).2).1.toNat (symbol L far code (lenOf L i st).2).2).2.out.length < (distOf L (symbol L far code (lenOf L i st).2).1.toNat (symbol L far code (lenOf L i st).2).2).1 then
    { (distOf L (symbol L far code (lenOf L i st).2).1.toNat (symbol L far code (lenOf L i st).2).2).2 with bad := true } else
  if (room limit (distOf L (symbol L far code (lenOf L i st).2).1.toNat (symbol L far code (lenOf L i st).2).2).2 (lenOf L i st).1).1 = true then
    { (room limit (distOf L (symbol L far code (lenOf L i st).2).1.toNat (symbol L far code (lenOf L i st).2).2).2 (lenOf L i st).1).2 with
      out := cpF (distOf L (symbol L far code (lenOf L i st).2).1.toNat (symbol L far code (lenOf L i st).2).2).1 (lenOf L i st).1 (room limit (distOf L (symbol L far code (lenOf L i st).2).1.toNat (symbol L far code (lenOf L i st).2).2).2 (lenOf L i st).1).2.out }
  else (room limit (distOf L (symbol L far code (lenOf L i st).2).1.toNat (symbol L far code (lenOf L i st).2).2).2 (lenOf L i st).1).2

theorem symF_out (L ls cd : List Int) : ∀ (f n : Nat) (v : Int) (st : St), (symF L ls cd f n v st).2.out = st.out ∧ (symF L ls cd f n v st).2.kinds = st.kinds ∧ (symF L ls cd f n v st).2.full = st.full
  | 0, _, _, st => by simp [symF]
  | f + 1, n, v, st => by
    have h := take_out L st 1
    rw [symF]
    split
    · exact h
    · split
      · exact h
      · have h2 := symF_out L ls cd f (n + 1) (2 * v + (take L st 1).1) (take L st 1).2
        exact ⟨h2.1.trans h.1, h2.2.1.trans h.2.1, h2.2.2.trans h.2.2⟩
theorem symbol_out (L ls cd : List Int) (st : St) : (symbol L ls cd st).2.out = st.out ∧ (symbol L ls cd st).2.kinds = st.kinds ∧ (symbol L ls cd st).2.full = st.full := symF_out L ls cd 15 0 0 st

end Go.Proofs.YtmfijackgekioaaGreatDoor.Rf

/-
  Symbols up to a block's end; what grows, and how far.
-/
namespace Go.Proofs.YtmfijackgekioaaGreatDoor.Rf

def symsF (L : List Int) (limit : Int) (ls cd far fcd : List Int) : Nat → St → St
  | 0, st => st
  | f + 1, st =>
    if (st.bad || st.full) = true then st else
    if (symbol L ls cd st).2.bad = true ∨ (symbol L ls cd st).1 = 256 then (symbol L ls cd st).2
    else if (symbol L ls cd st).1 < 256 then
      symsF L limit ls cd far fcd f (if (room limit (symbol L ls cd st).2 1).1 = true then { (room limit (symbol L ls cd st).2 1).2 with out := (room limit (symbol L ls cd st).2 1).2.out ++ [UInt8.ofNat (symbol L ls cd st).1.toNat] } else (room limit (symbol L ls cd st).2 1).2)
    else if 285 < (symbol L ls cd st).1 then symsF L limit ls cd far fcd f { (symbol L ls cd st).2 with bad := true }
    else symsF L limit ls cd far fcd f (copied L limit ((symbol L ls cd st).1 - 257).toNat far fcd (symbol L ls cd st).2)
def symbols (L : List Int) (limit : Int) (ls far : List Int) (st : St) : St := symsF L limit ls (codes ls) far (codes far) (L.length + 2) st

theorem take_mono (L : List Int) (st : St) (n : Nat) : st.pos ≤ (take L st n).2.pos := by
  unfold take; split
  · exact Nat.le_refl _
  · show st.pos ≤ st.pos + n; omega
theorem take_bad (L : List Int) (st : St) (n : Nat) (h : (take L st n).2.bad = false) : (take L st n).2.pos = st.pos + n ∧ st.bad = false := by
  unfold take at *; split at h
  · cases h
  · rename_i hn; rw [if_neg hn]; exact ⟨rfl, h⟩
theorem symF_mono (L ls cd : List Int) : ∀ (f n : Nat) (v : Int) (st : St), st.pos ≤ (symF L ls cd f n v st).2.pos
  | 0, _, _, st => by simp [symF]
  | f + 1, n, v, st => by
    have h := take_mono L st 1
    rw [symF]
    split
    · exact h
    · split
      · exact h
      · exact Nat.le_trans h (symF_mono L ls cd f _ _ _)
theorem symF_pos (L ls cd : List Int) : ∀ (f n : Nat) (v : Int) (st : St), (symF L ls cd f n v st).2.bad = false → st.pos < (symF L ls cd f n v st).2.pos
  | 0, _, _, st => by simp [symF]
  | f + 1, n, v, st => by
    rw [symF]
    split
    · rename_i h; intro h2; simp only at h2; rw [h] at h2; cases h2
    · rename_i h
      have hb := take_bad L st 1 (by simpa using h)
      split
      · intro _; simp only; omega
      · intro _
        have := symF_mono L ls cd f (n + 1) (2 * v + (take L st 1).1) (take L st 1).2
        omega
theorem symbol_pos (L ls cd : List Int) (st : St) (h : (symbol L ls cd st).2.bad = false) : st.pos < (symbol L ls cd st).2.pos := symF_pos L ls cd 15 0 0 st h
theorem symbol_mono (L ls cd : List Int) (st : St) : st.pos ≤ (symbol L ls cd st).2.pos := symF_mono L ls cd 15 0 0 st
theorem symF_le (L ls cd : List Int) : ∀ (f n : Nat) (v : Int) (st : St), st.pos ≤ L.length → (symF L ls cd f n v st).2.pos ≤ L.length
  | 0, _, _, st, h => by simpa [symF] using h
  | f + 1, n, v, st, h => by
    have h1 := take_pos L st 1 h
    rw [symF]
    split
    · exact h1
    · split
      · exact h1
      · exact symF_le L ls cd f _ _ _ h1
theorem cpF_length (d : Nat) : ∀ (k : Nat) (o : List UInt8), (cpF d k o).length = o.length + k
  | 0, o => rfl
  | k + 1, o => by rw [cpF, cpF_length d k]; simp; omega
theorem lenOf_le {L : List Int} (hb : Bits L) (i : Nat) (hi : i ≤ 28) (st : St) : (lenOf L i st).1 ≤ 258 ∧ st.pos ≤ (lenOf L i st).2.pos ∧ (lenOf L i st).2.out = st.out := by
  unfold lenOf
  split
  · simp
  · split
    · rename_i h1 h2
      have ht := take_range hb st (i / 4 - 1)
      have hs : ∀ i : Nat, i < 28 → 8 ≤ i → (4 + i % 4) * 2 ^ (i / 4 - 1) + 2 ^ (i / 4 - 1) ≤ 256 := by decide +kernel
      have hs := hs i (by omega) h2
      have e : ((2 : Int) ^ (i / 4 - 1)) = ((2 ^ (i / 4 - 1) : Nat) : Int) := by simp
      rw [e] at ht
      refine ⟨?_, take_mono L st _, (take_out L st _).1⟩
      simp only
      omega
    · simp; omega
theorem distOf_le (L : List Int) (j : Nat) (st : St) : st.pos ≤ (distOf L j st).2.pos ∧ (distOf L j st).2.out = st.out := by
  unfold distOf
  split
  · exact ⟨take_mono L st _, (take_out L st _).1⟩
  · simp
theorem copied_le {L : List Int} (hb : Bits L) (limit : Int) (i : Nat) (hi : i ≤ 28) (far code : List Int) (st : St) :
    st.pos ≤ (copied L limit i far code st).pos ∧ (copied L limit i far code st).out.length ≤ st.out.length + 258 := by
  have h1 := lenOf_le hb i hi st
  unfold copied
  generalize lenOf L i st = A at *
  have h2 := symbol_mono L far code A.2
  have h3 := (symbol_out L far code A.2).1
  generalize symbol L far code A.2 = S at *
  have h4 := distOf_le L S.1.toNat S.2
  generalize distOf L S.1.toNat S.2 = D at *
  have h5 := room_out limit D.2 A.1
  generalize room limit D.2 A.1 = R at *
  repeat' split
  · exact ⟨h1.2.1, by rw [h1.2.2]; omega⟩
  · exact ⟨by simp only; omega, by simp only; rw [h3, h1.2.2]; omega⟩
  · exact ⟨by simp only; omega, by simp only; rw [h4.2, h3, h1.2.2]; omega⟩
  · exact ⟨by simp only; rw [h5.2.2.1]; omega, by simp only; rw [cpF_length, h5.1, h4.2, h3, h1.2.2]; omega⟩
  · exact ⟨by rw [h5.2.2.1]; omega, by rw [h5.1, h4.2, h3, h1.2.2]; omega⟩

end Go.Proofs.YtmfijackgekioaaGreatDoor.Rf

/-
  A block of kind 2, as plain functions.
-/
namespace Go.Proofs.YtmfijackgekioaaGreatDoor.Rf

def order : List Nat := [16, 17, 18, 0, 8, 7, 9, 6, 10, 5, 11, 4, 12, 3, 13, 2, 14, 1, 15]
def lenF (L : List Int) : Nat → Nat → List Int → St → List Int × St
  | 0, _, ls, st => (ls, st)
  | f + 1, i, ls, st => if st.bad = true then (ls, st) else lenF L f (i + 1) (ls.set (order.getD i 0) (take L st 3).1) (take L st 3).2
def sumF (far : List Int) : Nat → Int
  | 0 => 0
  | k + 1 => sumF far k + far.getD k 0
def onesF (far : List Int) : Nat → Nat
  | 0 => 0
  | k + 1 => onesF far k + if far.getD k 0 = 1 then 1 else 0
/-- The lists of a block of kind 2 may not be. -/
def badLists (l far : List Int) : Bool :=
  decide (l.getD 256 0 = 0) || !full l || (!full far && (decide (sumF far far.length ≠ 0) && (decide (sumF far far.length ≠ 1) || decide (onesF far far.length ≠ 1))))
def own (L : List Int) (limit : Int) (st : St) : St :=
  let h := take L st 5
  let d := take L h.2 5
  let k := take L d.2 4
  let q := lenF L (k.1.toNat + 4) 0 (List.replicate 19 0) k.2
  if q.2.bad = true ∨ 29 < h.1 ∨ 29 < d.1 ∨ full q.1 = false then { q.2 with bad := true } else
  let a := listed L q.1 (h.1 + d.1 + 258).toNat q.2
  if a.2.bad = true then a.2 else
  if badLists (a.1.take (h.1.toNat + 257)) (a.1.drop (h.1.toNat + 257)) = true then { a.2 with bad := true } else
  symbols L limit (a.1.take (h.1.toNat + 257)) (a.1.drop (h.1.toNat + 257)) a.2

theorem order_lt : ∀ i, order.getD i 0 < 19 := by
  intro i
  by_cases h : i < 19
  · exact (show ∀ i, i < 19 → order.getD i 0 < 19 by decide) i h
  · have e : order.getD i 0 = 0 := by
      have hl : order.length ≤ i := by simp [order]; omega
      simp [List.getD, List.getElem?_eq_none hl]
    omega

/-- All entries lie between two numbers. -/
def Within (ls : List Int) (b : Int) : Prop := ∀ j, 0 ≤ ls.getD j 0 ∧ ls.getD j 0 ≤ b
theorem within_replicate (n : Nat) (b : Int) (hb : 0 ≤ b) : Within (List.replicate n 0) b := by
  intro j
  have : (List.replicate n (0 : Int)).getD j 0 = 0 := by simp [List.getD, List.getElem?_replicate]; split <;> rfl
  omega
theorem within_set {ls : List Int} {b : Int} (h : Within ls b) (i : Nat) (x : Int) (hx : 0 ≤ x ∧ x ≤ b) : Within (ls.set i x) b := by
  intro j
  have := h j
  simp only [List.getD, List.getElem?_set] at *
  split
  · split
    · simpa using hx
    · simp; omega
  · exact this
theorem within_append {a c : List Int} {b : Int} (h1 : Within a b) (h2 : Within c b) : Within (a ++ c) b := by
  intro j
  by_cases hj : j < a.length
  · have := h1 j
    simpa [List.getD, List.getElem?_append_left hj] using this
  · have := h2 (j - a.length)
    simpa [List.getD, List.getElem?_append_right (show a.length ≤ j by omega)] using this
theorem within_rep (n : Nat) (x b : Int) (hx : 0 ≤ x ∧ x ≤ b) : Within (List.replicate n x) b := by
  intro j
  simp only [List.getD, List.getElem?_replicate]
  split
  · simpa using hx
  · simp; omega
theorem within_take {ls : List Int} {b : Int} (h : Within ls b) (n : Nat) (hb : 0 ≤ b) : Within (ls.take n) b := by
  intro j
  simp only [List.getD, List.getElem?_take]
  split
  · exact h j
  · simp; omega
theorem within_drop {ls : List Int} {b : Int} (h : Within ls b) (n : Nat) : Within (ls.drop n) b := by
  intro j
  have := h (n + j)
  simpa [List.getD, List.getElem?_drop] using this

theorem lenF_length (L : List Int) : ∀ (f i : Nat) (ls : List Int) (st : St), (lenF L f i ls st).1.length = ls.length
  | 0, _, _, _ => rfl
  | f + 1, i, ls, st => by
    rw [lenF]; split
    · rfl
    · rw [lenF_length L f]; simp
theorem lenF_within {L : List Int} (hb : Bits L) : ∀ (f i : Nat) (ls : List Int) (st : St), Within ls 7 → Within (lenF L f i ls st).1 7
  | 0, _, _, _, h => h
  | f + 1, i, ls, st, h => by
    rw [lenF]; split
    · exact h
    · have ht := take_range hb st 3
      exact lenF_within hb f _ _ _ (within_set h _ _ ⟨ht.1, by omega⟩)
theorem lsF_within {L : List Int} (hb : Bits L) (ls cd : List Int) (hl : ls.length = 19) (n : Nat) : ∀ (f : Nat) (out : List Int) (st : St), Within out 15 → Within (lsF L ls cd n f out st).1 15
  | 0, _, _, h => h
  | f + 1, out, st, h => by
    have hs := symbol_range L ls cd st
    have h0 : Within [] 15 := fun j => by simp
    simp only [lsF]
    split
    · exact h
    · split
      · exact h0
      · rename_i hbad
        split
        · rename_i h16
          refine lsF_within hb ls cd hl n f _ _ (within_append h ?_)
          exact within_rep 1 _ 15 ⟨hs.1, by omega⟩
        · split
          · split
            · exact h0
            · exact lsF_within hb ls cd hl n f _ _ (within_append h (within_rep _ _ 15 (h _)))
          · split
            · exact lsF_within hb ls cd hl n f _ _ (within_append h (within_rep _ _ 15 (by omega)))
            · exact lsF_within hb ls cd hl n f _ _ (within_append h (within_rep _ _ 15 (by omega)))
theorem listed_within {L : List Int} (hb : Bits L) (ls : List Int) (hl : ls.length = 19) (n : Nat) (st : St) : Within (listed L ls n st).1 15 := by
  have h := lsF_within hb ls (codes ls) hl n (n + 1) [] st (fun j => by simp)
  unfold listed
  simp only
  split
  · exact h
  · exact h

end Go.Proofs.YtmfijackgekioaaGreatDoor.Rf
