/-
  Plain mathematics of the two sums: no program, no world.
-/
namespace Go.Proofs.Ytmfijackgekioaa.Mx

/-- Adler's two numbers behind some bytes. -/
def ad : List UInt8 → Int × Int → Int × Int
  | [], p => p
  | c :: r, p => ad r ((p.1 + c.toNat) % 65521, (p.2 + (p.1 + c.toNat) % 65521) % 65521)

theorem ad_snoc (l : List UInt8) (c : UInt8) (p : Int × Int) :
    ad (l ++ [c]) p = (((ad l p).1 + c.toNat) % 65521, ((ad l p).2 + ((ad l p).1 + c.toNat) % 65521) % 65521) := by
  induction l generalizing p with
  | nil => rfl
  | cons x r ih => exact ih _

def adS (l : List UInt8) : Int := (ad l (1, 0)).1
def adT (l : List UInt8) : Int := (ad l (1, 0)).2

theorem ad_range (l : List UInt8) (p : Int × Int) (h1 : 0 ≤ p.1 ∧ p.1 ≤ 65520) (h2 : 0 ≤ p.2 ∧ p.2 ≤ 65520) :
    (0 ≤ (ad l p).1 ∧ (ad l p).1 ≤ 65520) ∧ (0 ≤ (ad l p).2 ∧ (ad l p).2 ≤ 65520) := by
  induction l generalizing p with
  | nil => exact ⟨h1, h2⟩
  | cons x r ih => exact ih _ (by simp only; omega) (by simp only; omega)

theorem adS_range (l : List UInt8) : 0 ≤ adS l ∧ adS l ≤ 65520 := (ad_range l (1, 0) (by simp) (by simp)).1
theorem adT_range (l : List UInt8) : 0 ≤ adT l ∧ adT l ≤ 65520 := (ad_range l (1, 0) (by simp) (by simp)).2
theorem adS_snoc (l : List UInt8) (c : UInt8) : adS (l ++ [c]) = (adS l + c.toNat) % 65521 := by simp only [adS, ad_snoc]
theorem adT_snoc (l : List UInt8) (c : UInt8) : adT (l ++ [c]) = (adT l + (adS l + c.toNat) % 65521) % 65521 := by simp only [adS, adT, ad_snoc]

def adler (l : List UInt8) : Int := 65536 * adT l + adS l

theorem take_snoc (s : ByteArray) (k : Nat) (h : k < s.size) : s.data.toList.take (k + 1) = s.data.toList.take k ++ [s[k]] := by
  rw [List.take_succ_eq_append_getElem (by simpa using h)]; rfl

/- THE CRC: one step of the register; the number of all bits that are still to come, the register laid over it. -/
def stp (x : Nat) : Nat := (x / 2) ^^^ (3988292384 * (x % 2))
def stps : Nat → Nat → Nat
  | 0, x => x
  | k + 1, x => stp (stps k x)

theorem stp_lt (x : Nat) (h : x < 4294967296) : stp x < 4294967296 := by
  unfold stp
  have : x % 2 ≤ 1 := by omega
  exact Nat.xor_lt_two_pow (n := 32) (by omega) (by omega)
theorem stps_lt (k x : Nat) (h : x < 4294967296) : stps k x < 4294967296 := by
  induction k with
  | zero => exact h
  | succ k ih => exact stp_lt _ ih

theorem stp_xor (x y : Nat) : stp (x ^^^ 2 * y) = stp x ^^^ y := by
  unfold stp
  have h1 : (x ^^^ 2 * y) / 2 = x / 2 ^^^ y := by
    have h := Nat.shiftRight_xor_distrib (a := x) (b := 2 * y) (i := 1)
    simp only [Nat.shiftRight_eq_div_pow, Nat.pow_one] at h
    rw [h, Nat.mul_div_cancel_left _ (by omega)]
  have h2 : (x ^^^ 2 * y) % 2 = x % 2 := by
    have := Nat.xor_mod_two_pow (a := x) (b := 2 * y) (n := 1)
    simp only [Nat.pow_one] at this
    rw [this, Nat.mul_mod_right, Nat.xor_zero]
  rw [h1, h2, Nat.xor_assoc, Nat.xor_assoc, Nat.xor_comm y]

theorem stps_xor (k x y : Nat) : stps k (x ^^^ 2 ^ k * y) = stps k x ^^^ y := by
  induction k generalizing y with
  | zero => simp [stps]
  | succ k ih =>
    show stp (stps k _) = stp (stps k x) ^^^ y
    have e : 2 ^ (k + 1) * y = 2 ^ k * (2 * y) := by rw [Nat.pow_succ, Nat.mul_assoc]
    rw [e, ih, stp_xor]

theorem stps_add (a b x : Nat) : stps (a + b) x = stps b (stps a x) := by
  induction b with
  | zero => rfl
  | succ b ih => show stp (stps (a + b) x) = _; rw [ih]; rfl

/-- The register behind some bytes. -/
def reg : List UInt8 → Nat → Nat
  | [], r => r
  | c :: l, r => reg l (stps 8 (r ^^^ c.toNat))
theorem reg_snoc (l : List UInt8) (c : UInt8) (r : Nat) : reg (l ++ [c]) r = stps 8 (reg l r ^^^ c.toNat) := by
  induction l generalizing r with
  | nil => rfl
  | cons x l ih => exact ih _
def crcR (l : List UInt8) : Nat := reg l 4294967295
theorem xor_lt (a b : Nat) (ha : a < 4294967296) (hb : b < 4294967296) : a ^^^ b < 4294967296 := Nat.xor_lt_two_pow (n := 32) ha hb
theorem reg_lt (l : List UInt8) (r : Nat) (h : r < 4294967296) : reg l r < 4294967296 := by
  induction l generalizing r with
  | nil => exact h
  | cons c l ih => exact ih _ (stps_lt _ _ (xor_lt _ _ h (by have := c.toNat_lt; omega)))
theorem crcR_lt (l : List UInt8) : crcR l < 4294967296 := reg_lt l _ (by omega)
theorem crcR_snoc (l : List UInt8) (c : UInt8) : crcR (l ++ [c]) = stps 8 (crcR l ^^^ c.toNat) := reg_snoc l c _

/-- The bits of some bytes as one number, the first bit the lowest. -/
def num : List UInt8 → Nat
  | [] => 0
  | c :: l => c.toNat + 256 * num l

theorem low_xor (c y : Nat) (h : c < 256) : c + 256 * y = c ^^^ 256 * y := by
  have h8 := Nat.two_pow_add_eq_or_of_lt (i := 8) (b := c) h y
  rw [show (2 : Nat) ^ 8 = 256 from rfl] at h8
  have e2 : c ^^^ 256 * y = 256 * y ||| c := by
    apply Nat.eq_of_testBit_eq
    intro i
    rw [Nat.testBit_xor, Nat.testBit_or, show (256 : Nat) = 2 ^ 8 from rfl, Nat.testBit_two_pow_mul]
    by_cases hi : i < 8
    · simp [show ¬ i ≥ 8 by omega]
    · rw [Nat.testBit_lt_two_pow (x := c) (i := i) (Nat.lt_of_lt_of_le h (by show 2 ^ 8 ≤ _; exact Nat.pow_le_pow_right (by omega) (by omega)))]
      simp
  omega

/-- What all steps come to: the register's. -/
theorem stps_num (l : List UInt8) (r : Nat) : stps (8 * l.length) (num l ^^^ r) = reg l r := by
  induction l generalizing r with
  | nil => simp [stps, num, reg]
  | cons c l ih =>
    show stps (8 * (l.length + 1)) ((c.toNat + 256 * num l) ^^^ r) = reg l (stps 8 (r ^^^ c.toNat))
    rw [show 8 * (l.length + 1) = 8 + 8 * l.length by omega, stps_add, low_xor _ _ (by have := c.toNat_lt; omega)]
    rw [show c.toNat ^^^ 256 * num l ^^^ r = (r ^^^ c.toNat) ^^^ 2 ^ 8 * num l by rw [Nat.xor_comm _ r, ← Nat.xor_assoc], stps_xor, Nat.xor_comm, ih]

end Go.Proofs.Ytmfijackgekioaa.Mx

namespace Go.Proofs.Ytmfijackgekioaa.Mx
/-- The first bits of a byte, the lowest first. -/
def some (c : UInt8) (j : Nat) : List Int := (List.range j).map fun t => ((c.toNat / 2 ^ t % 2 : Nat) : Int)
theorem some_succ (c : UInt8) (j : Nat) : some c (j + 1) = some c j ++ [((c.toNat / 2 ^ j % 2 : Nat) : Int)] := by
  simp [some, List.range_succ]
theorem some_length (c : UInt8) (j : Nat) : (some c j).length = j := by simp [some]

/-- The bits of bytes, of each the lowest first. -/
def low : List UInt8 → List Int
  | [] => []
  | c :: l => some c 8 ++ low l
theorem low_snoc (l : List UInt8) (c : UInt8) : low (l ++ [c]) = low l ++ some c 8 := by
  induction l with
  | nil => simp [low]
  | cons x l ih => simp only [List.cons_append, low, ih, List.append_assoc]
theorem low_length (l : List UInt8) : (low l).length = 8 * l.length := by
  induction l with
  | nil => rfl
  | cons x l ih => simp only [low, List.length_append, some_length, ih, List.length_cons]; omega
end Go.Proofs.Ytmfijackgekioaa.Mx
