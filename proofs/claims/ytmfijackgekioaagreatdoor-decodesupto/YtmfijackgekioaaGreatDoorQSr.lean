import Derived.Test.YtmfijackgekioaaGreatDoorQSmRo4

/-
  Plain mathematics of the long division: rows of bits as functions.
-/
namespace Go.Proofs.YtmfijackgekioaaGreatDoor.Mx

def bit (x p : Nat) : Int := if x.testBit p then 1 else 0
theorem bit_01 (x p : Nat) : bit x p = 0 ∨ bit x p = 1 := by unfold bit; split <;> simp
theorem bit_range (x p : Nat) : 0 ≤ bit x p ∧ bit x p ≤ 1 := by rcases bit_01 x p with h | h <;> omega
theorem bit_zero (x : Nat) : bit x 0 = (x % 2 : Nat) := by
  unfold bit; rw [Nat.testBit_zero]; rcases Nat.mod_two_eq_zero_or_one x with h | h <;> simp [h]

theorem set_range {α : Type} (N p : Nat) (g : Nat → α) (u : α) :
    ((List.range N).map g).set p u = (List.range N).map (fun q => if q = p then u else g q) := by
  apply List.ext_getElem
  · simp
  · intro q h1 h2
    simp only [List.getElem_set, List.getElem_map, List.getElem_range]
    by_cases h : p = q
    · simp [h]
    · rw [if_neg h, if_neg (fun e => h e.symm)]

/-- The row while the division has come to place i: noughts, and behind them the bits of a number. -/
def val (i x p : Nat) : Int := if p < i then 0 else bit x (p - i)
theorem val_range (i x p : Nat) : 0 ≤ val i x p ∧ val i x p ≤ 1 := by
  unfold val; split
  · omega
  · exact bit_range _ _

theorem val_zero (x p : Nat) : val 0 x p = bit x p := by simp [val]

/-- The row while its first places are turned over. -/
def trn (k x p : Nat) : Int := if p < k then 1 - bit x p else bit x p
theorem trn_zero (x p : Nat) : trn 0 x p = bit x p := by simp [trn]
theorem trn_range (k x p : Nat) : 0 ≤ trn k x p ∧ trn k x p ≤ 1 := by
  have := bit_range x p; unfold trn; split <;> omega
theorem trn_self (k x : Nat) : trn k x k = bit x k := by simp [trn]
theorem trn_succ (k x p : Nat) : trn (k + 1) x p = if p = k then 1 - trn k x k else trn k x p := by
  unfold trn
  by_cases h : p = k
  · subst h; simp
  · by_cases h2 : p < k
    · simp [h, h2, show p < k + 1 by omega]
    · simp [h, h2, show ¬ p < k + 1 by omega]
theorem trn_all (x p : Nat) : trn 32 x p = val 0 (x ^^^ 4294967295) p := by
  rw [val_zero]
  unfold trn bit
  rw [Nat.testBit_xor, show 4294967295 = 2 ^ 32 - 1 from rfl, Nat.testBit_two_pow_sub_one]
  by_cases h : p < 32 <;> cases x.testBit p <;> simp [h]

theorem half_bit (x p : Nat) : bit (x / 2) p = bit x (p + 1) := by
  unfold bit; rw [Nat.testBit_succ]

theorem val_even (i x p : Nat) (h : bit x 0 = 0) : val (i + 1) (stp x) p = val i x p := by
  have h2 : x % 2 = 0 := by rw [bit_zero] at h; omega
  have e : stp x = x / 2 := by unfold stp; rw [h2]; simp
  rw [e]
  unfold val
  by_cases h1 : p < i
  · simp [h1, show p < i + 1 by omega]
  · by_cases h3 : p = i
    · subst h3; simp [h]
    · rw [if_neg (by omega), if_neg h1, half_bit]
      congr 1; omega
theorem val_wipe (i x p : Nat) : (if p = i then 0 else val i x p) = val (i + 1) (x / 2) p := by
  unfold val
  by_cases h1 : p < i
  · simp [h1, show p < i + 1 by omega]
  · by_cases h3 : p = i
    · subst h3; simp
    · rw [if_neg h3, if_neg (by omega), if_neg (by omega), half_bit]
      congr 1; omega

/-- The part of the polynomial that has been laid down. -/
def pm : Nat → Nat
  | 0 => 0
  | k + 1 => if Nat.testBit 79764919 k then pm k ^^^ 2 ^ (31 - k) else pm k
theorem pm_all : pm 32 = 3988292384 := by decide

theorem val_flip (i y k p : Nat) (_hk : k < 32) : val (i + 1) (y ^^^ 2 ^ (31 - k)) p = if p = i + 32 - k then 1 - val (i + 1) y (i + 32 - k) else val (i + 1) y p := by
  unfold val
  by_cases h1 : p < i + 1
  · rw [if_pos h1, if_neg (by omega), if_pos h1]
  · rw [if_neg h1]
    by_cases h2 : p = i + 32 - k
    · rw [if_pos h2, if_neg (by omega)]
      subst h2
      unfold bit
      rw [Nat.testBit_xor, Nat.testBit_two_pow, show i + 32 - k - (i + 1) = 31 - k by omega]
      cases y.testBit (31 - k) <;> simp
    · rw [if_neg h2, if_neg h1]
      unfold bit
      rw [Nat.testBit_xor, Nat.testBit_two_pow]
      have : decide (31 - k = p - (i + 1)) = false := by simp; omega
      rw [this]; simp

theorem odd_all (x : Nat) (h : bit x 0 = 1) : x / 2 ^^^ pm 32 = stp x := by
  have h2 : x % 2 = 1 := by rw [bit_zero] at h; omega
  unfold stp; rw [h2, pm_all]

/-- The bits of bytes are the bits of their number. -/
theorem some_bits (c : UInt8) : some c 8 = (List.range 8).map (bit c.toNat) := by
  unfold some
  apply List.map_congr_left
  intro t _
  unfold bit
  rw [Nat.testBit_eq_decide_div_mod_eq]
  rcases Nat.mod_two_eq_zero_or_one (c.toNat / 2 ^ t) with h | h <;> simp [h]

theorem bit_num_low (c : UInt8) (y p : Nat) (h : p < 8) : bit (c.toNat + 256 * y) p = bit c.toNat p := by
  unfold bit
  rw [low_xor _ _ (by have := c.toNat_lt; omega), Nat.testBit_xor, show (256 : Nat) = 2 ^ 8 from rfl, Nat.testBit_two_pow_mul]
  simp [show ¬ 8 ≤ p by omega]
theorem bit_num_high (c : UInt8) (y p : Nat) : bit (c.toNat + 256 * y) (8 + p) = bit y p := by
  unfold bit
  have h : c.toNat.testBit (8 + p) = false := Nat.testBit_lt_two_pow (Nat.lt_of_lt_of_le (m := 2 ^ 8) c.toNat_lt (Nat.pow_le_pow_right (by omega) (by omega)))
  rw [low_xor _ _ (by have := c.toNat_lt; omega), Nat.testBit_xor, h, show (256 : Nat) = 2 ^ 8 from rfl, Nat.testBit_two_pow_mul]
  simp

theorem low_bits (l : List UInt8) : low l = (List.range (8 * l.length)).map (bit (num l)) := by
  induction l with
  | nil => rfl
  | cons c l ih =>
    simp only [low, num, List.length_cons]
    rw [show 8 * (l.length + 1) = 8 + 8 * l.length by omega, List.range_add, List.map_append, ih, some_bits]
    congr 1
    · apply List.map_congr_left
      intro p hp
      exact (bit_num_low c _ p (List.mem_range.1 hp)).symm
    · rw [List.map_map]
      apply List.map_congr_left
      intro p _
      exact (bit_num_high c _ p).symm

theorem num_lt (l : List UInt8) : num l < 2 ^ (8 * l.length) := by
  induction l with
  | nil => simp [num]
  | cons c l ih =>
    have := c.toNat_lt
    simp only [num, List.length_cons]
    rw [show 8 * (l.length + 1) = 8 + 8 * l.length by omega, Nat.pow_add]
    omega

theorem bit_high (x m p : Nat) (h : x < 2 ^ m) (hp : m ≤ p) : bit x p = 0 := by
  unfold bit
  rw [Nat.testBit_lt_two_pow (Nat.lt_of_lt_of_le h (Nat.pow_le_pow_right (by omega) hp))]
  simp

theorem low_wide (l : List UInt8) (k : Nat) : low l ++ List.replicate k 0 = (List.range (8 * l.length + k)).map (bit (num l)) := by
  rw [List.range_add, List.map_append, low_bits, List.map_map]
  congr 1
  apply List.ext_getElem
  · simp
  · intro p h1 h2
    simp only [List.getElem_replicate, List.getElem_map, List.getElem_range, Function.comp]
    exact (bit_high _ _ _ (num_lt l) (by omega)).symm

/-- The end: the number read off, the highest bit first. -/
theorem off_step (x m : Nat) (hx : x < 4294967296) (hm : m < 32) :
    2 * (((4294967295 - x) / 2 ^ (m + 1) : Nat) : Int) + 1 - bit x m = (((4294967295 - x) / 2 ^ m : Nat) : Int) := by
  have b := Nat.testBit_two_pow_sub_succ (n := 32) (x := x) (by omega) m
  rw [show 2 ^ 32 - (x + 1) = 4294967295 - x by omega, Nat.testBit_eq_decide_div_mod_eq] at b
  have e : (4294967295 - x) / 2 ^ (m + 1) = (4294967295 - x) / 2 ^ m / 2 := by rw [Nat.pow_succ, Nat.div_div_eq_div_mul]
  rw [e]
  generalize (4294967295 - x) / 2 ^ m = y at *
  unfold bit
  cases h : x.testBit m
  · rw [h] at b
    have b1 : y % 2 = 1 := by simpa [hm] using b
    rw [if_neg (by decide)]
    omega
  · rw [h] at b
    have b1 : y % 2 = 0 := by simpa [hm] using b
    rw [if_pos rfl]
    omega

theorem crc_end (l : List UInt8) : stps (8 * l.length) (num l ^^^ 4294967295) = crcR l := stps_num l _

end Go.Proofs.YtmfijackgekioaaGreatDoor.Mx
