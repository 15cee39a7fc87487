

/-
  Plain mathematics of pictures: no program, no world.
-/
namespace Go.Proofs.YtmfijackgekioaaGreatDoor.Pm

/-- How many samples a point has; 0: kind and depth do not go together. -/
def chan (k d : Int) : Int :=
  if k = 0 ∧ (d = 1 ∨ d = 2 ∨ d = 4 ∨ d = 8 ∨ d = 16) then 1
  else if k = 2 ∧ (d = 8 ∨ d = 16) then 3
  else if k = 3 ∧ (d = 1 ∨ d = 2 ∨ d = 4 ∨ d = 8) then 1
  else if k = 4 ∧ (d = 8 ∨ d = 16) then 2
  else if k = 6 ∧ (d = 8 ∨ d = 16) then 4
  else 0
theorem chan_range (k d : Int) : 0 ≤ chan k d ∧ chan k d ≤ 4 := by
  unfold chan; repeat' split
  all_goals omega
theorem chan_depth (k d : Int) (h : chan k d ≠ 0) : 1 ≤ d ∧ d ≤ 16 := by
  unfold chan at h; repeat' split at h
  all_goals omega

def sideB (n : Int) : Bool := decide (1 ≤ n) && decide (n ≤ 5000)
theorem sideB_iff (n : Int) : sideB n = true ↔ 1 ≤ n ∧ n ≤ 5000 := by simp [sideB]

/-- The pass of a point. -/
def pass (c r : Int) : Int :=
  if r % 2 = 1 then 7 else if c % 2 = 1 then 6 else if r % 4 = 2 then 5 else if c % 4 = 2 then 4 else if r % 8 = 4 then 3 else if c % 8 = 4 then 2 else 1

end Go.Proofs.YtmfijackgekioaaGreatDoor.Pm

namespace Go.Proofs.YtmfijackgekioaaGreatDoor.Pm
def allB (zs : List Int) (e : Int) : Bool := zs.all fun n => decide (0 ≤ n) && decide (n < e)
theorem allB_snoc (zs : List Int) (k : Nat) (h : k < zs.length) (e : Int) : allB (zs.take (k + 1)) e = (allB (zs.take k) e && (decide (0 ≤ zs[k]) && decide (zs[k] < e))) := by
  rw [List.take_succ_eq_append_getElem h, allB, List.all_append]
  simp [allB]
theorem allB_no (zs : List Int) (k : Nat) (h : k < zs.length) (e : Int) (hx : ¬ (0 ≤ zs[k] ∧ zs[k] < e)) : allB zs e = false := by
  unfold allB
  rw [List.all_eq_false]
  exact ⟨zs[k], List.getElem_mem h, by simpa using hx⟩
end Go.Proofs.YtmfijackgekioaaGreatDoor.Pm

namespace Go.Proofs.YtmfijackgekioaaGreatDoor.Pm
def palB (kd D : Int) (pz : List Int) : Bool :=
  if kd = 3 then decide ((pz.length : Int) % 3 = 0) && decide (1 ≤ (pz.length : Int) / 3) && decide ((pz.length : Int) / 3 ≤ D) && allB pz 256
  else decide ((pz.length : Int) = 0)
/-- 2 to the power of a depth. -/
def two (d : Int) : Int := 2 ^ d.toNat
theorem two_range (d : Int) (h : 1 ≤ d ∧ d ≤ 16) : 2 ≤ two d ∧ two d ≤ 65536 := by
  obtain ⟨n, rfl⟩ := Int.eq_ofNat_of_zero_le (a := d) (by omega)
  unfold two
  simp only [Int.toNat_natCast]
  have h1 : (2 : Nat) ^ 1 ≤ 2 ^ n := Nat.pow_le_pow_right (by omega) (by omega)
  have h2 : (2 : Nat) ^ n ≤ 2 ^ 16 := Nat.pow_le_pow_right (by omega) (by omega)
  have e : ((2 : Int) ^ n) = ((2 ^ n : Nat) : Int) := by simp
  rw [e]
  omega
end Go.Proofs.YtmfijackgekioaaGreatDoor.Pm

namespace Go.Proofs.YtmfijackgekioaaGreatDoor.Pm
def samB (wd ht kd c D : Int) (pl : Nat) (sz : List Int) : Bool :=
  decide ((sz.length : Int) = wd * ht * c) && (if kd = 3 then allB sz ((pl : Int) / 3) else allB sz D)
theorem area (wd ht : Int) (h1 : 1 ≤ wd ∧ wd ≤ 5000) (h2 : 1 ≤ ht ∧ ht ≤ 5000) : 1 ≤ wd * ht ∧ wd * ht ≤ 25000000 := by
  constructor
  · have : 1 * 1 ≤ wd * ht := Int.mul_le_mul h1.1 h2.1 (by omega) (by omega)
    omega
  · have : wd * ht ≤ 5000 * 5000 := Int.mul_le_mul h1.2 h2.2 (by omega) (by omega)
    omega
theorem area3 (a c : Int) (h1 : 0 ≤ a ∧ a ≤ 25000000) (h2 : 0 ≤ c ∧ c ≤ 4) : 0 ≤ a * c ∧ a * c ≤ 100000000 := by
  constructor
  · exact Int.mul_nonneg h1.1 h2.1
  · have : a * c ≤ 25000000 * 4 := Int.mul_le_mul h1.2 h2.2 (by omega) (by omega)
    omega
end Go.Proofs.YtmfijackgekioaaGreatDoor.Pm

namespace Go.Proofs.YtmfijackgekioaaGreatDoor.Pm
def ad (c r b : Int) : Int := r * (1 + (c * b + 7) / 8)
theorem cb_range (c b : Int) (hc : 0 ≤ c ∧ c ≤ 5000) (hb : 0 ≤ b ∧ b ≤ 64) : 0 ≤ c * b ∧ c * b ≤ 320000 := by
  constructor
  · exact Int.mul_nonneg hc.1 hb.1
  · have : c * b ≤ 5000 * 64 := Int.mul_le_mul hc.2 hb.2 (by omega) (by omega)
    omega
theorem ad_range (c r b : Int) (hc : 0 ≤ c ∧ c ≤ 5000) (hr : 0 ≤ r ∧ r ≤ 5000) (hb : 0 ≤ b ∧ b ≤ 64) : 0 ≤ ad c r b ∧ ad c r b ≤ 200010000 := by
  have := cb_range c b hc hb
  unfold ad
  constructor
  · exact Int.mul_nonneg hr.1 (by omega)
  · have : r * (1 + (c * b + 7) / 8) ≤ 5000 * 40002 := Int.mul_le_mul hr.2 (by omega) (by omega) (by omega)
    omega
end Go.Proofs.YtmfijackgekioaaGreatDoor.Pm

namespace Go.Proofs.YtmfijackgekioaaGreatDoor.Pm
def cnt (s t e : Int) : Int := (e - s + t - 1) / t
def one (wd ht b c0 r0 cs rs : Int) : Int := if 0 < cnt c0 cs wd ∧ 0 < cnt r0 rs ht then ad (cnt c0 cs wd) (cnt r0 rs ht) b else 0
def oneAt (wd ht b : Int) : Nat → Int
  | 0 => one wd ht b 0 0 8 8
  | 1 => one wd ht b 4 0 8 8
  | 2 => one wd ht b 0 4 4 8
  | 3 => one wd ht b 2 0 4 4
  | 4 => one wd ht b 0 2 2 4
  | 5 => one wd ht b 1 0 2 2
  | _ => one wd ht b 0 1 1 2
def rawTo (wd ht b : Int) : Nat → Int
  | 0 => 0
  | k + 1 => rawTo wd ht b k + oneAt wd ht b k
def raw (wd ht b : Int) (ps : Bool) : Int := if ps then rawTo wd ht b 7 else ad wd ht b
theorem one_range (wd ht b c0 r0 cs rs : Int) (h1 : 0 ≤ cnt c0 cs wd ∧ cnt c0 cs wd ≤ 5000) (h2 : 0 ≤ cnt r0 rs ht ∧ cnt r0 rs ht ≤ 5000) (hb : 0 ≤ b ∧ b ≤ 64) :
    0 ≤ one wd ht b c0 r0 cs rs ∧ one wd ht b c0 r0 cs rs ≤ 200010000 := by
  unfold one; split
  · exact ad_range _ _ _ h1 h2 hb
  · omega
/-- The facts of one round. -/
structure Rnd (wd ht b : Int) (k : Nat) (c0 r0 cs rs : Int) : Prop where
  hc0 : 0 ≤ c0 ∧ c0 ≤ 8
  hr0 : 0 ≤ r0 ∧ r0 ≤ 8
  hcs : 1 ≤ cs ∧ cs ≤ 8
  hrs : 1 ≤ rs ∧ rs ≤ 8
  pc : 0 ≤ wd - c0 + cs - 1
  pr : 0 ≤ ht - r0 + rs - 1
  bc : 0 ≤ cnt c0 cs wd ∧ cnt c0 cs wd ≤ 5000
  br : 0 ≤ cnt r0 rs ht ∧ cnt r0 rs ht ≤ 5000
  next : rawTo wd ht b (k + 1) = rawTo wd ht b k + one wd ht b c0 r0 cs rs
theorem rnd0 {wd ht : Int} (b : Int) (hw : 1 ≤ wd ∧ wd ≤ 5000) (hh : 1 ≤ ht ∧ ht ≤ 5000) : Rnd wd ht b 0 0 0 8 8 := by
  constructor <;> (try unfold cnt) <;> first | omega | rfl
theorem rnd1 {wd ht : Int} (b : Int) (hw : 1 ≤ wd ∧ wd ≤ 5000) (hh : 1 ≤ ht ∧ ht ≤ 5000) : Rnd wd ht b 1 4 0 8 8 := by
  constructor <;> (try unfold cnt) <;> first | omega | rfl
theorem rnd2 {wd ht : Int} (b : Int) (hw : 1 ≤ wd ∧ wd ≤ 5000) (hh : 1 ≤ ht ∧ ht ≤ 5000) : Rnd wd ht b 2 0 4 4 8 := by
  constructor <;> (try unfold cnt) <;> first | omega | rfl
theorem rnd3 {wd ht : Int} (b : Int) (hw : 1 ≤ wd ∧ wd ≤ 5000) (hh : 1 ≤ ht ∧ ht ≤ 5000) : Rnd wd ht b 3 2 0 4 4 := by
  constructor <;> (try unfold cnt) <;> first | omega | rfl
theorem rnd4 {wd ht : Int} (b : Int) (hw : 1 ≤ wd ∧ wd ≤ 5000) (hh : 1 ≤ ht ∧ ht ≤ 5000) : Rnd wd ht b 4 0 2 2 4 := by
  constructor <;> (try unfold cnt) <;> first | omega | rfl
theorem rnd5 {wd ht : Int} (b : Int) (hw : 1 ≤ wd ∧ wd ≤ 5000) (hh : 1 ≤ ht ∧ ht ≤ 5000) : Rnd wd ht b 5 1 0 2 2 := by
  constructor <;> (try unfold cnt) <;> first | omega | rfl
theorem rnd6 {wd ht : Int} (b : Int) (hw : 1 ≤ wd ∧ wd ≤ 5000) (hh : 1 ≤ ht ∧ ht ≤ 5000) : Rnd wd ht b 6 0 1 1 2 := by
  constructor <;> (try unfold cnt) <;> first | omega | rfl
end Go.Proofs.YtmfijackgekioaaGreatDoor.Pm

namespace Go.Proofs.YtmfijackgekioaaGreatDoor.Pm
theorem pb_range (kd dp : Int) (h : chan kd dp ≠ 0) : 0 ≤ chan kd dp * dp ∧ chan kd dp * dp ≤ 64 := by
  have h1 := chan_range kd dp
  have h2 := chan_depth kd dp h
  constructor
  · exact Int.mul_nonneg h1.1 (by omega)
  · have : chan kd dp * dp ≤ 4 * 16 := Int.mul_le_mul h1.2 h2.2 (by omega) (by omega)
    omega
end Go.Proofs.YtmfijackgekioaaGreatDoor.Pm

namespace Go.Proofs.YtmfijackgekioaaGreatDoor.Pm
def thereC (p : Int) (c : Nat) : Nat → Bool
  | 0 => p == 0
  | r + 1 => thereC p c r || (pass c r == p)
def thereR (p : Int) (r : Nat) : Nat → Bool
  | 0 => p == 0
  | c + 1 => thereR p r c || (pass c r == p)
def nC (p : Int) (m : Nat) : Nat → Nat
  | 0 => 0
  | c + 1 => nC p m c + if thereC p c m then 1 else 0
def nR (p : Int) (m : Nat) : Nat → Nat
  | 0 => 0
  | r + 1 => nR p m r + if thereR p r m then 1 else 0
theorem nC_le (p : Int) (m c : Nat) : nC p m c ≤ c := by
  induction c with
  | zero => exact Nat.le_refl _
  | succ c ih => simp only [nC]; split <;> omega
theorem nR_le (p : Int) (m c : Nat) : nR p m c ≤ c := by
  induction c with
  | zero => exact Nat.le_refl _
  | succ c ih => simp only [nR]; split <;> omega
end Go.Proofs.YtmfijackgekioaaGreatDoor.Pm

namespace Go.Proofs.YtmfijackgekioaaGreatDoor.Pm
def pn (on : Bool) : Nat := if on then 7 else 1
def pq (on : Bool) (k : Nat) : Int := if on then (k : Int) + 1 else 0
def refOne (W H : Nat) (ch dp p : Int) : Int :=
  if 0 < nC p (min 8 H) W then (nR p (min 8 W) H : Int) * (1 + ((nC p (min 8 H) W : Int) * ch * dp + 7) / 8) else 0
def refTo (W H : Nat) (ch dp : Int) (on : Bool) : Nat → Int
  | 0 => 0
  | k + 1 => refTo W H ch dp on k + refOne W H ch dp (pq on k)
theorem ref_bounds (c r : Nat) (ch dp : Int) (hc : c ≤ 5000) (hr : r ≤ 5000) (h1 : 0 ≤ ch ∧ ch ≤ 4) (h2 : 1 ≤ dp ∧ dp ≤ 16) :
    (0 ≤ (c : Int) * ch ∧ (c : Int) * ch ≤ 20000) ∧ (0 ≤ (c : Int) * ch * dp ∧ (c : Int) * ch * dp ≤ 320000) ∧
    (0 ≤ (r : Int) * (1 + ((c : Int) * ch * dp + 7) / 8) ∧ (r : Int) * (1 + ((c : Int) * ch * dp + 7) / 8) ≤ 200010000) := by
  have a1 : 0 ≤ (c : Int) * ch := Int.mul_nonneg (by omega) h1.1
  have a2 : (c : Int) * ch ≤ 5000 * 4 := Int.mul_le_mul (by omega) h1.2 h1.1 (by omega)
  have b1 : 0 ≤ (c : Int) * ch * dp := Int.mul_nonneg a1 (by omega)
  have b2 : (c : Int) * ch * dp ≤ 20000 * 16 := Int.mul_le_mul (by omega) h2.2 (by omega) (by omega)
  have d1 : 0 ≤ (r : Int) * (1 + ((c : Int) * ch * dp + 7) / 8) := Int.mul_nonneg (by omega) (by omega)
  have d2 : (r : Int) * (1 + ((c : Int) * ch * dp + 7) / 8) ≤ 5000 * 40002 := Int.mul_le_mul (by omega) (by omega) (by omega) (by omega)
  omega
theorem refTo_range (W H : Nat) (ch dp : Int) (on : Bool) (hW : W ≤ 5000) (hH : H ≤ 5000) (h1 : 0 ≤ ch ∧ ch ≤ 4) (h2 : 1 ≤ dp ∧ dp ≤ 16) (k : Nat) :
    0 ≤ refTo W H ch dp on k ∧ refTo W H ch dp on k ≤ 200010000 * k := by
  induction k with
  | zero => simp [refTo]
  | succ k ih =>
    have hb := (ref_bounds (nC (pq on k) (min 8 H) W) (nR (pq on k) (min 8 W) H) ch dp (by have := nC_le (pq on k) (min 8 H) W; omega) (by have := nR_le (pq on k) (min 8 W) H; omega) h1 h2).2.2
    simp only [refTo]
    have ho : 0 ≤ refOne W H ch dp (pq on k) ∧ refOne W H ch dp (pq on k) ≤ 200010000 := by
      unfold refOne; split
      · exact hb
      · omega
    omega
end Go.Proofs.YtmfijackgekioaaGreatDoor.Pm

/-
  The two ways to reckon the raw size are one.
-/
namespace Go.Proofs.YtmfijackgekioaaGreatDoor.Pm

theorem pass_mod (c r : Nat) : pass c r = pass ((c % 8 : Nat) : Int) ((r % 8 : Nat) : Int) := by
  unfold pass
  have a1 : ((c % 8 : Nat) : Int) % 2 = (c : Int) % 2 := by omega
  have a2 : ((c % 8 : Nat) : Int) % 4 = (c : Int) % 4 := by omega
  have a3 : ((c % 8 : Nat) : Int) % 8 = (c : Int) % 8 := by omega
  have b1 : ((r % 8 : Nat) : Int) % 2 = (r : Int) % 2 := by omega
  have b2 : ((r % 8 : Nat) : Int) % 4 = (r : Int) % 4 := by omega
  have b3 : ((r % 8 : Nat) : Int) % 8 = (r : Int) % 8 := by omega
  rw [a1, a2, a3, b1, b2, b3]

theorem thereC_mod (p : Int) (c m : Nat) : thereC p c m = thereC p (c % 8) m := by
  induction m with
  | zero => rfl
  | succ m ih => simp only [thereC]; rw [ih, pass_mod c m, pass_mod (c % 8) m, Nat.mod_mod]
theorem thereR_mod (p : Int) (r m : Nat) : thereR p r m = thereR p (r % 8) m := by
  induction m with
  | zero => rfl
  | succ m ih => simp only [thereR]; rw [ih, pass_mod m r, pass_mod m (r % 8), Nat.mod_mod]

/-- Of the passes 1 to 7: where they begin, how far apart. -/
def pc0 : Nat → Nat | 1 => 4 | 3 => 2 | 5 => 1 | _ => 0
def pcs : Nat → Nat | 0 => 8 | 1 => 8 | 2 => 4 | 3 => 4 | 4 => 2 | 5 => 2 | _ => 1
def pr0 : Nat → Nat | 2 => 4 | 4 => 2 | 6 => 1 | _ => 0
def prs : Nat → Nat | 0 => 8 | 1 => 8 | 2 => 8 | 3 => 4 | 4 => 4 | 5 => 2 | _ => 2

theorem thereC_small : ∀ k : Nat, k < 7 → ∀ c : Nat, c < 8 → ∀ m : Nat, m ≤ 8 → thereC ((k : Int) + 1) c m = (decide (pr0 k < m) && decide (c % pcs k = pc0 k)) := by decide
theorem thereR_small : ∀ k : Nat, k < 7 → ∀ r : Nat, r < 8 → ∀ m : Nat, m ≤ 8 → thereR ((k : Int) + 1) r m = (decide (pc0 k < m) && decide (r % prs k = pr0 k)) := by decide


theorem thereC_all (k : Nat) (hk : k < 7) (c m : Nat) (hm : m ≤ 8) : thereC ((k : Int) + 1) c m = (decide (pr0 k < m) && decide (c % pcs k = pc0 k)) := by
  rw [thereC_mod, thereC_small k hk (c % 8) (Nat.mod_lt _ (by omega)) m hm]
  have e : c % 8 % pcs k = c % pcs k := by
    match k, hk with
    | 0, _ | 1, _ | 2, _ | 3, _ | 4, _ | 5, _ | 6, _ => simp only [pcs]; omega
  rw [e]
theorem thereR_all (k : Nat) (hk : k < 7) (r m : Nat) (hm : m ≤ 8) : thereR ((k : Int) + 1) r m = (decide (pc0 k < m) && decide (r % prs k = pr0 k)) := by
  rw [thereR_mod, thereR_small k hk (r % 8) (Nat.mod_lt _ (by omega)) m hm]
  have e : r % 8 % prs k = r % prs k := by
    match k, hk with
    | 0, _ | 1, _ | 2, _ | 3, _ | 4, _ | 5, _ | 6, _ => simp only [prs]; omega
  rw [e]

/-- How many numbers below e have a rest. -/
theorem count_step (s c0 e : Nat) (hs : c0 < s) : (e + 1 + (s - 1 - c0)) / s = (e + (s - 1 - c0)) / s + if e % s = c0 then 1 else 0 := by
  have h := Nat.div_add_mod e s
  have hm := Nat.mod_lt e (show 0 < s by omega)
  generalize e / s = q at h
  generalize e % s = t at h hm
  subst h
  rw [show s * q + t + 1 + (s - 1 - c0) = (t + 1 + (s - 1 - c0)) + s * q by omega, show s * q + t + (s - 1 - c0) = (t + (s - 1 - c0)) + s * q by omega,
    Nat.add_mul_div_left _ _ (by omega), Nat.add_mul_div_left _ _ (by omega)]
  by_cases h0 : t = c0
  · subst h0
    rw [if_pos rfl, show t + 1 + (s - 1 - t) = s by omega, Nat.div_self (by omega), Nat.div_eq_of_lt (by omega)]
    omega
  · rw [if_neg h0]
    by_cases h1 : t < c0
    · rw [Nat.div_eq_of_lt (by omega), Nat.div_eq_of_lt (by omega)]
      rfl
    · rw [show t + 1 + (s - 1 - c0) = (t - c0) + s by omega, show t + (s - 1 - c0) = (t - c0 - 1) + s by omega, Nat.add_div_right _ (by omega), Nat.add_div_right _ (by omega),
        Nat.div_eq_of_lt (by omega), Nat.div_eq_of_lt (by omega)]
      rfl

theorem pc_lt : ∀ k : Nat, pc0 k < pcs k
  | 0 | 1 | 2 | 3 | 4 | 5 | 6 => by decide
  | n + 7 => by show 0 < 1; omega
theorem pr_lt : ∀ k : Nat, pr0 k < prs k
  | 0 | 1 | 2 | 3 | 4 | 5 | 6 => by decide
  | n + 7 => by show 0 < 2; omega

theorem nC_eq (k : Nat) (hk : k < 7) (m : Nat) (hm : m ≤ 8) (c : Nat) : nC ((k : Int) + 1) m c = if pr0 k < m then (c + (pcs k - 1 - pc0 k)) / pcs k else 0 := by
  induction c with
  | zero =>
    have := pc_lt k
    rw [Nat.zero_add, Nat.div_eq_of_lt (by omega)]
    simp [nC]
  | succ c ih =>
    simp only [nC]
    rw [ih, thereC_all k hk c m hm, count_step _ _ _ (pc_lt k)]
    by_cases h : pr0 k < m <;> simp [h]
theorem nR_eq (k : Nat) (hk : k < 7) (m : Nat) (hm : m ≤ 8) (c : Nat) : nR ((k : Int) + 1) m c = if pc0 k < m then (c + (prs k - 1 - pr0 k)) / prs k else 0 := by
  induction c with
  | zero =>
    have := pr_lt k
    rw [Nat.zero_add, Nat.div_eq_of_lt (by omega)]
    simp [nR]
  | succ c ih =>
    simp only [nR]
    rw [ih, thereR_all k hk c m hm, count_step _ _ _ (pr_lt k)]
    by_cases h : pc0 k < m <;> simp [h]

theorem cnt_eq (s t e : Nat) (h : s < t) : cnt s t e = (((e + (t - 1 - s)) / t : Nat) : Int) := by
  unfold cnt
  rw [show (e : Int) - s + t - 1 = ((e + (t - 1 - s) : Nat) : Int) by omega]
  simp

theorem oneAt_eq (wd ht b : Int) (k : Nat) (hk : k < 7) : oneAt wd ht b k = one wd ht b (pc0 k) (pr0 k) (pcs k) (prs k) := by
  match k, hk with
  | 0, _ | 1, _ | 2, _ | 3, _ | 4, _ | 5, _ | 6, _ => rfl

theorem pos_div (e s t : Nat) (h : s < t) : 0 < (e + (t - 1 - s)) / t ↔ s < e := by
  rw [Nat.div_pos_iff]
  omega

theorem refOne_eq (W H : Nat) (ch dp : Int) (k : Nat) (hk : k < 7) : refOne W H ch dp ((k : Int) + 1) = oneAt W H (ch * dp) k := by
  have c1 := pc_lt k
  have c2 := pr_lt k
  have p1 := pos_div W (pc0 k) (pcs k) c1
  have p2 := pos_div H (pr0 k) (prs k) c2
  have m1 : pc0 k ≤ 4 := by unfold pc0; split <;> omega
  have m2 : pr0 k ≤ 4 := by unfold pr0; split <;> omega
  rw [oneAt_eq _ _ _ k hk, one, refOne, nC_eq k hk _ (by omega), nR_eq k hk _ (by omega), cnt_eq _ _ _ c1, cnt_eq _ _ _ c2]
  generalize (W + (pcs k - 1 - pc0 k)) / pcs k = C at *
  generalize (H + (prs k - 1 - pr0 k)) / prs k = R at *
  by_cases h1 : pr0 k < H
  · rw [if_pos (show pr0 k < min 8 H by omega)]
    by_cases h2 : pc0 k < W
    · rw [if_pos (show pc0 k < min 8 W by omega), if_pos (show 0 < C by omega), if_pos (show 0 < (C : Int) ∧ 0 < (R : Int) by omega), ad, Int.mul_assoc]
    · rw [if_neg (show ¬ 0 < C by omega), if_neg (show ¬ (0 < (C : Int) ∧ 0 < (R : Int)) by omega)]
  · rw [if_neg (show ¬ pr0 k < min 8 H by omega), if_neg (by omega), if_neg (show ¬ (0 < (C : Int) ∧ 0 < (R : Int)) by omega)]

theorem refTo_on (W H : Nat) (ch dp : Int) (k : Nat) (hk : k ≤ 7) : refTo W H ch dp true k = rawTo W H (ch * dp) k := by
  induction k with
  | zero => rfl
  | succ k ih =>
    simp only [refTo, rawTo]
    rw [ih (by omega), show pq true k = (k : Int) + 1 from rfl, refOne_eq W H ch dp k (by omega)]

theorem nC_zero (m c : Nat) : nC 0 m c = c := by
  have h : ∀ c m, thereC 0 c m = true := by
    intro c m
    induction m with
    | zero => rfl
    | succ m ih => simp [thereC, ih]
  induction c with
  | zero => rfl
  | succ c ih => simp [nC, ih, h]
theorem nR_zero (m c : Nat) : nR 0 m c = c := by
  have h : ∀ c m, thereR 0 c m = true := by
    intro c m
    induction m with
    | zero => rfl
    | succ m ih => simp [thereR, ih]
  induction c with
  | zero => rfl
  | succ c ih => simp [nR, ih, h]

theorem ref_raw (W H : Nat) (hW : 1 ≤ W) (ch dp : Int) (on : Bool) : refTo W H ch dp on (pn on) = raw W H (ch * dp) on := by
  cases on
  · show 0 + refOne W H ch dp 0 = ad W H (ch * dp)
    rw [refOne, nC_zero, nR_zero, if_pos (by omega), ad, Int.mul_assoc, Int.zero_add]
  · exact refTo_on W H ch dp 7 (by omega)

end Go.Proofs.YtmfijackgekioaaGreatDoor.Pm

/-
  The rows and samples of a picture: plain. For Decodes.
-/
namespace Go.Proofs.YtmfijackgekioaaGreatDoor.Pm

def offI (p q : Int) : Int := if q < p then p - q else q - p
/-- Of three the one nearest to a + b - c. -/
def nearI (a b c : Int) : Int :=
  if offI (a + b - c) a ≤ offI (a + b - c) b ∧ offI (a + b - c) a ≤ offI (a + b - c) c then a
  else if offI (a + b - c) b ≤ offI (a + b - c) c then b else c
/-- What a filter takes away. -/
def takenI (f : Nat) (a b c : Int) : Int :=
  match f with
  | 0 => 0
  | 1 => a
  | 2 => b
  | 3 => (a + b) / 2
  | _ => nearI a b c
theorem near_range {a b c m : Int} (ha : 0 ≤ a ∧ a < m) (hb : 0 ≤ b ∧ b < m) (hc : 0 ≤ c ∧ c < m) : 0 ≤ nearI a b c ∧ nearI a b c < m := by
  unfold nearI
  split
  · exact ha
  · split
    · exact hb
    · exact hc
theorem taken_range (f : Nat) {a b c : Int} (ha : 0 ≤ a ∧ a < 256) (hb : 0 ≤ b ∧ b < 256) (hc : 0 ≤ c ∧ c < 256) : 0 ≤ takenI f a b c ∧ takenI f a b c < 256 := by
  unfold takenI
  split
  · omega
  · exact ha
  · exact hb
  · omega
  · exact near_range ha hb hc
/-- What stands so far ahead. -/
def prevI (g : Nat → Int) (i lead : Nat) : Int := if lead ≤ i then g (i - lead) else 0
abbrev getI (l : List Int) (i : Nat) : Int := l.getD i 0
/-- The first bytes of a row, with what its filter took away. -/
def unP (f lead : Nat) (above x : Nat → Int) : Nat → List Int
  | 0 => []
  | i + 1 => unP f lead above x i ++ [(x i + takenI f (prevI (getI (unP f lead above x i)) i lead) (above i) (prevI above i lead)) % 256]
theorem unP_len (f lead : Nat) (above x : Nat → Int) : ∀ i, (unP f lead above x i).length = i
  | 0 => rfl
  | i + 1 => by rw [unP, List.length_append, unP_len f lead above x i]; rfl
theorem getI_mem {l : List Int} (h : ∀ y ∈ l, 0 ≤ y ∧ y < 256) (i : Nat) : 0 ≤ getI l i ∧ getI l i < 256 := by
  unfold getI
  rw [List.getD_eq_getElem?_getD]
  rcases Nat.lt_or_ge i l.length with hi | hi
  · rw [List.getElem?_eq_getElem hi]
    exact h _ (List.getElem_mem hi)
  · rw [List.getElem?_eq_none hi]
    exact ⟨Int.le_refl _, by decide⟩
theorem unP_mem (f lead : Nat) (above x : Nat → Int) : ∀ i, ∀ y ∈ unP f lead above x i, 0 ≤ y ∧ y < 256
  | 0 => fun y hy => by cases hy
  | i + 1 => fun y hy => by
    rw [unP] at hy
    rcases List.mem_append.mp hy with hy | hy
    · exact unP_mem f lead above x i y hy
    · rw [List.mem_singleton] at hy
      subst hy
      omega
theorem unP_getI (f lead : Nat) (above x : Nat → Int) (i j : Nat) : 0 ≤ getI (unP f lead above x i) j ∧ getI (unP f lead above x i) j < 256 := getI_mem (unP_mem f lead above x i) j
theorem prev_range {g : Nat → Int} (h : ∀ i, 0 ≤ g i ∧ g i < 256) (i lead : Nat) : 0 ≤ prevI g i lead ∧ prevI g i lead < 256 := by
  unfold prevI
  split
  · exact h _
  · omega

/-- A sample of a row. -/
def sampI (r : Nat → Int) (dp k : Nat) : Int := if dp = 16 then 256 * r (2 * k) + r (2 * k + 1) else r (k * dp / 8) / 2 ^ (8 - k * dp % 8 - dp) % 2 ^ dp
theorem pow_pos' (n : Nat) : (0 : Int) < 2 ^ n := Int.pow_pos (by decide)
theorem samp_nonneg {r : Nat → Int} (h : ∀ i, 0 ≤ r i ∧ r i < 256) (dp k : Nat) : 0 ≤ sampI r dp k := by
  unfold sampI
  split
  · have := h (2 * k); have := h (2 * k + 1); omega
  · exact Int.emod_nonneg _ (by have := pow_pos' dp; omega)

/-- A pass: where it begins, how far apart, how many. -/
structure Ps where
  c0 : Nat
  r0 : Nat
  cs : Nat
  rs : Nat
  C : Nat
  R : Nat
def Ps.idx (p : Ps) (W n j k : Nat) : Nat := ((p.r0 + j * p.rs) * W + (p.c0 + k / n * p.cs)) * n + k % n
structure Ps.In (p : Ps) (W H : Nat) : Prop where
  col : ∀ i, i < p.C → p.c0 + i * p.cs < W
  row : ∀ j, j < p.R → p.r0 + j * p.rs < H
theorem Ps.idx_lt {p : Ps} {W H n j k : Nat} (h : p.In W H) (hj : j < p.R) (hk : k < p.C * n) : p.idx W n j k < W * H * n := by
  have hn : 0 < n := by
    rcases Nat.eq_zero_or_pos n with h0 | h0
    · subst h0; omega
    · exact h0
  have h1 := h.row j hj
  have h2 := h.col (k / n) (by rw [Nat.div_lt_iff_lt_mul hn]; exact hk)
  have h3 := Nat.mod_lt k hn
  unfold Ps.idx
  generalize p.r0 + j * p.rs = y at *
  generalize p.c0 + k / n * p.cs = x at *
  have a1 : y * W + x + 1 ≤ W * H := by
    calc y * W + x + 1 ≤ y * W + W := by omega
      _ = (y + 1) * W := by rw [Nat.succ_mul]
      _ ≤ H * W := Nat.mul_le_mul_right _ (by omega)
      _ = W * H := Nat.mul_comm _ _
  calc (y * W + x) * n + k % n < (y * W + x) * n + n := by omega
    _ = (y * W + x + 1) * n := by rw [Nat.succ_mul]
    _ ≤ W * H * n := Nat.mul_le_mul_right _ a1
/-- So many samples of a row, put where they belong. -/
def putN (p : Ps) (W n j : Nat) (v : Nat → Int) (out : List Int) : Nat → List Int
  | 0 => out
  | k + 1 => (putN p W n j v out k).set (p.idx W n j k) (v k)
theorem putN_len (p : Ps) (W n j : Nat) (v : Nat → Int) (out : List Int) : ∀ k, (putN p W n j v out k).length = out.length
  | 0 => rfl
  | k + 1 => by rw [putN, List.length_set, putN_len p W n j v out k]
theorem putN_nonneg (p : Ps) (W n j : Nat) (v : Nat → Int) (out : List Int) (hv : ∀ k, 0 ≤ v k) (ho : ∀ y ∈ out, 0 ≤ y) : ∀ k, ∀ y ∈ putN p W n j v out k, 0 ≤ y
  | 0 => ho
  | k + 1 => fun y hy => by
    rw [putN] at hy
    rcases List.mem_or_eq_of_mem_set hy with h | h
    · exact putN_nonneg p W n j v out hv ho k y h
    · subst h; exact hv k
abbrev rowLen (C bits : Nat) : Nat := (C * bits + 7) / 8
structure RS where
  above : Nat → Int
  out : List Int
/-- The sizes of a picture, its rows' bytes. -/
structure Pic where
  W : Nat
  H : Nat
  n : Nat
  dp : Nat
def Pic.bits (m : Pic) : Nat := m.n * m.dp
def Pic.lead (m : Pic) : Nat := (m.bits + 7) / 8
/-- One row more. -/
def rowNext (m : Pic) (T : Nat → Nat) (p : Ps) (o j : Nat) (s : RS) : Option RS :=
  if 4 < T (o + j * (1 + rowLen p.C m.bits)) then none
  else some ⟨getI (unP (T (o + j * (1 + rowLen p.C m.bits))) m.lead s.above (fun i => T (o + j * (1 + rowLen p.C m.bits) + 1 + i)) (rowLen p.C m.bits)),
    putN p m.W m.n j (sampI (getI (unP (T (o + j * (1 + rowLen p.C m.bits))) m.lead s.above (fun i => T (o + j * (1 + rowLen p.C m.bits) + 1 + i)) (rowLen p.C m.bits))) m.dp) s.out (p.C * m.n)⟩
def rowsP (m : Pic) (T : Nat → Nat) (p : Ps) (o : Nat) (out : List Int) : Nat → Option RS
  | 0 => some ⟨fun _ => 0, out⟩
  | j + 1 => (rowsP m T p o out j).bind (rowNext m T p o j)
theorem rowsP_fine (m : Pic) (T : Nat → Nat) (p : Ps) (o : Nat) (out : List Int) (ho : ∀ y ∈ out, 0 ≤ y) : ∀ j s, rowsP m T p o out j = some s → s.out.length = out.length ∧ (∀ y ∈ s.out, 0 ≤ y) ∧ ∀ i, 0 ≤ s.above i ∧ s.above i < 256
  | 0, s, h => by
    injection h with h
    subst h
    exact ⟨rfl, ho, fun _ => ⟨Int.le_refl _, show (0 : Int) < 256 by decide⟩⟩
  | j + 1, s, h => by
    rw [rowsP] at h
    obtain ⟨s0, h0, h1⟩ := Option.bind_eq_some_iff.mp h
    obtain ⟨a1, a2, a3⟩ := rowsP_fine m T p o out ho j s0 h0
    unfold rowNext at h1
    split at h1
    · cases h1
    · injection h1 with h1
      subst h1
      refine ⟨(putN_len _ _ _ _ _ _ _).trans a1, putN_nonneg _ _ _ _ _ _ (fun k => samp_nonneg (fun i => unP_getI _ _ _ _ _ i) _ _) a2 _, fun i => unP_getI _ _ _ _ _ i⟩
/-- If a row is wrong, all is. -/
theorem rowsP_none (m : Pic) (T : Nat → Nat) (p : Ps) (o : Nat) (out : List Int) (j : Nat) (h : rowsP m T p o out j = none) : ∀ d, rowsP m T p o out (j + d) = none
  | 0 => h
  | d + 1 => by show (rowsP m T p o out (j + d)).bind _ = none; rw [rowsP_none m T p o out j h d]; rfl

/-- The seven passes. -/
def psOf (m : Pic) (k : Nat) : Ps := ⟨pc0 k, pr0 k, pcs k, prs k, (m.W + (pcs k - 1 - pc0 k)) / pcs k, (m.H + (prs k - 1 - pr0 k)) / prs k⟩
def psAll (m : Pic) : Ps := ⟨0, 0, 1, 1, m.W, m.H⟩
theorem steps_in (s t e i : Nat) (h : s < t) (hi : i < (e + (t - 1 - s)) / t) : s + i * t < e := by
  have h1 : i + 1 ≤ (e + (t - 1 - s)) / t := hi
  rw [Nat.le_div_iff_mul_le (by omega)] at h1
  rw [Nat.succ_mul] at h1
  omega
theorem psOf_in (m : Pic) (k : Nat) : (psOf m k).In m.W m.H := ⟨fun _ hi => steps_in _ _ _ _ (pc_lt k) hi, fun _ hi => steps_in _ _ _ _ (pr_lt k) hi⟩
theorem psAll_in (m : Pic) : (psAll m).In m.W m.H := ⟨fun i hi => by show 0 + i * 1 < m.W; have : i < m.W := hi; omega, fun i hi => by show 0 + i * 1 < m.H; have : i < m.H := hi; omega⟩
def offAt (m : Pic) (k : Nat) : Nat := (rawTo m.W m.H m.bits k).toNat
/-- A pass more. -/
def passNext (m : Pic) (T : Nat → Nat) (k : Nat) (out : List Int) : Option (List Int) :=
  if 0 < (psOf m k).C ∧ 0 < (psOf m k).R then (rowsP m T (psOf m k) (offAt m k) out (psOf m k).R).map RS.out else some out
def pictTo (m : Pic) (T : Nat → Nat) : Nat → Option (List Int)
  | 0 => some (List.replicate (m.W * m.H * m.n) 0)
  | k + 1 => (pictTo m T k).bind (passNext m T k)
/-- The samples of a picture. -/
def pict (m : Pic) (T : Nat → Nat) (on : Bool) : Option (List Int) :=
  if on = true then pictTo m T 7 else (rowsP m T (psAll m) 0 (List.replicate (m.W * m.H * m.n) 0) m.H).map RS.out
theorem zeros_nonneg (n : Nat) : ∀ y ∈ List.replicate n (0 : Int), 0 ≤ y := fun y hy => by rw [List.mem_replicate] at hy; omega
theorem pictTo_fine (m : Pic) (T : Nat → Nat) : ∀ k l, pictTo m T k = some l → l.length = m.W * m.H * m.n ∧ ∀ y ∈ l, 0 ≤ y
  | 0, l, h => by
    injection h with h
    subst h
    exact ⟨by simp, zeros_nonneg _⟩
  | k + 1, l, h => by
    rw [pictTo] at h
    obtain ⟨l0, h0, h1⟩ := Option.bind_eq_some_iff.mp h
    obtain ⟨a1, a2⟩ := pictTo_fine m T k l0 h0
    unfold passNext at h1
    split at h1
    · obtain ⟨s, hs, rfl⟩ := Option.map_eq_some_iff.mp h1
      obtain ⟨b1, b2, _⟩ := rowsP_fine m T _ _ _ a2 _ _ hs
      exact ⟨b1.trans a1, b2⟩
    · injection h1 with h1
      subst h1
      exact ⟨a1, a2⟩
theorem pictTo_none (m : Pic) (T : Nat → Nat) (k : Nat) (h : pictTo m T k = none) : ∀ d, pictTo m T (k + d) = none
  | 0 => h
  | d + 1 => by show (pictTo m T (k + d)).bind _ = none; rw [pictTo_none m T k h d]; rfl
theorem pict_fine (m : Pic) (T : Nat → Nat) (on : Bool) (l : List Int) (h : pict m T on = some l) : l.length = m.W * m.H * m.n ∧ ∀ y ∈ l, 0 ≤ y := by
  unfold pict at h
  split at h
  · exact pictTo_fine m T 7 l h
  · obtain ⟨s, hs, rfl⟩ := Option.map_eq_some_iff.mp h
    obtain ⟨b1, b2, _⟩ := rowsP_fine m T _ _ _ (zeros_nonneg _) _ _ hs
    exact ⟨b1.trans (by simp), b2⟩
end Go.Proofs.YtmfijackgekioaaGreatDoor.Pm

/-
  The columns and rows of a pass by the document, a sample bit by bit: plain. For Decodes.
-/
namespace Go.Proofs.YtmfijackgekioaaGreatDoor.Pm

/-- The columns that have a point in a pass; the rows. -/
def colsOf (p : Int) (m : Nat) : Nat → List Int
  | 0 => []
  | c + 1 => colsOf p m c ++ if thereC p c m = true then [(c : Int)] else []
def linesOf (p : Int) (m : Nat) : Nat → List Int
  | 0 => []
  | r + 1 => linesOf p m r ++ if thereR p r m = true then [(r : Int)] else []
theorem colsOf_len (p : Int) (m : Nat) : ∀ c, (colsOf p m c).length = nC p m c
  | 0 => rfl
  | c + 1 => by rw [colsOf, nC, List.length_append, colsOf_len p m c]; split <;> rfl
theorem linesOf_len (p : Int) (m : Nat) : ∀ c, (linesOf p m c).length = nR p m c
  | 0 => rfl
  | c + 1 => by rw [linesOf, nR, List.length_append, linesOf_len p m c]; split <;> rfl
/-- The numbers from s on, t apart. -/
def stepsL (s t n : Nat) : List Int := (List.range n).map fun i => ((s + i * t : Nat) : Int)
theorem stepsL_succ (s t n : Nat) : stepsL s t (n + 1) = stepsL s t n ++ [((s + n * t : Nat) : Int)] := by
  unfold stepsL
  rw [List.range_succ, List.map_append]
  rfl
theorem hit_step (s c0 e : Nat) (hs : c0 < s) (h : e % s = c0) : c0 + (e + (s - 1 - c0)) / s * s = e := by
  have h1 := Nat.div_add_mod e s
  generalize e / s = q at h1
  rw [h] at h1
  subst h1
  rw [show s * q + c0 + (s - 1 - c0) = (s - 1) + s * q by omega, Nat.add_mul_div_left _ _ (by omega), Nat.div_eq_of_lt (by omega), Nat.zero_add, Nat.mul_comm]
  omega
theorem colsOf_eq (k : Nat) (hk : k < 7) (m : Nat) (hm : m ≤ 8) (hp : pr0 k < m) : ∀ c, colsOf ((k : Int) + 1) m c = stepsL (pc0 k) (pcs k) ((c + (pcs k - 1 - pc0 k)) / pcs k)
  | 0 => by
    have := pc_lt k
    rw [Nat.zero_add, Nat.div_eq_of_lt (by omega)]
    rfl
  | c + 1 => by
    rw [colsOf, colsOf_eq k hk m hm hp c, thereC_all k hk c m hm, count_step _ _ _ (pc_lt k), decide_eq_true hp, Bool.true_and]
    by_cases h : c % pcs k = pc0 k
    · rw [if_pos (decide_eq_true h), if_pos h, stepsL_succ, hit_step _ _ _ (pc_lt k) h]
    · rw [if_neg (by rw [decide_eq_false h]; decide), if_neg h, List.append_nil]
      rfl
theorem linesOf_eq (k : Nat) (hk : k < 7) (m : Nat) (hm : m ≤ 8) (hp : pc0 k < m) : ∀ c, linesOf ((k : Int) + 1) m c = stepsL (pr0 k) (prs k) ((c + (prs k - 1 - pr0 k)) / prs k)
  | 0 => by
    have := pr_lt k
    rw [Nat.zero_add, Nat.div_eq_of_lt (by omega)]
    rfl
  | c + 1 => by
    rw [linesOf, linesOf_eq k hk m hm hp c, thereR_all k hk c m hm, count_step _ _ _ (pr_lt k), decide_eq_true hp, Bool.true_and]
    by_cases h : c % prs k = pr0 k
    · rw [if_pos (decide_eq_true h), if_pos h, stepsL_succ, hit_step _ _ _ (pr_lt k) h]
    · rw [if_neg (by rw [decide_eq_false h]; decide), if_neg h, List.append_nil]
      rfl
theorem colsOf_zero (m : Nat) : ∀ c, colsOf 0 m c = stepsL 0 1 c
  | 0 => rfl
  | c + 1 => by
    have h : ∀ c m, thereC 0 c m = true := by
      intro c m
      induction m with
      | zero => rfl
      | succ m ih => simp [thereC, ih]
    rw [colsOf, h, if_pos rfl, colsOf_zero m c, stepsL_succ, Nat.zero_add, Nat.mul_one]
theorem linesOf_zero (m : Nat) : ∀ c, linesOf 0 m c = stepsL 0 1 c
  | 0 => rfl
  | c + 1 => by
    have h : ∀ c m, thereR 0 c m = true := by
      intro c m
      induction m with
      | zero => rfl
      | succ m ih => simp [thereR, ih]
    rw [linesOf, h, if_pos rfl, linesOf_zero m c, stepsL_succ, Nat.zero_add, Nat.mul_one]
/-- The document's pass: k of the list of passes. -/
def psRef (m : Pic) (on : Bool) (k : Nat) : Ps := if on = true then psOf m k else psAll m
/-- The columns and rows of the document are those of the pass; where it has no column it has no point. -/
theorem cols_ref (m : Pic) (on : Bool) (k : Nat) (hk : k < pn on) (hp : 0 < nC (pq on k) (min 8 m.H) m.W) :
    colsOf (pq on k) (min 8 m.H) m.W = stepsL (psRef m on k).c0 (psRef m on k).cs (psRef m on k).C ∧ linesOf (pq on k) (min 8 m.W) m.H = stepsL (psRef m on k).r0 (psRef m on k).rs (psRef m on k).R := by
  cases on with
  | false => exact ⟨colsOf_zero _ _, linesOf_zero _ _⟩
  | true =>
    have hk : k < 7 := hk
    have hp : 0 < nC ((k : Int) + 1) (min 8 m.H) m.W := hp
    rw [nC_eq k hk _ (by omega)] at hp
    have h1 : pr0 k < min 8 m.H := by
      by_cases h : pr0 k < min 8 m.H
      · exact h
      · rw [if_neg h] at hp; omega
    rw [if_pos h1, pos_div _ _ _ (pc_lt k)] at hp
    have m1 : pc0 k ≤ 4 := by unfold pc0; split <;> omega
    exact ⟨colsOf_eq k hk _ (by omega) h1 _, linesOf_eq k hk _ (by omega) (by omega) _⟩
theorem no_cols (m : Pic) (k : Nat) (hk : k < 7) : 0 < nC ((k : Int) + 1) (min 8 m.H) m.W ↔ 0 < (psOf m k).C ∧ 0 < (psOf m k).R := by
  have m2 : pr0 k ≤ 4 := by unfold pr0; split <;> omega
  rw [nC_eq k hk _ (by omega)]
  show _ ↔ 0 < (m.W + (pcs k - 1 - pc0 k)) / pcs k ∧ 0 < (m.H + (prs k - 1 - pr0 k)) / prs k
  rw [pos_div _ _ _ (pr_lt k)]
  by_cases h : pr0 k < min 8 m.H
  · rw [if_pos h]
    constructor
    · intro a; exact ⟨a, by omega⟩
    · intro a; exact a.1
  · rw [if_neg h]
    constructor
    · intro a; omega
    · intro a; omega

/-- A bit more of a sample. -/
theorem bit_more (x : Int) (e j : Nat) : 2 * (x / 2 ^ (e + 1) % 2 ^ j) + x / 2 ^ e % 2 = x / 2 ^ e % 2 ^ (j + 1) := by
  have h1 : x / 2 ^ (e + 1) = x / 2 ^ e / 2 := by rw [Int.pow_succ, Int.ediv_ediv_of_nonneg (Int.le_of_lt (pow_pos' e))]
  rw [h1]
  generalize x / 2 ^ e = y
  rw [Int.pow_succ, Int.mul_comm (2 ^ j) 2]
  have hp := pow_pos' j
  generalize (2 : Int) ^ j = P at *
  have e1 := Int.emod_add_mul_ediv (y / 2) P
  have e2 := Int.emod_nonneg (y / 2) (b := P) (by omega)
  have e3 := Int.emod_lt_of_pos (y / 2) hp
  have e4 := Int.emod_add_mul_ediv y 2
  have e5 : y % 2 = 0 ∨ y % 2 = 1 := by omega
  have key : y = (2 * (y / 2 % P) + y % 2) + 2 * P * (y / 2 / P) := by
    have : 2 * P * (y / 2 / P) = 2 * (P * (y / 2 / P)) := Int.mul_assoc _ _ _
    rw [this]
    omega
  have : y % (2 * P) = 2 * (y / 2 % P) + y % 2 := by
    rw [key, Int.add_mul_emod_self_left]
    have k2 : (2 * (y / 2 % P) + y % 2 + 2 * P * (y / 2 / P)) / 2 % P = y / 2 % P := by rw [← key]
    have k3 : (2 * (y / 2 % P) + y % 2 + 2 * P * (y / 2 / P)) % 2 = y % 2 := by rw [← key]
    rw [k2, k3]
    exact Int.emod_eq_of_lt (by omega) (by omega)
  rw [this]
/-- The bits of a sample, the first j of them. -/
def bitsI (r : Nat → Int) (s : Nat) : Nat → Int
  | 0 => 0
  | j + 1 => 2 * bitsI r s j + r ((s + j) / 8) / 2 ^ (7 - (s + j) % 8) % 2
theorem bits_eq (r : Nat → Int) (s d : Nat) (h : s % 8 + d ≤ 8) : ∀ j, j ≤ d → bitsI r s j = r (s / 8) / 2 ^ (8 - s % 8 - j) % 2 ^ j
  | 0, _ => by rw [bitsI, Int.pow_zero, Int.emod_one]
  | j + 1, hj => by
    rw [bitsI, bits_eq r s d h j (by omega), show (s + j) / 8 = s / 8 by omega, show 7 - (s + j) % 8 = 8 - s % 8 - (j + 1) by omega, show 8 - s % 8 - j = (8 - s % 8 - (j + 1)) + 1 by omega]
    exact bit_more _ _ _
theorem samp_bits (r : Nat → Int) (dp k : Nat) (h : dp = 1 ∨ dp = 2 ∨ dp = 4 ∨ dp = 8) : sampI r dp k = bitsI r (k * dp) dp := by
  have h16 : dp ≠ 16 := by omega
  unfold sampI
  rw [if_neg h16, bits_eq r (k * dp) dp (by rcases h with rfl | rfl | rfl | rfl <;> omega) dp (Nat.le_refl _)]
end Go.Proofs.YtmfijackgekioaaGreatDoor.Pm

/-
  Where the rows of a pass begin; the nearest of three, as the program finds it: plain. For Decodes.
-/
namespace Go.Proofs.YtmfijackgekioaaGreatDoor.Pm

def passLen (m : Pic) (p : Ps) : Nat := p.R * (1 + rowLen p.C m.bits)
theorem one_nat (m : Pic) (k : Nat) (hk : k < 7) : oneAt m.W m.H m.bits k = ((if 0 < (psOf m k).C ∧ 0 < (psOf m k).R then passLen m (psOf m k) else 0 : Nat) : Int) := by
  rw [oneAt_eq _ _ _ k hk, one, cnt_eq _ _ _ (pc_lt k), cnt_eq _ _ _ (pr_lt k)]
  unfold passLen psOf
  dsimp only
  generalize (m.W + (pcs k - 1 - pc0 k)) / pcs k = C
  generalize (m.H + (prs k - 1 - pr0 k)) / prs k = R
  by_cases h : 0 < C ∧ 0 < R
  · rw [if_pos (by omega), if_pos h, ad]
    push_cast
    rfl
  · rw [if_neg (by omega), if_neg h]
    rfl
theorem rawTo_nat (m : Pic) : ∀ k, k ≤ 7 → rawTo m.W m.H m.bits k = (offAt m k : Int)
  | 0, _ => rfl
  | k + 1, h => by
    unfold offAt
    have h1 := rawTo_nat m k (by omega)
    rw [rawTo, h1, one_nat m k (by omega)]
    omega
theorem off_next (m : Pic) (k : Nat) (hk : k < 7) : offAt m (k + 1) = offAt m k + if 0 < (psOf m k).C ∧ 0 < (psOf m k).R then passLen m (psOf m k) else 0 := by
  have h1 := rawTo_nat m (k + 1) (by omega)
  rw [rawTo, rawTo_nat m k (by omega), one_nat m k hk] at h1
  omega
theorem off_mono (m : Pic) (k : Nat) : ∀ d, k + d ≤ 7 → offAt m k ≤ offAt m (k + d)
  | 0, _ => Nat.le_refl _
  | d + 1, h => by
    have h1 := off_mono m k d (by omega)
    have h2 := off_next m (k + d) (by omega)
    have e : k + (d + 1) = k + d + 1 := by omega
    rw [e, h2]
    omega
theorem raw_nat (m : Pic) (on : Bool) : raw m.W m.H m.bits on = ((if on = true then offAt m 7 else passLen m (psAll m) : Nat) : Int) := by
  cases on with
  | true => exact rawTo_nat m 7 (Nat.le_refl _)
  | false =>
    show ad m.W m.H m.bits = _
    unfold ad passLen psAll
    dsimp only
    push_cast
    rfl
/-- A row lies within the rows' bytes. -/
theorem row_in (m : Pic) (p : Ps) (o j : Nat) (hj : j < p.R) {N : Nat} (h : o + passLen m p ≤ N) : o + j * (1 + rowLen p.C m.bits) + 1 + rowLen p.C m.bits ≤ N := by
  unfold passLen at h
  have : (j + 1) * (1 + rowLen p.C m.bits) ≤ p.R * (1 + rowLen p.C m.bits) := Nat.mul_le_mul_right _ hj
  rw [Nat.succ_mul] at this
  omega
theorem pass_in (m : Pic) (k : Nat) (hk : k < 7) (h : 0 < (psOf m k).C ∧ 0 < (psOf m k).R) : offAt m k + passLen m (psOf m k) ≤ offAt m 7 := by
  have h1 := off_next m k hk
  rw [if_pos h] at h1
  have h2 := off_mono m (k + 1) (7 - (k + 1)) (by omega)
  rw [show k + 1 + (7 - (k + 1)) = 7 by omega] at h2
  omega

/-- By the program's words. -/
def distI (x y : Int) : Int := max (x - y) (y - x)
theorem near_same (a b c : Int) : nearI a b c = if distI b c ≤ distI a c ∧ distI b c ≤ distI (a + b) (c + c) then a else if distI a c ≤ distI (a + b) (c + c) then b else c := by
  have e1 : offI (a + b - c) a = distI b c := by unfold offI distI; split <;> omega
  have e2 : offI (a + b - c) b = distI a c := by unfold offI distI; split <;> omega
  have e3 : offI (a + b - c) c = distI (a + b) (c + c) := by unfold offI distI; split <;> omega
  unfold nearI
  rw [e1, e2, e3]
end Go.Proofs.YtmfijackgekioaaGreatDoor.Pm

/-
  Where a row's samples go, one behind another: plain. For Decodes.
-/
namespace Go.Proofs.YtmfijackgekioaaGreatDoor.Pm

/-- How far behind the first a sample belongs. -/
def plc (n st k : Nat) : Nat := k / n * (st * n) + k % n
theorem div_mod_last {n k : Nat} (hn : 0 < n) (h : k % n + 1 = n) : (k + 1) / n = k / n + 1 ∧ (k + 1) % n = 0 := by
  have h0 := Nat.div_add_mod k n
  generalize k / n = q at *
  generalize k % n = t at *
  subst h0
  rw [show n * q + t + 1 = n * (q + 1) by rw [Nat.mul_succ]; omega]
  exact ⟨Nat.mul_div_cancel_left _ hn, Nat.mul_mod_right _ _⟩
theorem div_mod_more {n k : Nat} (hn : 0 < n) (h : k % n + 1 < n) : (k + 1) / n = k / n ∧ (k + 1) % n = k % n + 1 := by
  have h0 := Nat.div_add_mod k n
  generalize k / n = q at *
  generalize k % n = t at *
  subst h0
  rw [show n * q + t + 1 = (t + 1) + n * q by omega]
  exact ⟨by rw [Nat.add_mul_div_left _ _ hn, Nat.div_eq_of_lt h, Nat.zero_add], by rw [Nat.add_mul_mod_self_left, Nat.mod_eq_of_lt h]⟩
theorem plc_last {n k : Nat} (st : Nat) (hn : 0 < n) (h : k % n + 1 = n) (hs : 1 ≤ st) : plc n st (k + 1) = plc n st k + 1 + (st - 1) * n := by
  obtain ⟨h1, h2⟩ := div_mod_last hn h
  unfold plc
  rw [h1, h2, Nat.succ_mul]
  obtain ⟨s, rfl⟩ : ∃ s, st = s + 1 := ⟨st - 1, by omega⟩
  rw [Nat.add_sub_cancel, Nat.succ_mul s n]
  omega
theorem plc_more {n k : Nat} (st : Nat) (hn : 0 < n) (h : k % n + 1 < n) : plc n st (k + 1) = plc n st k + 1 := by
  obtain ⟨h1, h2⟩ := div_mod_more hn h
  unfold plc
  rw [h1, h2]
  omega
/-- So many samples put. -/
def putL (off n st : Nat) (v : Nat → Int) (out : List Int) : Nat → List Int
  | 0 => out
  | k + 1 => (putL off n st v out k).set (off + plc n st k) (v k)
theorem putL_len (off n st : Nat) (v : Nat → Int) (out : List Int) : ∀ k, (putL off n st v out k).length = out.length
  | 0 => rfl
  | k + 1 => by rw [putL, List.length_set, putL_len off n st v out k]
/-- Where the first sample of a row goes. -/
def firstAt (p : Ps) (W n j : Nat) : Nat := ((p.r0 + j * p.rs) * W + p.c0) * n
theorem idx_plc (p : Ps) (W n j k : Nat) : p.idx W n j k = firstAt p W n j + plc n p.cs k := by
  unfold Ps.idx firstAt plc
  rw [← Nat.add_assoc, Nat.add_mul _ (k / n * p.cs) n, Nat.mul_assoc (k / n), Nat.add_assoc]
theorem putN_L (p : Ps) (W n j : Nat) (v : Nat → Int) (out : List Int) : ∀ k, putN p W n j v out k = putL (firstAt p W n j) n p.cs v out k
  | 0 => rfl
  | k + 1 => by rw [putN, putL, putN_L p W n j v out k, idx_plc]
theorem sampI_congr {r s : Nat → Int} (h : ∀ i, r i = s i) (dp k : Nat) : sampI r dp k = sampI s dp k := by
  unfold sampI
  rw [h, h, h]
/-- A sample's bytes lie in the row. -/
theorem samp_in (C n dp k : Nat) (h : dp = 1 ∨ dp = 2 ∨ dp = 4 ∨ dp = 8 ∨ dp = 16) (hk : k < C * n) : (dp = 16 → 2 * k + 1 < rowLen C (n * dp)) ∧ (dp ≠ 16 → k * dp / 8 < rowLen C (n * dp)) := by
  unfold rowLen
  rw [← Nat.mul_assoc]
  generalize C * n = N at *
  constructor
  · intro e
    subst e
    omega
  · intro e
    have h1 : (k + 1) * dp ≤ N * dp := Nat.mul_le_mul_right _ hk
    rw [Nat.succ_mul] at h1
    generalize k * dp = A at *
    generalize N * dp = B at *
    omega
end Go.Proofs.YtmfijackgekioaaGreatDoor.Pm

/-
  The passes in the document's order: plain. For Decodes.
-/
namespace Go.Proofs.YtmfijackgekioaaGreatDoor.Pm

def offR (m : Pic) (on : Bool) (i : Nat) : Nat := if on = true then offAt m i else i * passLen m (psAll m)
def passNextR (m : Pic) (T : Nat → Nat) (on : Bool) (i : Nat) (out : List Int) : Option (List Int) :=
  if 0 < nC (pq on i) (min 8 m.H) m.W then (rowsP m T (psRef m on i) (offR m on i) out (psRef m on i).R).map RS.out else some out
def pictR (m : Pic) (T : Nat → Nat) (on : Bool) : Nat → Option (List Int)
  | 0 => some (List.replicate (m.W * m.H * m.n) 0)
  | i + 1 => (pictR m T on i).bind (passNextR m T on i)
theorem pictR_on (m : Pic) (T : Nat → Nat) : ∀ i, i ≤ 7 → pictR m T true i = pictTo m T i
  | 0, _ => rfl
  | i + 1, h => by
    rw [pictR, pictTo, pictR_on m T i (by omega)]
    congr 1
    funext out
    unfold passNextR passNext
    have e : (0 < nC (pq true i) (min 8 m.H) m.W) ↔ (0 < (psOf m i).C ∧ 0 < (psOf m i).R) := no_cols m i (by omega)
    by_cases hc : 0 < (psOf m i).C ∧ 0 < (psOf m i).R
    · rw [if_pos (e.2 hc), if_pos hc]
      rfl
    · rw [if_neg (fun h => hc (e.1 h)), if_neg hc]
theorem pictR_eq (m : Pic) (T : Nat → Nat) (on : Bool) (hW : 1 ≤ m.W) : pictR m T on (pn on) = pict m T on := by
  cases on with
  | true =>
    rw [show pn true = 7 from rfl, pictR_on m T 7 (Nat.le_refl _)]
    unfold pict
    rw [if_pos rfl]
  | false =>
    show (some (List.replicate (m.W * m.H * m.n) 0)).bind (passNextR m T false 0) = _
    unfold pict
    rw [if_neg (by decide), Option.bind_some]
    unfold passNextR
    rw [show pq false 0 = 0 from rfl, nC_zero, if_pos (by omega)]
    unfold offR psRef
    rw [if_neg (by decide), if_neg (by decide), Nat.zero_mul]
    rfl
theorem pictR_fine (m : Pic) (T : Nat → Nat) (on : Bool) : ∀ i l, pictR m T on i = some l → l.length = m.W * m.H * m.n ∧ ∀ y ∈ l, 0 ≤ y
  | 0, l, h => by
    injection h with h
    subst h
    exact ⟨by simp, zeros_nonneg _⟩
  | i + 1, l, h => by
    rw [pictR] at h
    obtain ⟨l0, h0, h1⟩ := Option.bind_eq_some_iff.mp h
    obtain ⟨a1, a2⟩ := pictR_fine m T on i l0 h0
    unfold passNextR at h1
    split at h1
    · obtain ⟨s, hs, rfl⟩ := Option.map_eq_some_iff.mp h1
      obtain ⟨b1, b2, _⟩ := rowsP_fine m T _ _ _ a2 _ _ hs
      exact ⟨b1.trans a1, b2⟩
    · injection h1 with h1
      subst h1
      exact ⟨a1, a2⟩
theorem pictR_none (m : Pic) (T : Nat → Nat) (on : Bool) (i : Nat) (h : pictR m T on i = none) : ∀ d, pictR m T on (i + d) = none
  | 0 => h
  | d + 1 => by show (pictR m T on (i + d)).bind _ = none; rw [pictR_none m T on i h d]; rfl
/-- Where a pass's rows end. -/
theorem offR_next (m : Pic) (on : Bool) (i : Nat) (hi : i < pn on) (hW : 1 ≤ m.W) : offR m on (i + 1) = offR m on i + if 0 < nC (pq on i) (min 8 m.H) m.W then (psRef m on i).R * (1 + rowLen (psRef m on i).C m.bits) else 0 := by
  cases on with
  | true =>
    have hi : i < 7 := hi
    have e : (0 < nC (pq true i) (min 8 m.H) m.W) ↔ (0 < (psOf m i).C ∧ 0 < (psOf m i).R) := no_cols m i hi
    show offAt m (i + 1) = offAt m i + _
    rw [off_next m i hi]
    by_cases hc : 0 < (psOf m i).C ∧ 0 < (psOf m i).R
    · rw [if_pos (e.2 hc), if_pos hc]
      rfl
    · rw [if_neg (fun h => hc (e.1 h)), if_neg hc]
  | false =>
    have hi : i < 1 := hi
    obtain rfl : i = 0 := by omega
    rw [show pq false 0 = 0 from rfl, nC_zero, if_pos (show 0 < m.W by omega)]
    show (0 + 1) * passLen m (psAll m) = 0 * passLen m (psAll m) + passLen m (psAll m)
    omega
theorem offR_end (m : Pic) (on : Bool) : (offR m on (pn on) : Int) = raw m.W m.H m.bits on := by
  rw [raw_nat]
  cases on with
  | true => rfl
  | false => unfold offR; rw [if_neg (by decide), if_neg (by decide), show pn false = 1 from rfl, Nat.one_mul]
theorem offR_mono (m : Pic) (on : Bool) (hW : 1 ≤ m.W) (i : Nat) : ∀ d, i + d ≤ pn on → offR m on i ≤ offR m on (i + d)
  | 0, _ => Nat.le_refl _
  | d + 1, h => by
    have h1 := offR_mono m on hW i d (by omega)
    have h2 := offR_next m on (i + d) (by omega) hW
    rw [show i + (d + 1) = i + d + 1 by omega, h2]
    omega
theorem psRef_in (m : Pic) (on : Bool) (i : Nat) : (psRef m on i).In m.W m.H := by
  unfold psRef
  split
  · exact psOf_in m i
  · exact psAll_in m
theorem psRef_C (m : Pic) (on : Bool) (i : Nat) (hi : i < pn on) (hp : 0 < nC (pq on i) (min 8 m.H) m.W) : nC (pq on i) (min 8 m.H) m.W = (psRef m on i).C ∧ nR (pq on i) (min 8 m.W) m.H = (psRef m on i).R := by
  obtain ⟨a, b⟩ := cols_ref m on i hi hp
  have a' := congrArg List.length a
  have b' := congrArg List.length b
  rw [colsOf_len] at a'
  rw [linesOf_len] at b'
  unfold stepsL at a' b'
  simp only [List.length_map, List.length_range] at a' b'
  exact ⟨a', b'⟩
theorem stepsL_get (s t n i : Nat) (h : i < n) : getI (stepsL s t n) i = ((s + i * t : Nat) : Int) := by
  unfold getI stepsL
  rw [List.getD_eq_getElem?_getD, List.getElem?_map, List.getElem?_range h]
  rfl
end Go.Proofs.YtmfijackgekioaaGreatDoor.Pm
