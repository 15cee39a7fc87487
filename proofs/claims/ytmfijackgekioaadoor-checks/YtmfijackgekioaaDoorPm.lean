/-
  Plain mathematics of pictures: no program, no world.
-/
namespace Go.Proofs.YtmfijackgekioaaDoor.Pm

/-- How many samples a point has; 0: kind and depth do not go together. -/
def chan (k d : Int) : Int :=
  if k = 0 ∧ (d = 1 ∨ d = 2 ∨ d = 4 ∨ d = 8 ∨ d = 16) then 1
  else if k = 2 ∧ (d = 8 ∨ d = 16) then 3
  else if k = 3 ∧ (d = 1 ∨ d = 2 ∨ d = 4 ∨ d = 8) then 1
  else if k = 4 ∧ (d = 8 ∨ d = 16) then 2
  else if k = 6 ∧ (d = 8 ∨ d = 16) then 4
  else 0
theorem chan_range (k d : Int) : 0 ≤ chan k d ∧ chan k d ≤ 4 := by
  unfold chan; repeat' split
  all_goals omega
theorem chan_depth (k d : Int) (h : chan k d ≠ 0) : 1 ≤ d ∧ d ≤ 16 := by
  unfold chan at h; repeat' split at h
  all_goals omega

def sideB (n : Int) : Bool := decide (1 ≤ n) && decide (n ≤ 5000)
theorem sideB_iff (n : Int) : sideB n = true ↔ 1 ≤ n ∧ n ≤ 5000 := by simp [sideB]

/-- The pass of a point. -/
def pass (c r : Int) : Int :=
  if r % 2 = 1 then 7 else if c % 2 = 1 then 6 else if r % 4 = 2 then 5 else if c % 4 = 2 then 4 else if r % 8 = 4 then 3 else if c % 8 = 4 then 2 else 1

end Go.Proofs.YtmfijackgekioaaDoor.Pm

namespace Go.Proofs.YtmfijackgekioaaDoor.Pm
def allB (zs : List Int) (e : Int) : Bool := zs.all fun n => decide (0 ≤ n) && decide (n < e)
theorem allB_snoc (zs : List Int) (k : Nat) (h : k < zs.length) (e : Int) : allB (zs.take (k + 1)) e = (allB (zs.take k) e && (decide (0 ≤ zs[k]) && decide (zs[k] < e))) := by
  rw [List.take_succ_eq_append_getElem h, allB, List.all_append]
  simp [allB]
theorem allB_no (zs : List Int) (k : Nat) (h : k < zs.length) (e : Int) (hx : ¬ (0 ≤ zs[k] ∧ zs[k] < e)) : allB zs e = false := by
  unfold allB
  rw [List.all_eq_false]
  exact ⟨zs[k], List.getElem_mem h, by simpa using hx⟩
end Go.Proofs.YtmfijackgekioaaDoor.Pm

namespace Go.Proofs.YtmfijackgekioaaDoor.Pm
def palB (kd D : Int) (pz : List Int) : Bool :=
  if kd = 3 then decide ((pz.length : Int) % 3 = 0) && decide (1 ≤ (pz.length : Int) / 3) && decide ((pz.length : Int) / 3 ≤ D) && allB pz 256
  else decide ((pz.length : Int) = 0)
/-- 2 to the power of a depth. -/
def two (d : Int) : Int := 2 ^ d.toNat
theorem two_range (d : Int) (h : 1 ≤ d ∧ d ≤ 16) : 2 ≤ two d ∧ two d ≤ 65536 := by
  obtain ⟨n, rfl⟩ := Int.eq_ofNat_of_zero_le (a := d) (by omega)
  unfold two
  simp only [Int.toNat_natCast]
  have h1 : (2 : Nat) ^ 1 ≤ 2 ^ n := Nat.pow_le_pow_right (by omega) (by omega)
  have h2 : (2 : Nat) ^ n ≤ 2 ^ 16 := Nat.pow_le_pow_right (by omega) (by omega)
  have e : ((2 : Int) ^ n) = ((2 ^ n : Nat) : Int) := by simp
  rw [e]
  omega
end Go.Proofs.YtmfijackgekioaaDoor.Pm

namespace Go.Proofs.YtmfijackgekioaaDoor.Pm
def samB (wd ht kd c D : Int) (pl : Nat) (sz : List Int) : Bool :=
  decide ((sz.length : Int) = wd * ht * c) && (if kd = 3 then allB sz ((pl : Int) / 3) else allB sz D)
theorem area (wd ht : Int) (h1 : 1 ≤ wd ∧ wd ≤ 5000) (h2 : 1 ≤ ht ∧ ht ≤ 5000) : 1 ≤ wd * ht ∧ wd * ht ≤ 25000000 := by
  constructor
  · have : 1 * 1 ≤ wd * ht := Int.mul_le_mul h1.1 h2.1 (by omega) (by omega)
    omega
  · have : wd * ht ≤ 5000 * 5000 := Int.mul_le_mul h1.2 h2.2 (by omega) (by omega)
    omega
theorem area3 (a c : Int) (h1 : 0 ≤ a ∧ a ≤ 25000000) (h2 : 0 ≤ c ∧ c ≤ 4) : 0 ≤ a * c ∧ a * c ≤ 100000000 := by
  constructor
  · exact Int.mul_nonneg h1.1 h2.1
  · have : a * c ≤ 25000000 * 4 := Int.mul_le_mul h1.2 h2.2 (by omega) (by omega)
    omega
end Go.Proofs.YtmfijackgekioaaDoor.Pm

namespace Go.Proofs.YtmfijackgekioaaDoor.Pm
def ad (c r b : Int) : Int := r * (1 + (c * b + 7) / 8)
theorem cb_range (c b : Int) (hc : 0 ≤ c ∧ c ≤ 5000) (hb : 0 ≤ b ∧ b ≤ 64) : 0 ≤ c * b ∧ c * b ≤ 320000 := by
  constructor
  · exact Int.mul_nonneg hc.1 hb.1
  · have : c * b ≤ 5000 * 64 := Int.mul_le_mul hc.2 hb.2 (by omega) (by omega)
    omega
theorem ad_range (c r b : Int) (hc : 0 ≤ c ∧ c ≤ 5000) (hr : 0 ≤ r ∧ r ≤ 5000) (hb : 0 ≤ b ∧ b ≤ 64) : 0 ≤ ad c r b ∧ ad c r b ≤ 200010000 := by
  have := cb_range c b hc hb
  unfold ad
  constructor
  · exact Int.mul_nonneg hr.1 (by omega)
  · have : r * (1 + (c * b + 7) / 8) ≤ 5000 * 40002 := Int.mul_le_mul hr.2 (by omega) (by omega) (by omega)
    omega
end Go.Proofs.YtmfijackgekioaaDoor.Pm

namespace Go.Proofs.YtmfijackgekioaaDoor.Pm
def cnt (s t e : Int) : Int := (e - s + t - 1) / t
def one (wd ht b c0 r0 cs rs : Int) : Int := if 0 < cnt c0 cs wd ∧ 0 < cnt r0 rs ht then ad (cnt c0 cs wd) (cnt r0 rs ht) b else 0
def oneAt (wd ht b : Int) : Nat → Int
  | 0 => one wd ht b 0 0 8 8
  | 1 => one wd ht b 4 0 8 8
  | 2 => one wd ht b 0 4 4 8
  | 3 => one wd ht b 2 0 4 4
  | 4 => one wd ht b 0 2 2 4
  | 5 => one wd ht b 1 0 2 2
  | _ => one wd ht b 0 1 1 2
def rawTo (wd ht b : Int) : Nat → Int
  | 0 => 0
  | k + 1 => rawTo wd ht b k + oneAt wd ht b k
def raw (wd ht b : Int) (ps : Bool) : Int := if ps then rawTo wd ht b 7 else ad wd ht b
theorem one_range (wd ht b c0 r0 cs rs : Int) (h1 : 0 ≤ cnt c0 cs wd ∧ cnt c0 cs wd ≤ 5000) (h2 : 0 ≤ cnt r0 rs ht ∧ cnt r0 rs ht ≤ 5000) (hb : 0 ≤ b ∧ b ≤ 64) :
    0 ≤ one wd ht b c0 r0 cs rs ∧ one wd ht b c0 r0 cs rs ≤ 200010000 := by
  unfold one; split
  · exact ad_range _ _ _ h1 h2 hb
  · omega
/-- The facts of one round. -/
structure Rnd (wd ht b : Int) (k : Nat) (c0 r0 cs rs : Int) : Prop where
  hc0 : 0 ≤ c0 ∧ c0 ≤ 8
  hr0 : 0 ≤ r0 ∧ r0 ≤ 8
  hcs : 1 ≤ cs ∧ cs ≤ 8
  hrs : 1 ≤ rs ∧ rs ≤ 8
  pc : 0 ≤ wd - c0 + cs - 1
  pr : 0 ≤ ht - r0 + rs - 1
  bc : 0 ≤ cnt c0 cs wd ∧ cnt c0 cs wd ≤ 5000
  br : 0 ≤ cnt r0 rs ht ∧ cnt r0 rs ht ≤ 5000
  next : rawTo wd ht b (k + 1) = rawTo wd ht b k + one wd ht b c0 r0 cs rs
theorem rnd0 {wd ht : Int} (b : Int) (hw : 1 ≤ wd ∧ wd ≤ 5000) (hh : 1 ≤ ht ∧ ht ≤ 5000) : Rnd wd ht b 0 0 0 8 8 := by
  constructor <;> (try unfold cnt) <;> first | omega | rfl
theorem rnd1 {wd ht : Int} (b : Int) (hw : 1 ≤ wd ∧ wd ≤ 5000) (hh : 1 ≤ ht ∧ ht ≤ 5000) : Rnd wd ht b 1 4 0 8 8 := by
  constructor <;> (try unfold cnt) <;> first | omega | rfl
theorem rnd2 {wd ht : Int} (b : Int) (hw : 1 ≤ wd ∧ wd ≤ 5000) (hh : 1 ≤ ht ∧ ht ≤ 5000) : Rnd wd ht b 2 0 4 4 8 := by
  constructor <;> (try unfold cnt) <;> first | omega | rfl
theorem rnd3 {wd ht : Int} (b : Int) (hw : 1 ≤ wd ∧ wd ≤ 5000) (hh : 1 ≤ ht ∧ ht ≤ 5000) : Rnd wd ht b 3 2 0 4 4 := by
  constructor <;> (try unfold cnt) <;> first | omega | rfl
theorem rnd4 {wd ht : Int} (b : Int) (hw : 1 ≤ wd ∧ wd ≤ 5000) (hh : 1 ≤ ht ∧ ht ≤ 5000) : Rnd wd ht b 4 0 2 2 4 := by
  constructor <;> (try unfold cnt) <;> first | omega | rfl
theorem rnd5 {wd ht : Int} (b : Int) (hw : 1 ≤ wd ∧ wd ≤ 5000) (hh : 1 ≤ ht ∧ ht ≤ 5000) : Rnd wd ht b 5 1 0 2 2 := by
  constructor <;> (try unfold cnt) <;> first | omega | rfl
theorem rnd6 {wd ht : Int} (b : Int) (hw : 1 ≤ wd ∧ wd ≤ 5000) (hh : 1 ≤ ht ∧ ht ≤ 5000) : Rnd wd ht b 6 0 1 1 2 := by
  constructor <;> (try unfold cnt) <;> first | omega | rfl
end Go.Proofs.YtmfijackgekioaaDoor.Pm

namespace Go.Proofs.YtmfijackgekioaaDoor.Pm
theorem pb_range (kd dp : Int) (h : chan kd dp ≠ 0) : 0 ≤ chan kd dp * dp ∧ chan kd dp * dp ≤ 64 := by
  have h1 := chan_range kd dp
  have h2 := chan_depth kd dp h
  constructor
  · exact Int.mul_nonneg h1.1 (by omega)
  · have : chan kd dp * dp ≤ 4 * 16 := Int.mul_le_mul h1.2 h2.2 (by omega) (by omega)
    omega
end Go.Proofs.YtmfijackgekioaaDoor.Pm

namespace Go.Proofs.YtmfijackgekioaaDoor.Pm
def thereC (p : Int) (c : Nat) : Nat → Bool
  | 0 => p == 0
  | r + 1 => thereC p c r || (pass c r == p)
def thereR (p : Int) (r : Nat) : Nat → Bool
  | 0 => p == 0
  | c + 1 => thereR p r c || (pass c r == p)
def nC (p : Int) (m : Nat) : Nat → Nat
  | 0 => 0
  | c + 1 => nC p m c + if thereC p c m then 1 else 0
def nR (p : Int) (m : Nat) : Nat → Nat
  | 0 => 0
  | r + 1 => nR p m r + if thereR p r m then 1 else 0
theorem nC_le (p : Int) (m c : Nat) : nC p m c ≤ c := by
  induction c with
  | zero => exact Nat.le_refl _
  | succ c ih => simp only [nC]; split <;> omega
theorem nR_le (p : Int) (m c : Nat) : nR p m c ≤ c := by
  induction c with
  | zero => exact Nat.le_refl _
  | succ c ih => simp only [nR]; split <;> omega
end Go.Proofs.YtmfijackgekioaaDoor.Pm

namespace Go.Proofs.YtmfijackgekioaaDoor.Pm
def pn (on : Bool) : Nat := if on then 7 else 1
def pq (on : Bool) (k : Nat) : Int := if on then (k : Int) + 1 else 0
def refOne (W H : Nat) (ch dp p : Int) : Int :=
  if 0 < nC p (min 8 H) W then (nR p (min 8 W) H : Int) * (1 + ((nC p (min 8 H) W : Int) * ch * dp + 7) / 8) else 0
def refTo (W H : Nat) (ch dp : Int) (on : Bool) : Nat → Int
  | 0 => 0
  | k + 1 => refTo W H ch dp on k + refOne W H ch dp (pq on k)
theorem ref_bounds (c r : Nat) (ch dp : Int) (hc : c ≤ 5000) (hr : r ≤ 5000) (h1 : 0 ≤ ch ∧ ch ≤ 4) (h2 : 1 ≤ dp ∧ dp ≤ 16) :
    (0 ≤ (c : Int) * ch ∧ (c : Int) * ch ≤ 20000) ∧ (0 ≤ (c : Int) * ch * dp ∧ (c : Int) * ch * dp ≤ 320000) ∧
    (0 ≤ (r : Int) * (1 + ((c : Int) * ch * dp + 7) / 8) ∧ (r : Int) * (1 + ((c : Int) * ch * dp + 7) / 8) ≤ 200010000) := by
  have a1 : 0 ≤ (c : Int) * ch := Int.mul_nonneg (by omega) h1.1
  have a2 : (c : Int) * ch ≤ 5000 * 4 := Int.mul_le_mul (by omega) h1.2 h1.1 (by omega)
  have b1 : 0 ≤ (c : Int) * ch * dp := Int.mul_nonneg a1 (by omega)
  have b2 : (c : Int) * ch * dp ≤ 20000 * 16 := Int.mul_le_mul (by omega) h2.2 (by omega) (by omega)
  have d1 : 0 ≤ (r : Int) * (1 + ((c : Int) * ch * dp + 7) / 8) := Int.mul_nonneg (by omega) (by omega)
  have d2 : (r : Int) * (1 + ((c : Int) * ch * dp + 7) / 8) ≤ 5000 * 40002 := Int.mul_le_mul (by omega) (by omega) (by omega) (by omega)
  omega
theorem refTo_range (W H : Nat) (ch dp : Int) (on : Bool) (hW : W ≤ 5000) (hH : H ≤ 5000) (h1 : 0 ≤ ch ∧ ch ≤ 4) (h2 : 1 ≤ dp ∧ dp ≤ 16) (k : Nat) :
    0 ≤ refTo W H ch dp on k ∧ refTo W H ch dp on k ≤ 200010000 * k := by
  induction k with
  | zero => simp [refTo]
  | succ k ih =>
    have hb := (ref_bounds (nC (pq on k) (min 8 H) W) (nR (pq on k) (min 8 W) H) ch dp (by have := nC_le (pq on k) (min 8 H) W; omega) (by have := nR_le (pq on k) (min 8 W) H; omega) h1 h2).2.2
    simp only [refTo]
    have ho : 0 ≤ refOne W H ch dp (pq on k) ∧ refOne W H ch dp (pq on k) ≤ 200010000 := by
      unfold refOne; split
      · exact hb
      · omega
    omega
end Go.Proofs.YtmfijackgekioaaDoor.Pm
