/-
  The two ways to reckon the raw size are one.
-/
import Derived.Test.YtmfijackgekioaaDoorPm
namespace Go.Proofs.YtmfijackgekioaaDoor.Pm

theorem pass_mod (c r : Nat) : pass c r = pass ((c % 8 : Nat) : Int) ((r % 8 : Nat) : Int) := by
  unfold pass
  have a1 : ((c % 8 : Nat) : Int) % 2 = (c : Int) % 2 := by omega
  have a2 : ((c % 8 : Nat) : Int) % 4 = (c : Int) % 4 := by omega
  have a3 : ((c % 8 : Nat) : Int) % 8 = (c : Int) % 8 := by omega
  have b1 : ((r % 8 : Nat) : Int) % 2 = (r : Int) % 2 := by omega
  have b2 : ((r % 8 : Nat) : Int) % 4 = (r : Int) % 4 := by omega
  have b3 : ((r % 8 : Nat) : Int) % 8 = (r : Int) % 8 := by omega
  rw [a1, a2, a3, b1, b2, b3]

theorem thereC_mod (p : Int) (c m : Nat) : thereC p c m = thereC p (c % 8) m := by
  induction m with
  | zero => rfl
  | succ m ih => simp only [thereC]; rw [ih, pass_mod c m, pass_mod (c % 8) m, Nat.mod_mod]
theorem thereR_mod (p : Int) (r m : Nat) : thereR p r m = thereR p (r % 8) m := by
  induction m with
  | zero => rfl
  | succ m ih => simp only [thereR]; rw [ih, pass_mod m r, pass_mod m (r % 8), Nat.mod_mod]

/-- Of the passes 1 to 7: where they begin, how far apart. -/
def pc0 : Nat → Nat | 1 => 4 | 3 => 2 | 5 => 1 | _ => 0
def pcs : Nat → Nat | 0 => 8 | 1 => 8 | 2 => 4 | 3 => 4 | 4 => 2 | 5 => 2 | _ => 1
def pr0 : Nat → Nat | 2 => 4 | 4 => 2 | 6 => 1 | _ => 0
def prs : Nat → Nat | 0 => 8 | 1 => 8 | 2 => 8 | 3 => 4 | 4 => 4 | 5 => 2 | _ => 2

theorem thereC_small : ∀ k : Nat, k < 7 → ∀ c : Nat, c < 8 → ∀ m : Nat, m ≤ 8 → thereC ((k : Int) + 1) c m = (decide (pr0 k < m) && decide (c % pcs k = pc0 k)) := by decide
theorem thereR_small : ∀ k : Nat, k < 7 → ∀ r : Nat, r < 8 → ∀ m : Nat, m ≤ 8 → thereR ((k : Int) + 1) r m = (decide (pc0 k < m) && decide (r % prs k = pr0 k)) := by decide


theorem thereC_all (k : Nat) (hk : k < 7) (c m : Nat) (hm : m ≤ 8) : thereC ((k : Int) + 1) c m = (decide (pr0 k < m) && decide (c % pcs k = pc0 k)) := by
  rw [thereC_mod, thereC_small k hk (c % 8) (Nat.mod_lt _ (by omega)) m hm]
  have e : c % 8 % pcs k = c % pcs k := by
    match k, hk with
    | 0, _ | 1, _ | 2, _ | 3, _ | 4, _ | 5, _ | 6, _ => simp only [pcs]; omega
  rw [e]
theorem thereR_all (k : Nat) (hk : k < 7) (r m : Nat) (hm : m ≤ 8) : thereR ((k : Int) + 1) r m = (decide (pc0 k < m) && decide (r % prs k = pr0 k)) := by
  rw [thereR_mod, thereR_small k hk (r % 8) (Nat.mod_lt _ (by omega)) m hm]
  have e : r % 8 % prs k = r % prs k := by
    match k, hk with
    | 0, _ | 1, _ | 2, _ | 3, _ | 4, _ | 5, _ | 6, _ => simp only [prs]; omega
  rw [e]

/-- How many numbers below e have a rest. -/
theorem count_step (s c0 e : Nat) (hs : c0 < s) : (e + 1 + (s - 1 - c0)) / s = (e + (s - 1 - c0)) / s + if e % s = c0 then 1 else 0 := by
  have h := Nat.div_add_mod e s
  have hm := Nat.mod_lt e (show 0 < s by omega)
  generalize e / s = q at h
  generalize e % s = t at h hm
  subst h
  rw [show s * q + t + 1 + (s - 1 - c0) = (t + 1 + (s - 1 - c0)) + s * q by omega, show s * q + t + (s - 1 - c0) = (t + (s - 1 - c0)) + s * q by omega,
    Nat.add_mul_div_left _ _ (by omega), Nat.add_mul_div_left _ _ (by omega)]
  by_cases h0 : t = c0
  · subst h0
    rw [if_pos rfl, show t + 1 + (s - 1 - t) = s by omega, Nat.div_self (by omega), Nat.div_eq_of_lt (by omega)]
    omega
  · rw [if_neg h0]
    by_cases h1 : t < c0
    · rw [Nat.div_eq_of_lt (by omega), Nat.div_eq_of_lt (by omega)]
      rfl
    · rw [show t + 1 + (s - 1 - c0) = (t - c0) + s by omega, show t + (s - 1 - c0) = (t - c0 - 1) + s by omega, Nat.add_div_right _ (by omega), Nat.add_div_right _ (by omega),
        Nat.div_eq_of_lt (by omega), Nat.div_eq_of_lt (by omega)]
      rfl

theorem pc_lt : ∀ k : Nat, pc0 k < pcs k
  | 0 | 1 | 2 | 3 | 4 | 5 | 6 => by decide
  | n + 7 => by show 0 < 1; omega
theorem pr_lt : ∀ k : Nat, pr0 k < prs k
  | 0 | 1 | 2 | 3 | 4 | 5 | 6 => by decide
  | n + 7 => by show 0 < 2; omega

theorem nC_eq (k : Nat) (hk : k < 7) (m : Nat) (hm : m ≤ 8) (c : Nat) : nC ((k : Int) + 1) m c = if pr0 k < m then (c + (pcs k - 1 - pc0 k)) / pcs k else 0 := by
  induction c with
  | zero =>
    have := pc_lt k
    rw [Nat.zero_add, Nat.div_eq_of_lt (by omega)]
    simp [nC]
  | succ c ih =>
    simp only [nC]
    rw [ih, thereC_all k hk c m hm, count_step _ _ _ (pc_lt k)]
    by_cases h : pr0 k < m <;> simp [h]
theorem nR_eq (k : Nat) (hk : k < 7) (m : Nat) (hm : m ≤ 8) (c : Nat) : nR ((k : Int) + 1) m c = if pc0 k < m then (c + (prs k - 1 - pr0 k)) / prs k else 0 := by
  induction c with
  | zero =>
    have := pr_lt k
    rw [Nat.zero_add, Nat.div_eq_of_lt (by omega)]
    simp [nR]
  | succ c ih =>
    simp only [nR]
    rw [ih, thereR_all k hk c m hm, count_step _ _ _ (pr_lt k)]
    by_cases h : pc0 k < m <;> simp [h]

theorem cnt_eq (s t e : Nat) (h : s < t) : cnt s t e = (((e + (t - 1 - s)) / t : Nat) : Int) := by
  unfold cnt
  rw [show (e : Int) - s + t - 1 = ((e + (t - 1 - s) : Nat) : Int) by omega]
  simp

theorem oneAt_eq (wd ht b : Int) (k : Nat) (hk : k < 7) : oneAt wd ht b k = one wd ht b (pc0 k) (pr0 k) (pcs k) (prs k) := by
  match k, hk with
  | 0, _ | 1, _ | 2, _ | 3, _ | 4, _ | 5, _ | 6, _ => rfl

theorem pos_div (e s t : Nat) (h : s < t) : 0 < (e + (t - 1 - s)) / t ↔ s < e := by
  rw [Nat.div_pos_iff]
  omega

theorem refOne_eq (W H : Nat) (ch dp : Int) (k : Nat) (hk : k < 7) : refOne W H ch dp ((k : Int) + 1) = oneAt W H (ch * dp) k := by
  have c1 := pc_lt k
  have c2 := pr_lt k
  have p1 := pos_div W (pc0 k) (pcs k) c1
  have p2 := pos_div H (pr0 k) (prs k) c2
  have m1 : pc0 k ≤ 4 := by unfold pc0; split <;> omega
  have m2 : pr0 k ≤ 4 := by unfold pr0; split <;> omega
  rw [oneAt_eq _ _ _ k hk, one, refOne, nC_eq k hk _ (by omega), nR_eq k hk _ (by omega), cnt_eq _ _ _ c1, cnt_eq _ _ _ c2]
  generalize (W + (pcs k - 1 - pc0 k)) / pcs k = C at *
  generalize (H + (prs k - 1 - pr0 k)) / prs k = R at *
  by_cases h1 : pr0 k < H
  · rw [if_pos (show pr0 k < min 8 H by omega)]
    by_cases h2 : pc0 k < W
    · rw [if_pos (show pc0 k < min 8 W by omega), if_pos (show 0 < C by omega), if_pos (show 0 < (C : Int) ∧ 0 < (R : Int) by omega), ad, Int.mul_assoc]
    · rw [if_neg (show ¬ 0 < C by omega), if_neg (show ¬ (0 < (C : Int) ∧ 0 < (R : Int)) by omega)]
  · rw [if_neg (show ¬ pr0 k < min 8 H by omega), if_neg (by omega), if_neg (show ¬ (0 < (C : Int) ∧ 0 < (R : Int)) by omega)]

theorem refTo_on (W H : Nat) (ch dp : Int) (k : Nat) (hk : k ≤ 7) : refTo W H ch dp true k = rawTo W H (ch * dp) k := by
  induction k with
  | zero => rfl
  | succ k ih =>
    simp only [refTo, rawTo]
    rw [ih (by omega), show pq true k = (k : Int) + 1 from rfl, refOne_eq W H ch dp k (by omega)]

theorem nC_zero (m c : Nat) : nC 0 m c = c := by
  have h : ∀ c m, thereC 0 c m = true := by
    intro c m
    induction m with
    | zero => rfl
    | succ m ih => simp [thereC, ih]
  induction c with
  | zero => rfl
  | succ c ih => simp [nC, ih, h]
theorem nR_zero (m c : Nat) : nR 0 m c = c := by
  have h : ∀ c m, thereR 0 c m = true := by
    intro c m
    induction m with
    | zero => rfl
    | succ m ih => simp [thereR, ih]
  induction c with
  | zero => rfl
  | succ c ih => simp [nR, ih, h]

theorem ref_raw (W H : Nat) (hW : 1 ≤ W) (ch dp : Int) (on : Bool) : refTo W H ch dp on (pn on) = raw W H (ch * dp) on := by
  cases on
  · show 0 + refOne W H ch dp 0 = ad W H (ch * dp)
    rw [refOne, nC_zero, nR_zero, if_pos (by omega), ad, Int.mul_assoc, Int.zero_add]
  · exact refTo_on W H ch dp 7 (by omega)

end Go.Proofs.YtmfijackgekioaaDoor.Pm
