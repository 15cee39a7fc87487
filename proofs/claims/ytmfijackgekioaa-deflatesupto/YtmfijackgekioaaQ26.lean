import Derived.Test.YtmfijackgekioaaQ25

/-
  The lengths that come of the rows of bundles: full, and of no more bits than there are rows. Plain. For Deflates.
-/
namespace Go.Proofs.Ytmfijackgekioaa.Rf

def upTo (g : Nat → Nat) : Nat → Nat
  | 0 => 0
  | k + 1 => upTo g k + g k
theorem upTo_zero {g : Nat → Nat} : ∀ k, (∀ j, j < k → g j = 0) → upTo g k = 0
  | 0, _ => rfl
  | k + 1, h => by rw [upTo, upTo_zero k (fun j hj => h j (by omega)), h k (by omega)]
theorem upTo_congr {g g' : Nat → Nat} : ∀ k, (∀ j, j < k → g j = g' j) → upTo g k = upTo g' k
  | 0, _ => rfl
  | k + 1, h => by rw [upTo, upTo, upTo_congr k (fun j hj => h j (by omega)), h k (by omega)]
theorem upTo_pick (g : Nat → Nat) (x : Nat) : ∀ k, x < k → upTo g k = g x + upTo (fun j => if j = x then 0 else g j) k
  | 0, h => by omega
  | k + 1, h => by
    by_cases e : x = k
    · subst e
      rw [upTo, upTo, if_pos rfl, upTo_congr (g := g) (g' := fun j => if j = x then 0 else g j) x (fun j hj => by rw [if_neg (by omega)])]
      omega
    · rw [upTo, upTo, upTo_pick g x k (by omega), if_neg (Ne.symm e)]
      omega
theorem upTo_list (M : Nat) : ∀ (X : List Nat) (g : Nat → Nat), X.Nodup → (∀ x ∈ X, x < M) → (∀ j, j ∉ X → g j = 0) → upTo g M = (X.map g).sum
  | [], g, _, _, h => by rw [upTo_zero M (fun j _ => h j (by simp))]; rfl
  | x :: X, g, hn, hM, h => by
    rw [List.nodup_cons] at hn
    rw [upTo_pick g x M (hM x (by simp)), upTo_list M X (fun j => if j = x then 0 else g j) hn.2 (fun y hy => hM y (by simp [hy])) (fun j hj => by
      by_cases e : j = x
      · simp [e]
      · simp only [if_neg e]; exact h j (by simp [e, hj]))]
    have : X.map (fun j => if j = x then 0 else g j) = X.map g := by
      refine List.map_congr_left (fun y hy => ?_)
      rw [if_neg (fun e : y = x => hn.1 (e ▸ hy))]
    rw [this]
    simp

theorem fs_upTo (ls : List Int) : ∀ k, fs ls k = upTo (fun j => if 0 < ls.getD j 0 then 32768 / 2 ^ (ls.getD j 0).toNat else 0) k
  | 0 => rfl
  | k + 1 => by rw [fs, upTo, fs_upTo ls k]

section
variable {α : Type} {wt : α → Int} {ns : α → List Nat}

theorem flat_ones {S : List α} {X : List Nat} (h : S.map ns = X.map (fun x => [x])) (a : Nat) : (S.take a).flatMap ns = X.take a := by
  rw [List.flatMap_def, List.map_take, h, ← List.map_take, ← List.flatMap_def]
  simp
theorem count_take_nodup {X : List Nat} (hn : X.Nodup) (i : Nat) (hi : i < X.length) (a : Nat) : (X.take a).count X[i] = if i < a then 1 else 0 := by
  by_cases q : i < a
  · rw [if_pos q]
    have m : X[i] ∈ X.take a := by rw [List.mem_take_iff_getElem]; exact ⟨i, by omega, rfl⟩
    have := List.nodup_iff_count.1 (hn.sublist (List.take_sublist a X)) X[i]
    have p := List.count_pos_iff.2 m
    omega
  · rw [if_neg q, List.count_eq_zero]
    intro m
    rw [List.mem_take_iff_getElem] at m
    obtain ⟨j, hj, e⟩ := m
    have hne := List.pairwise_iff_getElem.1 hn
    rcases Nat.lt_trichotomy j i with c | c | c
    · exact hne j i (by omega) hi c e
    · omega
    · exact hne i j hi (by omega) c e.symm

/-- The lengths, by the numbers in the lightest bundles: of the numbers X alone, at most as many bits as there are rows, full. -/
theorem rows_lengths {S row : List α} {X : List Nat} {L M : Nat} {lens : List Int} (hS : S.Pairwise (fun a b => wt a ≤ wt b)) (hp : ∀ x ∈ S, 0 ≤ wt x) (hX : S.map ns = X.map (fun x => [x])) (hn : X.Nodup) (hM : ∀ x ∈ X, x < M)
    (h2 : 2 ≤ X.length) (hk : X.length ≤ 2 ^ L) (hL : L ≤ 15) (hr : Rows wt ns S L row) (hl : ∀ j, lens.getD j 0 = (cnt ns j (row.take (2 * X.length - 2)) : Int)) :
    (∀ j, 0 ≤ lens.getD j 0 ∧ lens.getD j 0 ≤ L) ∧ (∀ j, j ∈ X → 0 < lens.getD j 0) ∧ (∀ j, j ∉ X → lens.getD j 0 = 0) ∧ fs lens M = 32768 := by
  have eSX : S.length = X.length := by have := congrArg List.length hX; simpa using this
  have hen := hr.enough (by omega) (by omega)
  rw [eSX] at hen
  obtain ⟨aas, e1, e2, e3, e4, _, e6⟩ := Rows.chosen hS hp L row hr (2 * X.length - 2) hen
  obtain ⟨aas', e7⟩ := e6 (by omega) (by omega)
  have q1 : ∀ i (hi : i < X.length), lens.getD X[i] 0 = (deep aas i : Int) := by
    intro i hi
    rw [hl, e4]
    congr 1
    unfold deep
    congr 1
    refine List.map_congr_left (fun a _ => ?_)
    unfold cnt
    rw [flat_ones hX, count_take_nodup hn i hi]
  have q2 : ∀ j, j ∉ X → lens.getD j 0 = 0 := by
    intro j hj
    rw [hl, e4]
    have : aas.map (fun a => cnt ns j (S.take a)) = aas.map (fun _ => 0) := by
      refine List.map_congr_left (fun a _ => ?_)
      unfold cnt
      rw [flat_ones hX, List.count_eq_zero]
      exact fun m => hj (List.mem_of_mem_take m)
    rw [this]
    have z : ∀ l : List Nat, (l.map (fun _ => 0)).sum = 0 := by
      intro l
      induction l with
      | nil => rfl
      | cons x l ih => simp [ih]
    rw [z]
    rfl
  have q3 : ∀ i, i < X.length → 1 ≤ deep aas i := by
    intro i hi
    rw [e7]
    simp only [deep, List.map_cons, List.sum_cons]
    rw [if_pos (by omega)]
    omega
  have q4 : ∀ j, j ∈ X → 0 < lens.getD j 0 := by
    intro j hj
    obtain ⟨i, hi, rfl⟩ := List.getElem_of_mem hj
    rw [q1 i hi]
    have := q3 i hi
    omega
  refine ⟨fun j => ?_, q4, q2, ?_⟩
  · by_cases hj : j ∈ X
    · obtain ⟨i, hi, rfl⟩ := List.getElem_of_mem hj
      rw [q1 i hi]
      have := deep_le i aas
      omega
    · rw [q2 j hj]; omega
  · rw [fs_upTo, upTo_list M X _ hn hM (fun j hj => by simp only [q2 j hj]; rfl)]
    have w := weighF_full h2 (eSX ▸ e3) e2
    have g : ∀ m, m ≤ X.length → ((X.take m).map (fun j => if 0 < lens.getD j 0 then 32768 / 2 ^ (lens.getD j 0).toNat else 0)).sum = 2 ^ (15 - L) * weighF aas.length aas m := by
      intro m
      induction m with
      | zero => intro _; simp [weighF]
      | succ m ih =>
        intro hm
        rw [List.take_succ_eq_append_getElem (by omega), List.map_append, List.sum_append, ih (by omega), weighF, Nat.mul_add]
        congr 1
        simp only [List.map_cons, List.map_nil, List.sum_cons, List.sum_nil, Nat.add_zero]
        have d1 := deep_le m aas
        have d2 := q3 m (by omega)
        rw [q1 m (by omega), if_pos (by omega), Int.toNat_natCast, e1, show (32768 : Nat) = 2 ^ 15 from rfl, Nat.pow_div (by omega) (by omega), ← Nat.pow_add]
        congr 1
        omega
    have := g X.length (Nat.le_refl _)
    rw [List.take_length] at this
    rw [this, w, e1, ← Nat.pow_add, show 15 - L + L = 15 from by omega]
end
end Go.Proofs.Ytmfijackgekioaa.Rf

/-
  A stable sort by swaps, in a row that is a function of the place. Plain. For Deflates.
-/
namespace Go.Proofs.Ytmfijackgekioaa.Rf

section
variable {α : Type} {wt : α → Int}

/-- Two places swapped. -/
def sw (f : Nat → α × Nat) (i j : Nat) : Nat → α × Nat := fun k => if k = i then f j else if k = j then f i else f k
/-- The one at m put to place i, ahead of it. -/
def ins (f : Nat → α × Nat) (i m : Nat) : Nat → α × Nat := fun k => if k = i then f m else if i < k ∧ k ≤ m then f (k - 1) else f k
/-- The one at a put to place i, behind it. -/
def mv (f : Nat → α × Nat) (a i : Nat) : Nat → α × Nat := fun k => if k = i then f a else if a ≤ k ∧ k < i then f (k + 1) else f k
/-- Two pieces of n swapped. -/
def swr (f : Nat → α × Nat) (a b n : Nat) : Nat → α × Nat := fun k => if a ≤ k ∧ k < a + n then f (k - a + b) else if b ≤ k ∧ k < b + n then f (k - b + a) else f k
/-- The pieces a to m and m to b, in the other order. -/
def rot (f : Nat → α × Nat) (a m b : Nat) : Nat → α × Nat := fun k => if a ≤ k ∧ k < a + (b - m) then f (k + (m - a)) else if a + (b - m) ≤ k ∧ k < b then f (k - (b - m)) else f k

theorem ins_self (f : Nat → α × Nat) (i : Nat) : ins f i i = f := by
  funext k; unfold ins; split
  · next h => rw [h]
  · rw [if_neg (by omega)]
theorem mv_self (f : Nat → α × Nat) (i : Nat) : mv f i i = f := by
  funext k; unfold mv; split
  · next h => rw [h]
  · rw [if_neg (by omega)]
theorem swr_zero (f : Nat → α × Nat) (a b : Nat) : swr f a b 0 = f := by
  funext k; unfold swr; rw [if_neg (by omega), if_neg (by omega)]
theorem ins_step (f : Nat → α × Nat) {j m : Nat} (h : 0 < j) (hm : j ≤ m) : sw (ins f j m) j (j - 1) = ins f (j - 1) m := by
  funext k; unfold sw ins
  repeat' split
  all_goals first | rfl | (exfalso; omega) | (congr 1; omega)
theorem mv_step (f : Nat → α × Nat) {a k : Nat} (h : a ≤ k) : sw (mv f a k) k (k + 1) = mv f a (k + 1) := by
  funext x; unfold sw mv
  repeat' split
  all_goals first | rfl | (exfalso; omega) | (congr 1; omega)
theorem swr_step (f : Nat → α × Nat) {a b n i : Nat} (h : a + n ≤ b) (hi : i < n) : sw (swr f a b i) (a + i) (b + i) = swr f a b (i + 1) := by
  funext x; unfold sw swr
  repeat' split
  all_goals first | rfl | (exfalso; omega) | (congr 1; omega)
theorem rot_left (f : Nat → α × Nat) {i j m : Nat} (hi : i ≤ m) (h : j < i) : rot (swr f (m - i) m j) (m - (i - j)) m (m + j) = rot f (m - i) m (m + j) := by
  funext x; unfold rot swr
  repeat' split
  all_goals first | rfl | (exfalso; omega) | (congr 1; omega)
theorem rot_right (f : Nat → α × Nat) {i j m : Nat} (hi : i ≤ m) (h : i < j) : rot (swr f (m - i) (m + j - i) i) (m - i) m (m + (j - i)) = rot f (m - i) m (m + j) := by
  funext x; unfold rot swr
  repeat' split
  all_goals first | rfl | (exfalso; omega) | (congr 1; omega)
theorem rot_same (f : Nat → α × Nat) {i m : Nat} (hi : i ≤ m) : swr f (m - i) m i = rot f (m - i) m (m + i) := by
  funext x; unfold rot swr
  repeat' split
  all_goals first | rfl | (exfalso; omega) | (congr 1; omega)

/-- The same ones, in another order, in the first n places. -/
def Prm (n : Nat) (f g : Nat → α × Nat) : Prop := ((List.range n).map f).Perm ((List.range n).map g)
theorem Prm.refl (n : Nat) (f : Nat → α × Nat) : Prm n f f := List.Perm.refl _
theorem Prm.trans {n : Nat} {f g h : Nat → α × Nat} (a : Prm n f g) (b : Prm n g h) : Prm n f h := List.Perm.trans a b
theorem Prm.sw (n : Nat) (f : Nat → α × Nat) {i j : Nat} (hi : i < n) (hj : j < n) : Prm n (sw f i j) f := by
  have h1 : i < ((List.range n).map f).length := by simpa using hi
  have h2 : j < ((List.range n).map f).length := by simpa using hj
  have e : (List.range n).map (Rf.sw f i j) = (((List.range n).map f).set i ((List.range n).map f)[j]).set j ((List.range n).map f)[i] := by
    apply List.ext_getElem
    · simp
    · intro k _ _
      simp only [List.getElem_map, List.getElem_range, List.getElem_set]
      unfold Rf.sw
      repeat' split
      all_goals first | rfl | (exfalso; omega) | (congr 1; omega) | (subst_vars; rfl)
  unfold Prm
  rw [e]
  exact List.set_set_perm h1 h2

/-- Sorted from a to b. -/
def Srt (wt : α → Int) (f : Nat → α × Nat) (a b : Nat) : Prop := ∀ i j, a ≤ i → i < j → j < b → lx wt (f i) (f j)
/-- Those ahead of m were ahead. -/
def Lo (f : Nat → α × Nat) (a m b : Nat) : Prop := ∀ i j, a ≤ i → i < m → m ≤ j → j < b → (f i).2 < (f j).2
/-- Only from a to b has anything been moved. -/
def In (f g : Nat → α × Nat) (a b : Nat) : Prop := (∀ k, k < a ∨ b ≤ k → g k = f k) ∧ ∀ k, a ≤ k → k < b → ∃ l, a ≤ l ∧ l < b ∧ g k = f l
theorem In.refl (f : Nat → α × Nat) (a b : Nat) : In f f a b := ⟨fun _ _ => rfl, fun k h1 h2 => ⟨k, h1, h2, rfl⟩⟩
theorem In.trans {f g h : Nat → α × Nat} {a b : Nat} (x : In f g a b) (y : In g h a b) : In f h a b :=
  ⟨fun k hk => (y.1 k hk).trans (x.1 k hk), fun k h1 h2 => by
    obtain ⟨l, l1, l2, e⟩ := y.2 k h1 h2
    obtain ⟨l', l3, l4, e'⟩ := x.2 l l1 l2
    exact ⟨l', l3, l4, e.trans e'⟩⟩
theorem In.wide {f g : Nat → α × Nat} {a b c d : Nat} (x : In f g a b) (h1 : c ≤ a) (h2 : b ≤ d) : In f g c d :=
  ⟨fun k hk => x.1 k (by omega), fun k q1 q2 => by
    by_cases h : a ≤ k ∧ k < b
    · obtain ⟨l, l1, l2, e⟩ := x.2 k h.1 h.2
      exact ⟨l, by omega, by omega, e⟩
    · exact ⟨k, q1, q2, x.1 k (by omega)⟩⟩

theorem mv_in (f : Nat → α × Nat) {a i b : Nat} (h1 : a ≤ i) (h2 : i < b) : In f (mv f a i) a b := by
  refine ⟨fun k hk => ?_, fun k q1 q2 => ?_⟩
  · unfold mv; rw [if_neg (by omega), if_neg (by omega)]
  · unfold mv; split
    · exact ⟨a, by omega, by omega, rfl⟩
    · split
      · exact ⟨k + 1, by omega, by omega, rfl⟩
      · exact ⟨k, by omega, by omega, rfl⟩
theorem ins_in (f : Nat → α × Nat) {a i m b : Nat} (h1 : a ≤ i) (h2 : i ≤ m) (h3 : m < b) : In f (ins f i m) a b := by
  refine ⟨fun k hk => ?_, fun k q1 q2 => ?_⟩
  · unfold ins; rw [if_neg (by omega), if_neg (by omega)]
  · unfold ins; split
    · exact ⟨m, by omega, by omega, rfl⟩
    · split
      · exact ⟨k - 1, by omega, by omega, rfl⟩
      · exact ⟨k, by omega, by omega, rfl⟩
theorem rot_in (f : Nat → α × Nat) {a m b : Nat} (h1 : a ≤ m) (h2 : m ≤ b) : In f (rot f a m b) a b := by
  refine ⟨fun k hk => ?_, fun k q1 q2 => ?_⟩
  · unfold rot; rw [if_neg (by omega), if_neg (by omega)]
  · unfold rot; split
    · exact ⟨k + (m - a), by omega, by omega, rfl⟩
    · split
      · exact ⟨k - (b - m), by omega, by omega, rfl⟩
      · exact ⟨k, by omega, by omega, rfl⟩

/-- One at a put among those from a + 1 to b. -/
theorem merge_one {f : Nat → α × Nat} {a b i : Nat} (hi : a < i) (hb : i ≤ b) (hs : Srt wt f (a + 1) b) (hlo : Lo f a (a + 1) b)
    (h1 : ∀ h, a + 1 ≤ h → h < i → wt (f h).1 < wt (f a).1) (h2 : ∀ h, i ≤ h → h < b → wt (f a).1 ≤ wt (f h).1) : Srt wt (mv f a (i - 1)) a b := by
  intro p q hp hpq hq
  unfold mv
  by_cases c1 : p = i - 1
  · rw [if_pos c1, if_neg (by omega), if_neg (by omega)]
    have x := h2 q (by omega) hq
    have y := hlo a q (by omega) (by omega) (by omega) hq
    unfold lx; omega
  · rw [if_neg c1]
    by_cases c2 : q = i - 1
    · rw [if_pos c2, if_pos (by omega)]
      have x := h1 (p + 1) (by omega) (by omega)
      unfold lx; omega
    · rw [if_neg c2]
      by_cases c3 : p < i - 1
      · rw [if_pos (by omega)]
        by_cases c4 : q < i - 1
        · rw [if_pos (by omega)]
          exact hs _ _ (by omega) (by omega) (by omega)
        · rw [if_neg (by omega)]
          exact hs _ _ (by omega) (by omega) (by omega)
      · rw [if_neg (by omega), if_neg (by omega)]
        exact hs _ _ (by omega) (by omega) (by omega)
/-- One at m put among those from a to m. -/
theorem merge_last {f : Nat → α × Nat} {a m i : Nat} (hi : a ≤ i) (hm : i ≤ m) (hs : Srt wt f a m) (hlo : ∀ k, a ≤ k → k < m → (f k).2 < (f m).2)
    (h1 : ∀ h, a ≤ h → h < i → wt (f h).1 ≤ wt (f m).1) (h2 : ∀ h, i ≤ h → h < m → wt (f m).1 < wt (f h).1) : Srt wt (ins f i m) a (m + 1) := by
  intro p q hp hpq hq
  unfold ins
  by_cases c1 : p = i
  · rw [if_pos c1, if_neg (by omega), if_pos (by omega)]
    have x := h2 (q - 1) (by omega) (by omega)
    unfold lx; omega
  · rw [if_neg c1]
    by_cases c2 : q = i
    · rw [if_pos c2, if_neg (by omega)]
      have x := h1 p (by omega) (by omega)
      have y := hlo p (by omega) (by omega)
      unfold lx; omega
    · rw [if_neg c2]
      by_cases c3 : i < p
      · rw [if_pos (by omega), if_pos (by omega)]
        exact hs _ _ (by omega) (by omega) (by omega)
      · rw [if_neg (by omega)]
        by_cases c4 : i < q
        · rw [if_pos (by omega)]
          exact hs _ _ (by omega) (by omega) (by omega)
        · rw [if_neg (by omega)]
          exact hs _ _ (by omega) (by omega) (by omega)

/-- Two sorted pieces cut and turned round so that all of the lower half come ahead of the upper: each half is again two sorted pieces. -/
theorem merge_cut {f : Nat → α × Nat} {a m b s : Nat} (ha : a ≤ s) (hsm : s ≤ m) (hm : m ≤ (a + b) / 2 + m - s) (hb : (a + b) / 2 + m - s ≤ b) (hsl : s ≤ (a + b) / 2 + m) (s1 : Srt wt f a m) (s2 : Srt wt f m b) (hlo : Lo f a m b)
    (h1 : ∀ c, a ≤ c → c < s → (a + b) / 2 + m - 1 - c < b → m ≤ (a + b) / 2 + m - 1 - c → wt (f c).1 ≤ wt (f ((a + b) / 2 + m - 1 - c)).1)
    (h2 : ∀ c, s ≤ c → c < m → m ≤ (a + b) / 2 + m - 1 - c → wt (f ((a + b) / 2 + m - 1 - c)).1 < wt (f c).1) :
    (∀ i j, a ≤ i → i < (a + b) / 2 → (a + b) / 2 ≤ j → j < b → lx wt (rot f s m ((a + b) / 2 + m - s) i) (rot f s m ((a + b) / 2 + m - s) j)) ∧
    Srt wt (rot f s m ((a + b) / 2 + m - s)) a s ∧ Srt wt (rot f s m ((a + b) / 2 + m - s)) s ((a + b) / 2) ∧ Lo (rot f s m ((a + b) / 2 + m - s)) a s ((a + b) / 2) ∧
    Srt wt (rot f s m ((a + b) / 2 + m - s)) ((a + b) / 2) ((a + b) / 2 + m - s) ∧ Srt wt (rot f s m ((a + b) / 2 + m - s)) ((a + b) / 2 + m - s) b ∧ Lo (rot f s m ((a + b) / 2 + m - s)) ((a + b) / 2) ((a + b) / 2 + m - s) b := by
  generalize hmid : (a + b) / 2 = mid at *
  generalize he : mid + m - s = e at *
  have r1 : ∀ k, a ≤ k → k < s → rot f s m e k = f k := fun k q1 q2 => by unfold rot; rw [if_neg (by omega), if_neg (by omega)]
  have r2 : ∀ k, s ≤ k → k < mid → rot f s m e k = f (k + (m - s)) := fun k q1 q2 => by unfold rot; rw [if_pos (by omega)]
  have r3 : ∀ k, mid ≤ k → k < e → rot f s m e k = f (k - (e - m)) := fun k q1 q2 => by unfold rot; rw [if_neg (by omega), if_pos (by omega)]
  have r4 : ∀ k, e ≤ k → rot f s m e k = f k := fun k q1 => by unfold rot; rw [if_neg (by omega), if_neg (by omega)]
  have lt_of : ∀ i j, a ≤ i → i < m → m ≤ j → j < b → wt (f i).1 ≤ wt (f j).1 → lx wt (f i) (f j) := fun i j q1 q2 q3 q4 q5 => by
    have := hlo i j q1 q2 q3 q4
    unfold lx; omega
  -- the last one ahead of s, and the first one behind e
  have k1 : ∀ i j, a ≤ i → i < s → e ≤ j → j < b → lx wt (f i) (f j) := by
    intro i j q1 q2 q3 q4
    have x : lx wt (f (s - 1)) (f e) := by
      refine lt_of _ _ (by omega) (by omega) (by omega) (by omega) ?_
      have := h1 (s - 1) (by omega) (by omega) (by omega) (by omega)
      rwa [show mid + m - 1 - (s - 1) = e from by omega] at this
    have y : lx wt (f i) (f e) := by
      by_cases c : i = s - 1
      · rw [c]; exact x
      · exact lx_trans (s1 i (s - 1) (by omega) (by omega) (by omega)) x
    by_cases c : j = e
    · rw [c]; exact y
    · exact lx_trans y (s2 e j (by omega) (by omega) q4)
  have k2 : ∀ i j, m ≤ i → i < e → s ≤ j → j < m → lx wt (f i) (f j) := by
    intro i j q1 q2 q3 q4
    have x : lx wt (f (e - 1)) (f s) := by
      have := h2 s (by omega) (by omega) (by omega)
      rw [show mid + m - 1 - s = e - 1 from by omega] at this
      exact .inl this
    have y : lx wt (f i) (f s) := by
      by_cases c : i = e - 1
      · rw [c]; exact x
      · exact lx_trans (s2 i (e - 1) (by omega) (by omega) (by omega)) x
    by_cases c : j = s
    · rw [c]; exact y
    · exact lx_trans y (s1 s j (by omega) (by omega) q4)
  refine ⟨?_, ?_, ?_, ?_, ?_, ?_, ?_⟩
  · intro i j q1 q2 q3 q4
    by_cases c1 : i < s
    · rw [r1 i q1 c1]
      by_cases c2 : j < e
      · rw [r3 j q3 c2]; exact s1 _ _ q1 (by omega) (by omega)
      · rw [r4 j (by omega)]; exact k1 _ _ q1 c1 (by omega) q4
    · rw [r2 i (by omega) q2]
      by_cases c2 : j < e
      · rw [r3 j q3 c2]; exact k2 _ _ (by omega) (by omega) (by omega) (by omega)
      · rw [r4 j (by omega)]; exact s2 _ _ (by omega) (by omega) q4
  · intro i j q1 q2 q3
    rw [r1 i q1 (by omega), r1 j (by omega) q3]; exact s1 _ _ q1 q2 (by omega)
  · intro i j q1 q2 q3
    rw [r2 i q1 (by omega), r2 j (by omega) q3]; exact s2 _ _ (by omega) (by omega) (by omega)
  · intro i j q1 q2 q3 q4
    rw [r1 i q1 q2, r2 j q3 q4]; exact hlo _ _ q1 (by omega) (by omega) (by omega)
  · intro i j q1 q2 q3
    rw [r3 i q1 (by omega), r3 j (by omega) q3]; exact s1 _ _ (by omega) (by omega) (by omega)
  · intro i j q1 q2 q3
    rw [r4 i q1, r4 j (by omega)]; exact s2 _ _ (by omega) q2 q3
  · intro i j q1 q2 q3 q4
    rw [r3 i q1 q2, r4 j q3]; exact hlo _ _ (by omega) (by omega) (by omega) q4

/-- Both halves sorted, each of its own: the whole. -/
theorem Srt.halves {g h : Nat → α × Nat} {a c b : Nat} (hx : ∀ i j, a ≤ i → i < c → c ≤ j → j < b → lx wt (g i) (g j)) (hl : Srt wt h a c) (hr : Srt wt h c b)
    (il : ∀ k, a ≤ k → k < c → ∃ l, a ≤ l ∧ l < c ∧ h k = g l) (ir : ∀ k, c ≤ k → k < b → ∃ l, c ≤ l ∧ l < b ∧ h k = g l) : Srt wt h a b := by
  intro i j q1 q2 q3
  by_cases c1 : j < c
  · exact hl i j q1 q2 c1
  · by_cases c2 : c ≤ i
    · exact hr i j c2 q2 q3
    · obtain ⟨l, l1, l2, e⟩ := il i q1 (by omega)
      obtain ⟨l', l3, l4, e'⟩ := ir j (by omega) q3
      rw [e, e']
      exact hx l l' l1 l2 l3 l4
end
end Go.Proofs.Ytmfijackgekioaa.Rf

/-
  Pieces sorted each of its own, and then greater ones: a stable sort. Plain. For Deflates.
-/
namespace Go.Proofs.Ytmfijackgekioaa.Rf

section
variable {α : Type} {wt : α → Int}

/-- Pieces of p sorted, each with those that were in it. -/
def Blk (wt : α → Int) (n p : Nat) (f : Nat → α × Nat) : Prop :=
  (∀ i, i < n → (f i).2 / p = i / p) ∧ ∀ i j, i < j → j < n → i / p = j / p → lx wt (f i) (f j)
/-- Up to a pieces of q, behind it pieces of p. -/
def Mid (wt : α → Int) (n p q a : Nat) (f : Nat → α × Nat) : Prop :=
  (∀ i, i < n → i < a → (f i).2 / q = i / q) ∧ (∀ i, i < n → a ≤ i → (f i).2 / p = i / p) ∧
  (∀ i j, i < j → j < n → j < a → i / q = j / q → lx wt (f i) (f j)) ∧ ∀ i j, i < j → j < n → a ≤ i → i / p = j / p → lx wt (f i) (f j)

theorem Blk.ones (F : Nat → α) (n : Nat) : Blk wt n 1 (fun k => (F k, k)) :=
  ⟨fun i _ => rfl, fun i j h _ e => by rw [Nat.div_one, Nat.div_one] at e; omega⟩
theorem Blk.mid {n p : Nat} {f : Nat → α × Nat} (h : Blk wt n p f) (q : Nat) : Mid wt n p q 0 f :=
  ⟨fun _ _ h => absurd h (Nat.not_lt_zero _), fun i hi _ => h.1 i hi, fun _ _ _ _ h => absurd h (Nat.not_lt_zero _), fun i j h1 h2 _ e => h.2 i j h1 h2 e⟩
theorem Mid.blk {n p q a : Nat} {f : Nat → α × Nat} (h : Mid wt n p q a f) (ha : n ≤ a) : Blk wt n q f :=
  ⟨fun i hi => h.1 i hi (by omega), fun i j h1 h2 e => h.2.2.1 i j h1 h2 (by omega) e⟩
theorem Blk.all {n p : Nat} {f : Nat → α × Nat} (h : Blk wt n p f) (hp : n ≤ p) : Srt wt f 0 n :=
  fun i j _ h1 h2 => h.2 i j h1 h2 (by rw [Nat.div_eq_of_lt (by omega), Nat.div_eq_of_lt (by omega)])

theorem div_in {q k i : Nat} (h1 : k * q ≤ i) (h2 : i < k * q + q) : i / q = k := by
  have hq : 0 < q := by omega
  have a := (Nat.le_div_iff_mul_le hq).2 h1
  have b := (Nat.div_lt_iff_lt_mul hq (x := i) (y := k + 1)).2 (by rw [Nat.add_mul]; omega)
  omega

/-- One piece of q more. -/
theorem Mid.step {n p q r k : Nat} {f g : Nat → α × Nat} (hq : q = p * r) (hp : 0 < p) (hr : 0 < r) (h : Mid wt n p q (k * q) f) {b : Nat} (hb : b = min (k * q + q) n) (hi : In f g (k * q) b) (hs : Srt wt g (k * q) b) : Mid wt n p q ((k + 1) * q) g := by
  obtain ⟨h1, h2, h3, h4⟩ := h
  have hq0 : 0 < q := by rw [hq]; exact Nat.mul_pos hp hr
  rw [Nat.add_mul, Nat.one_mul]
  have up : ∀ x y, x / p = y / p → x / q = y / q := fun x y e => by rw [hq, ← Nat.div_div_eq_div_mul, ← Nat.div_div_eq_div_mul, e]
  refine ⟨fun i q1 q2 => ?_, fun i q1 q2 => ?_, fun i j q1 q2 q3 q4 => ?_, fun i j q1 q2 q3 q4 => ?_⟩
  · by_cases c : i < k * q
    · rw [hi.1 i (.inl c)]; exact h1 i q1 c
    · obtain ⟨l, l1, l2, e⟩ := hi.2 i (by omega) (by omega)
      rw [e, up _ _ (h2 l (by omega) l1), div_in l1 (by omega), div_in (by omega) q2]
  · rw [hi.1 i (by omega)]; exact h2 i q1 (by omega)
  · by_cases c : j < k * q
    · rw [hi.1 i (.inl (by omega)), hi.1 j (.inl c)]; exact h3 i j q1 q2 c q4
    · have e1 : j / q = k := div_in (by omega) q3
      have e2 : k * q ≤ i := by
        rw [e1] at q4
        have := Nat.div_mul_le_self i q
        rw [q4] at this
        exact this
      exact hs i j e2 q1 (by omega)
  · rw [hi.1 i (by omega), hi.1 j (by omega)]; exact h4 i j q1 q2 (by omega) q4

/-- What a merge of the next two pieces asks. -/
theorem Mid.ask {n p k : Nat} {f : Nat → α × Nat} (h : Mid wt n p (2 * p) (k * (2 * p)) f) {b : Nat} (hb : b = min (k * (2 * p) + 2 * p) n) (hn : k * (2 * p) + p ≤ n) :
    Srt wt f (k * (2 * p)) (k * (2 * p) + p) ∧ Srt wt f (k * (2 * p) + p) b ∧ Lo f (k * (2 * p)) (k * (2 * p) + p) b := by
  obtain ⟨_, h2, _, h4⟩ := h
  have e : k * (2 * p) = 2 * k * p := by rw [← Nat.mul_assoc, Nat.mul_comm k 2]
  have e1 : k * (2 * p) + p = (2 * k + 1) * p := by rw [Nat.add_mul, Nat.one_mul, e]
  have d1 : ∀ i, k * (2 * p) ≤ i → i < k * (2 * p) + p → i / p = 2 * k := fun i q1 q2 => div_in (by omega) (by omega)
  have d2 : ∀ i, k * (2 * p) + p ≤ i → i < k * (2 * p) + 2 * p → i / p = 2 * k + 1 := fun i q1 q2 => div_in (by omega) (by omega)
  refine ⟨fun i j q1 q2 q3 => ?_, fun i j q1 q2 q3 => ?_, fun i j q1 q2 q3 q4 => ?_⟩
  · exact h4 i j q2 (by omega) q1 (by rw [d1 i q1 (by omega), d1 j (by omega) q3])
  · exact h4 i j q2 (by omega) (by omega) (by rw [d2 i q1 (by omega), d2 j (by omega) (by omega)])
  · have a := h2 i (by omega) q1
    have c := h2 j (by omega) (by omega)
    rw [d1 i q1 q2] at a
    rw [d2 j q3 (by omega)] at c
    rcases Nat.lt_or_ge (f i).2 (f j).2 with x | x
    · exact x
    · have := Nat.div_le_div_right (c := p) x
      omega

/-- All in all. -/
theorem stable_of {F : Nat → α} {n : Nat} {g : Nat → α × Nat} (hp : Prm n g (fun k => (F k, k))) (hs : Srt wt g 0 n) : Stable wt ((List.range n).map F) ((List.range n).map (fun k => (g k).1)) := by
  refine ⟨(List.range n).map g, ?_, ?_, ?_⟩
  · have e : ((List.range n).map F).zipIdx = (List.range n).map (fun k => (F k, k)) := by
      apply List.ext_getElem
      · simp
      · intro k _ _; simp
    rw [e]; exact hp
  · rw [List.pairwise_iff_getElem]
    intro i j hi hj hij
    simp only [List.getElem_map, List.getElem_range]
    exact hs i j (Nat.zero_le _) hij (by simpa using hj)
  · rw [List.map_map]; rfl

/-- The row as it comes in by a loop of insertions: the first i places sorted, the rest untouched. -/
theorem ins_round {f : Nat → α × Nat} {a m i : Nat} (hi : a ≤ i) (hm : i ≤ m) (hs : Srt wt f a m) (hlo : ∀ k, a ≤ k → k < m → (f k).2 < (f m).2)
    (h1 : i = a ∨ wt (f (i - 1)).1 ≤ wt (f m).1) (h2 : ∀ h, i ≤ h → h < m → wt (f m).1 < wt (f h).1) : Srt wt (ins f i m) a (m + 1) := by
  refine merge_last hi hm hs hlo (fun h q1 q2 => ?_) h2
  rcases h1 with h1 | h1
  · omega
  · by_cases c : h = i - 1
    · rw [c]; exact h1
    · have := hs h (i - 1) q1 (by omega) (by omega)
      unfold lx at this
      omega
end
end Go.Proofs.Ytmfijackgekioaa.Rf
