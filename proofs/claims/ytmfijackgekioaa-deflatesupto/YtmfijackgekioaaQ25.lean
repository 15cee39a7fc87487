import Derived.Test.YtmfijackgekioaaQ24
import Derived.Test.YtmfijackgekioaaQ02

/-
  A run of lengths, told as the program tells it. For Deflates.
-/
namespace Go.Proofs.Ytmfijackgekioaa.Rf

theorem tell_append : ∀ (a b : List (Nat × Nat)) (out : List Int), tell out (a ++ b) = tell (tell out a) b
  | [], _, _ => rfl
  | t :: r, b, out => tell_append r b (out ++ tadd out t)
theorem tellOk_append : ∀ (a b : List (Nat × Nat)) (out : List Int), TellOk out a → TellOk (tell out a) b → TellOk out (a ++ b)
  | [], _, _, _, h => h
  | t :: r, b, out, ⟨h1, h2, h3, h4⟩, h => ⟨h1, h2, h3, tellOk_append r b (out ++ tadd out t) h4 h⟩

/-- The numbers that tell a run of a length (one above 0 has been told ahead of it). -/
def runTok (v : Nat) : Nat → Nat → List (Nat × Nat)
  | 0, _ => []
  | f + 1, run =>
    if run = 0 then [] else if run < 3 then (v, 0) :: runTok v f (run - 1) else if 0 < v then (16, min run 6 - 3) :: runTok v f (run - min run 6)
    else if run < 11 then (17, run - 3) :: runTok v f 0 else (18, min run 138 - 11) :: runTok v f (run - min run 138)

/-- The last is v. -/
def Last (out : List Int) (v : Nat) : Prop := out ≠ [] ∧ out.getD (out.length - 1) 0 = (v : Int)
theorem last_replicate (out : List Int) (v k : Nat) (h : 0 < k ∨ Last out v) : Last (out ++ List.replicate k (v : Int)) v := by
  rcases Nat.eq_zero_or_pos k with hk | hk
  · subst hk
    rcases h with h | h
    · omega
    · simpa using h
  · refine ⟨by intro e; have := congrArg List.length e; simp at this; omega, ?_⟩
    rw [List.getD_eq_getElem?_getD, List.getElem?_append_right (by simp; omega), List.getElem?_replicate, if_pos (by simp; omega)]
    rfl

theorem runTok_tell (v : Nat) (hv : v ≤ 15) : ∀ (f run : Nat) (out : List Int), run ≤ f → (0 < v → Last out v) →
    tell out (runTok v f run) = out ++ List.replicate run (v : Int) ∧ TellOk out (runTok v f run)
  | 0, run, out, hr, _ => by
    obtain rfl : run = 0 := by omega
    exact ⟨by simp [runTok, tell], trivial⟩
  | f + 1, run, out, hr, hl => by
    rw [runTok]
    by_cases c0 : run = 0
    · subst c0
      exact ⟨by simp [tell], trivial⟩
    · rw [if_neg c0]
      have step : ∀ (t : Nat × Nat) (k : Nat), tadd out t = List.replicate k (v : Int) → k ≤ run → 0 < k → t.1 ≤ 18 → t.2 < 2 ^ tkb t → (t.1 = 16 → out ≠ []) →
          tell out (t :: runTok v f (run - k)) = out ++ List.replicate run (v : Int) ∧ TellOk out (t :: runTok v f (run - k)) := fun t k e hk h0 h18 hx h16 => by
        have ih := runTok_tell v hv f (run - k) (out ++ List.replicate k (v : Int)) (by omega) (fun _ => last_replicate out v k (.inl h0))
        rw [tell, e]
        refine ⟨?_, h18, hx, h16, by rw [e]; exact ih.2⟩
        rw [ih.1, List.append_assoc, List.replicate_append_replicate, show k + (run - k) = run by omega]
      by_cases c3 : run < 3
      · rw [if_pos c3]
        refine step (v, 0) 1 ?_ (by omega) (by omega) (by simp only; omega) (Nat.pow_pos (by omega)) (fun h => by simp only at h; omega)
        rw [tadd, if_pos (by simp only; omega)]
        rfl
      · rw [if_neg c3]
        by_cases cv : 0 < v
        · rw [if_pos cv]
          obtain ⟨l1, l2⟩ := hl cv
          refine step (16, min run 6 - 3) (min run 6) ?_ (by omega) (by omega) (by simp) (by simp only [tkb, if_true]; omega) (fun _ => l1)
          rw [tadd, if_neg (by simp), if_pos rfl, l2]
          congr 1
          simp only
          omega
        · rw [if_neg cv]
          obtain rfl : v = 0 := by omega
          by_cases c11 : run < 11
          · rw [if_pos c11]
            have := step (17, run - 3) run ?_ (by omega) (by omega) (by simp) (by show run - 3 < 2 ^ 3; omega) (fun h => by simp at h)
            · rw [Nat.sub_self] at this
              exact this
            · rw [tadd, if_neg (by simp), if_neg (by simp), if_pos rfl]
              congr 1
              simp only
              omega
          · rw [if_neg c11]
            refine step (18, min run 138 - 11) (min run 138) ?_ (by omega) (by omega) (by simp) (by show min run 138 - 11 < 2 ^ 7; omega) (fun h => by simp at h)
            rw [tadd, if_neg (by simp), if_neg (by simp), if_neg (by simp)]
            congr 1
            simp only
            omega

end Go.Proofs.Ytmfijackgekioaa.Rf

/-
  All lengths, told as the program tells them. For Deflates.
-/
namespace Go.Proofs.Ytmfijackgekioaa.Rf

/-- How many at the beginning are v. -/
def runLen (v : Nat) : List Nat → Nat
  | [] => 0
  | x :: r => if x = v then runLen v r + 1 else 0
theorem runLen_le (v : Nat) : ∀ (l : List Nat), runLen v l ≤ l.length
  | [] => Nat.le_refl _
  | x :: r => by
    have := runLen_le v r
    rw [runLen, List.length_cons]
    split <;> omega
theorem runLen_take (v : Nat) : ∀ (l : List Nat), l = List.replicate (runLen v l) v ++ l.drop (runLen v l)
  | [] => by simp [runLen]
  | x :: r => by
    rw [runLen]
    split
    · rename_i h
      have := runLen_take v r
      rw [List.replicate_succ, List.drop_succ_cons, List.cons_append, h, ← this]
    · simp

def oneTok (v run : Nat) : List (Nat × Nat) := if 0 < v then (v, 0) :: runTok v run (run - 1) else runTok v run run
def eachTok : Nat → List Nat → List (Nat × Nat)
  | 0, _ => []
  | _ + 1, [] => []
  | f + 1, v :: r => oneTok v (runLen v (v :: r)) ++ eachTok f ((v :: r).drop (runLen v (v :: r)))

theorem oneTok_tell (v run : Nat) (hv : v ≤ 15) (hr : 1 ≤ run) (out : List Int) : tell out (oneTok v run) = out ++ List.replicate run (v : Int) ∧ TellOk out (oneTok v run) := by
  unfold oneTok
  by_cases h : 0 < v
  · rw [if_pos h]
    have e : tadd out (v, 0) = [(v : Int)] := by rw [tadd, if_pos (by simp only; omega)]
    have ih := runTok_tell v hv run (run - 1) (out ++ [(v : Int)]) (by omega) (fun _ => last_replicate out v 1 (.inl (by omega)))
    rw [tell, e]
    refine ⟨?_, by simp only; omega, Nat.pow_pos (by omega), fun h => by simp only at h; omega, by rw [e]; exact ih.2⟩
    obtain ⟨n, rfl⟩ : ∃ n, run = n + 1 := ⟨run - 1, by omega⟩
    rw [ih.1, List.append_assoc, Nat.add_sub_cancel, List.replicate_succ]
    rfl
  · rw [if_neg h]
    exact runTok_tell v hv run run out (Nat.le_refl _) (fun h' => absurd h' h)

theorem eachTok_tell : ∀ (f : Nat) (l : List Nat) (out : List Int), l.length ≤ f → (∀ x, x ∈ l → x ≤ 15) → tell out (eachTok f l) = out ++ l.map (fun (x : Nat) => (x : Int)) ∧ TellOk out (eachTok f l)
  | 0, l, out, h, _ => by
    obtain rfl : l = [] := List.eq_nil_of_length_eq_zero (by omega)
    exact ⟨by simp [eachTok, tell], trivial⟩
  | f + 1, [], out, _, _ => ⟨by simp [eachTok, tell], trivial⟩
  | f + 1, v :: r, out, h, hx => by
    have h1 : 1 ≤ runLen v (v :: r) := by rw [runLen, if_pos rfl]; omega
    have hle := runLen_le v (v :: r)
    have hsp := runLen_take v (v :: r)
    have ho := oneTok_tell v (runLen v (v :: r)) (hx v List.mem_cons_self) h1 out
    rw [List.length_cons] at h hle
    have ih := eachTok_tell f ((v :: r).drop (runLen v (v :: r))) (out ++ List.replicate (runLen v (v :: r)) (v : Int)) (by rw [List.length_drop, List.length_cons]; omega) (fun x hm => hx x (List.mem_of_mem_drop hm))
    rw [eachTok, tell_append, ho.1]
    refine ⟨?_, tellOk_append _ _ _ ho.2 (by rw [ho.1]; exact ih.2)⟩
    rw [ih.1]
    conv => rhs; rw [hsp]
    rw [List.map_append, List.map_replicate, List.append_assoc]

end Go.Proofs.Ytmfijackgekioaa.Rf

/-
  Sorted, those of one weight in their order; two sorted lists that become one. Plain. For Deflates.
-/
namespace Go.Proofs.Ytmfijackgekioaa.Rf

section
variable {α : Type} {wt : α → Int}

/-- By weight, and of one weight by number. -/
def lx (wt : α → Int) (a b : α × Nat) : Prop := wt a.1 < wt b.1 ∨ (wt a.1 = wt b.1 ∧ a.2 < b.2)
theorem lx_asymm {a b : α × Nat} (h : lx wt a b) (k : lx wt b a) : False := by
  unfold lx at h k; omega
theorem lx_trans {a b c : α × Nat} (h : lx wt a b) (k : lx wt b c) : lx wt a c := by
  unfold lx at *; omega

/-- A list sorted, those of one weight in their order. -/
def Stable (wt : α → Int) (l l' : List α) : Prop := ∃ t : List (α × Nat), t.Perm l.zipIdx ∧ t.Pairwise (lx wt) ∧ l' = t.map Prod.fst

theorem Stable.perm {l l' : List α} (h : Stable wt l l') : l'.Perm l := by
  obtain ⟨t, h1, _, rfl⟩ := h
  have := h1.map Prod.fst
  rwa [List.zipIdx_map_fst] at this
theorem Stable.sorted {l l' : List α} (h : Stable wt l l') : l'.Pairwise (fun a b => wt a ≤ wt b) := by
  obtain ⟨t, _, h2, rfl⟩ := h
  rw [List.pairwise_map]
  exact h2.imp (fun {a b} hh => by unfold lx at hh; omega)
theorem zipIdx_lx {l : List α} (h : l.Pairwise (fun a b => wt a ≤ wt b)) (k : Nat) : (l.zipIdx k).Pairwise (lx wt) := by
  rw [List.pairwise_iff_getElem] at h ⊢
  intro i j hi hj hij
  simp only [List.getElem_zipIdx]
  have := h i j (by simpa using hi) (by simpa using hj) hij
  unfold lx
  simp only
  omega
/-- What is sorted stays as it is. -/
theorem Stable.self {l : List α} (h : l.Pairwise (fun a b => wt a ≤ wt b)) : Stable wt l l :=
  ⟨l.zipIdx, List.Perm.refl _, zipIdx_lx h 0, (List.zipIdx_map_fst 0 l).symm⟩

theorem sorted_unique {s t : List (α × Nat)} (hs : s.Pairwise (lx wt)) (ht : t.Pairwise (lx wt)) (hp : s.Perm t) : s = t :=
  List.Perm.eq_of_pairwise (fun _ _ _ _ h k => (lx_asymm h k).elim) hs ht hp

theorem filter_take_pre {β : Type} (p : β → Bool) (l : List β) (c : Nat) : (l.take c).filter p = (l.filter p).take ((l.take c).filter p).length ∧ (l.drop c).filter p = (l.filter p).drop ((l.take c).filter p).length := by
  have e : l.filter p = (l.take c).filter p ++ (l.drop c).filter p := by rw [← List.filter_append, List.take_append_drop]
  constructor
  · rw [e, List.take_left']
    rfl
  · rw [e, List.drop_left']
    rfl

theorem zip_low (S P : List α) : ((S ++ P).zipIdx).filter (fun x => decide (x.2 < S.length)) = S.zipIdx := by
  rw [List.zipIdx_append, List.filter_append]
  have a : (S.zipIdx).filter (fun x => decide (x.2 < S.length)) = S.zipIdx := by
    rw [List.filter_eq_self]
    rintro ⟨x, i⟩ h
    have := List.mem_zipIdx h
    simp; omega
  have b : (P.zipIdx (0 + S.length)).filter (fun x => decide (x.2 < S.length)) = [] := by
    rw [List.filter_eq_nil_iff]
    rintro ⟨x, i⟩ h
    have := List.mem_zipIdx h
    simp; omega
  rw [a, b, List.append_nil]
theorem zip_high (S P : List α) : ((S ++ P).zipIdx).filter (fun x => !decide (x.2 < S.length)) = P.zipIdx S.length := by
  rw [List.zipIdx_append, List.filter_append]
  have a : (S.zipIdx).filter (fun x => !decide (x.2 < S.length)) = [] := by
    rw [List.filter_eq_nil_iff]
    rintro ⟨x, i⟩ h
    have := List.mem_zipIdx h
    simp; omega
  have b : (P.zipIdx (0 + S.length)).filter (fun x => !decide (x.2 < S.length)) = P.zipIdx (0 + S.length) := by
    rw [List.filter_eq_self]
    rintro ⟨x, i⟩ h
    have := List.mem_zipIdx h
    simp; omega
  rw [a, b, List.nil_append, Nat.zero_add]

/-- Of two sorted lists that become one the first ones are the first ones of each. -/
theorem Stable.firsts {S P l : List α} (h : Stable wt (S ++ P) l) (hS : S.Pairwise (fun a b => wt a ≤ wt b)) (hP : P.Pairwise (fun a b => wt a ≤ wt b)) (c : Nat) (hc : c ≤ l.length) :
    ∃ a b, a ≤ S.length ∧ b ≤ P.length ∧ a + b = c ∧ (l.take c).Perm (S.take a ++ P.take b) ∧ ∀ i (hi : i < S.length), a ≤ i → ∀ j (hj : j < P.length), j < b → wt P[j] < wt S[i] := by
  obtain ⟨t, h1, h2, rfl⟩ := h
  have eS : t.filter (fun x => decide (x.2 < S.length)) = S.zipIdx := by
    refine sorted_unique (h2.filter _) (zipIdx_lx hS 0) ?_
    have := h1.filter (fun x => decide (x.2 < S.length))
    rwa [zip_low] at this
  have eP : t.filter (fun x => !decide (x.2 < S.length)) = P.zipIdx S.length := by
    refine sorted_unique (h2.filter _) (zipIdx_lx hP S.length) ?_
    have := h1.filter (fun x => !decide (x.2 < S.length))
    rwa [zip_high] at this
  obtain ⟨s1, s2⟩ := filter_take_pre (fun x => decide (x.2 < S.length)) t c
  obtain ⟨p1, p2⟩ := filter_take_pre (fun x => !decide (x.2 < S.length)) t c
  rw [eS] at s1 s2
  rw [eP] at p1 p2
  generalize ea : ((t.take c).filter (fun x => decide (x.2 < S.length))).length = a at s1 s2
  generalize eb : ((t.take c).filter (fun x => !decide (x.2 < S.length))).length = b at p1 p2
  have hperm := List.filter_append_perm (fun x : α × Nat => decide (x.2 < S.length)) (t.take c)
  have hla : a ≤ S.length := by rw [← ea, s1]; simp only [List.length_take, List.length_zipIdx]; omega
  have hlb : b ≤ P.length := by rw [← eb, p1]; simp only [List.length_take, List.length_zipIdx]; omega
  refine ⟨a, b, hla, hlb, ?_, ?_, ?_⟩
  · have := hperm.length_eq
    rw [List.length_append, ea, eb, List.length_take] at this
    simp only [List.length_map] at hc
    omega
  · have := hperm.map Prod.fst
    rw [s1, p1, List.map_append, List.map_take, List.map_take, List.zipIdx_map_fst, List.zipIdx_map_fst] at this
    rw [← List.map_take]
    exact this.symm
  · intro i hi hai j hj hjb
    have m1 : (P[j], S.length + j) ∈ t.take c := by
      have : (P[j], S.length + j) ∈ (P.zipIdx S.length).take b := by
        rw [List.mem_take_iff_getElem]
        exact ⟨j, by simp; omega, by simp⟩
      rw [← p1] at this
      exact (List.mem_filter.1 this).1
    have m2 : (S[i], i) ∈ t.drop c := by
      have : (S[i], i) ∈ (S.zipIdx).drop a := by
        rw [List.mem_drop_iff_getElem]
        exact ⟨i - a, by simp; omega, by simp [show a + (i - a) = i from by omega]⟩
      rw [← s2] at this
      exact (List.mem_filter.1 this).1
    have hh := h2
    rw [← List.take_append_drop c t, List.pairwise_append] at hh
    have := hh.2.2 _ m1 _ m2
    unfold lx at this
    simp only at this
    omega
end
end Go.Proofs.Ytmfijackgekioaa.Rf

/-
  Bundles paired over and over, and how often a number is in the lightest: the lengths are full. Plain. For Deflates.
-/
namespace Go.Proofs.Ytmfijackgekioaa.Rf

section
variable {α : Type} {wt : α → Int} {ns : α → List Nat}

/-- The numbers of some bundles, as often as they come. -/
def cnt (ns : α → List Nat) (x : Nat) (l : List α) : Nat := (l.flatMap ns).count x
theorem cnt_append (x : Nat) (a b : List α) : cnt ns x (a ++ b) = cnt ns x a + cnt ns x b := by simp [cnt]
theorem cnt_perm {x : Nat} {a b : List α} (h : a.Perm b) : cnt ns x a = cnt ns x b := (h.flatMap_right ns).count_eq x

/-- Each two put into one; one that is left over is left out. -/
def Paired (wt : α → Int) (ns : α → List Nat) (row out : List α) : Prop :=
  out.length = row.length / 2 ∧ ∀ j (h : j < out.length) (h1 : 2 * j < row.length) (h2 : 2 * j + 1 < row.length), wt out[j] = wt row[2 * j] + wt row[2 * j + 1] ∧ ns out[j] = ns row[2 * j] ++ ns row[2 * j + 1]

/-- The rows of bundles, each made of the singles and the pairs of the one ahead. -/
def Rows (wt : α → Int) (ns : α → List Nat) (S : List α) : Nat → List α → Prop
  | 0, row => row = []
  | k + 1, row => ∃ r ps, Rows wt ns S k r ∧ Paired wt ns r ps ∧ Stable wt (S ++ ps) row

theorem Rows.one {S : List α} (h : S.Pairwise (fun a b => wt a ≤ wt b)) : Rows wt ns S 1 S :=
  ⟨[], [], rfl, ⟨by simp, fun j h => absurd h (by simp)⟩, by rw [List.append_nil]; exact Stable.self h⟩

theorem Paired.sorted {row out : List α} (h : Paired wt ns row out) (hr : row.Pairwise (fun a b => wt a ≤ wt b)) : out.Pairwise (fun a b => wt a ≤ wt b) := by
  rw [List.pairwise_iff_getElem] at hr ⊢
  obtain ⟨h1, h2⟩ := h
  intro i j hi hj hij
  rw [(h2 i hi (by omega) (by omega)).1, (h2 j hj (by omega) (by omega)).1]
  have a := hr (2 * i) (2 * j) (by omega) (by omega) (by omega)
  have b := hr (2 * i + 1) (2 * j + 1) (by omega) (by omega) (by omega)
  omega
theorem Paired.pos {row out : List α} (h : Paired wt ns row out) (hr : ∀ x ∈ row, 0 ≤ wt x) : ∀ x ∈ out, 0 ≤ wt x := by
  obtain ⟨h1, h2⟩ := h
  intro x hx
  obtain ⟨j, hj, rfl⟩ := List.getElem_of_mem hx
  rw [(h2 j hj (by omega) (by omega)).1]
  have a := hr _ (List.getElem_mem (l := row) (n := 2 * j) (by omega))
  have b := hr _ (List.getElem_mem (l := row) (n := 2 * j + 1) (by omega))
  omega
theorem Paired.firsts {row out : List α} (h : Paired wt ns row out) (x : Nat) : ∀ b, b ≤ out.length → cnt ns x (out.take b) = cnt ns x (row.take (2 * b))
  | 0, _ => by simp [cnt]
  | b + 1, hb => by
    have ih := Paired.firsts h x b (by omega)
    obtain ⟨h1, h2⟩ := h
    have e1 : out.take (b + 1) = out.take b ++ [out[b]] := by rw [List.take_succ_eq_append_getElem (by omega)]
    have e2 : row.take (2 * (b + 1)) = row.take (2 * b) ++ [row[2 * b], row[2 * b + 1]] := by
      have q1 : row.take (2 * b + 1 + 1) = row.take (2 * b + 1) ++ [row[2 * b + 1]] := List.take_succ_eq_append_getElem (by omega)
      have q2 : row.take (2 * b + 1) = row.take (2 * b) ++ [row[2 * b]] := List.take_succ_eq_append_getElem (by omega)
      rw [show 2 * (b + 1) = 2 * b + 1 + 1 from by omega, q1, q2, List.append_assoc]
      rfl
    rw [e1, e2, cnt_append, cnt_append, ih]
    have := (h2 b (by omega) (by omega) (by omega)).2
    simp [cnt, this]

theorem Rows.good {S : List α} (hS : S.Pairwise (fun a b => wt a ≤ wt b)) (hp : ∀ x ∈ S, 0 ≤ wt x) : ∀ (k : Nat) (row : List α), Rows wt ns S k row → row.Pairwise (fun a b => wt a ≤ wt b) ∧ ∀ x ∈ row, 0 ≤ wt x
  | 0, row, h => by cases h; simp
  | k + 1, row, ⟨r, ps, h1, h2, h3⟩ => by
    have ih := Rows.good hS hp k r h1
    refine ⟨h3.sorted, fun x hx => ?_⟩
    rcases List.mem_append.1 ((h3.perm.mem_iff).1 hx) with q | q
    · exact hp x q
    · exact h2.pos ih.2 x q

theorem Rows.long {S : List α} : ∀ (k : Nat) (row : List α), Rows wt ns S k row → 0 < S.length → row.length < 2 * S.length ∧ (2 * S.length - row.length - 1) * 2 ^ k ≤ 2 * S.length - 1
  | 0, row, h, hn => by cases h; simp; omega
  | k + 1, row, ⟨r, ps, h1, h2, h3⟩, hn => by
    obtain ⟨i1, i2⟩ := Rows.long k r h1 hn
    have e := h3.perm.length_eq
    rw [List.length_append, h2.1] at e
    refine ⟨by omega, ?_⟩
    have : (2 * S.length - row.length - 1) * 2 ≤ 2 * S.length - r.length - 1 := by omega
    calc (2 * S.length - row.length - 1) * 2 ^ (k + 1) = (2 * S.length - row.length - 1) * 2 * 2 ^ k := by rw [Nat.pow_succ, Nat.mul_assoc, Nat.mul_comm 2 (2 ^ k)]
      _ ≤ (2 * S.length - r.length - 1) * 2 ^ k := Nat.mul_le_mul_right _ this
      _ ≤ _ := i2
theorem Rows.enough {S row : List α} {k : Nat} (h : Rows wt ns S k row) (hn : 0 < S.length) (hk : S.length ≤ 2 ^ k) : 2 * S.length - 2 ≤ row.length := by
  obtain ⟨h1, h2⟩ := Rows.long k row h hn
  by_cases c : 2 ≤ 2 * S.length - row.length - 1
  · have : 2 * 2 ^ k ≤ (2 * S.length - row.length - 1) * 2 ^ k := Nat.mul_le_mul_right _ c
    omega
  · omega

/-- How many singles are chosen in each row, the last row's first: they add up to c, halving. -/
def Adds : List Nat → Nat → Prop
  | [], c => c = 0
  | a :: aas, c => ∃ p, c = a + p ∧ Adds aas (2 * p)
/-- They fall. -/
def Falls : Nat → List Nat → Prop
  | _, [] => True
  | m, a :: aas => a ≤ m ∧ Falls a aas
theorem Falls.mono {m m' : Nat} (h : m ≤ m') : ∀ {aas : List Nat}, Falls m aas → Falls m' aas
  | [], _ => trivial
  | _ :: _, hh => ⟨Nat.le_trans hh.1 h, hh.2⟩

theorem Rows.chosen {S : List α} (hS : S.Pairwise (fun a b => wt a ≤ wt b)) (hp : ∀ x ∈ S, 0 ≤ wt x) : ∀ (k : Nat) (row : List α), Rows wt ns S k row → ∀ c, c ≤ row.length →
    ∃ aas : List Nat, aas.length = k ∧ Adds aas c ∧ Falls S.length aas ∧ (∀ x, cnt ns x (row.take c) = (aas.map (fun a => cnt ns x (S.take a))).sum) ∧
      (∀ a aas', aas = a :: aas' → ∀ y ∈ S.take a, y ∈ row.take c) ∧ (2 ≤ S.length → 2 * S.length - 2 ≤ c → ∃ aas', aas = S.length :: aas')
  | 0, row, h, c, hc => by
    cases h
    simp at hc
    subst hc
    exact ⟨[], rfl, rfl, trivial, fun x => by simp [cnt], fun a aas' e => by simp at e, fun h2 h3 => by omega⟩
  | k + 1, row, ⟨r, ps, h1, h2, h3⟩, c, hc => by
    obtain ⟨gs, gp⟩ := Rows.good hS hp k r h1
    obtain ⟨a, b, ha, hb, hab, hperm, hlt⟩ := h3.firsts hS (h2.sorted gs) c hc
    have hb2 : 2 * b ≤ r.length := by have := h2.1; omega
    obtain ⟨aas, e1, e2, e3, e4, e5, e6⟩ := Rows.chosen hS hp k r h1 (2 * b) hb2
    have fall : Falls a aas := by
      cases aas with
      | nil => trivial
      | cons a' aas' =>
        refine ⟨?_, e3.2⟩
        by_cases q : a' ≤ a
        · exact q
        · have ha' : a' ≤ S.length := e3.1
          have haS : a < S.length := by omega
          have m : S[a] ∈ r.take (2 * b) := by
            refine e5 a' aas' rfl _ ?_
            rw [List.mem_take_iff_getElem]
            exact ⟨a, by omega, rfl⟩
          rw [List.mem_take_iff_getElem] at m
          obtain ⟨i, hi, hie⟩ := m
          have hps := h2.2 (i / 2) (by omega) (by omega) (by omega)
          have hl := hlt a haS (Nat.le_refl _) (i / 2) (by omega) (by omega)
          rw [hps.1] at hl
          have z1 := gp _ (List.getElem_mem (l := r) (n := 2 * (i / 2)) (by omega))
          have z2 := gp _ (List.getElem_mem (l := r) (n := 2 * (i / 2) + 1) (by omega))
          have hle : wt S[a] ≤ wt r[2 * (i / 2)] + wt r[2 * (i / 2) + 1] := by
            rw [← hie]
            rcases Nat.mod_two_eq_zero_or_one i with q | q
            · have : i = 2 * (i / 2) := by omega
              have e : r[i] = r[2 * (i / 2)] := by congr 1
              rw [e]; omega
            · have : i = 2 * (i / 2) + 1 := by omega
              have e : r[i] = r[2 * (i / 2) + 1] := by congr 1
              rw [e]; omega
          omega
    refine ⟨a :: aas, by simp [e1], ⟨b, hab.symm, e2⟩, ⟨ha, fall⟩, fun x => ?_, ?_, ?_⟩
    · rw [cnt_perm hperm, cnt_append, h2.firsts x b hb, e4 x]
      simp
    · intro a0 as0 e y hy
      simp at e
      obtain ⟨rfl, rfl⟩ := e
      exact (hperm.mem_iff).2 (List.mem_append_left _ hy)
    · intro n2 hc2
      by_cases q : a = S.length
      · exact ⟨aas, by rw [q]⟩
      · obtain ⟨aas', e⟩ := e6 n2 (by omega)
        subst e
        have := fall.1
        omega

/-- How often place i is among the first a, for all a of a list. -/
def deep (aas : List Nat) (i : Nat) : Nat := (aas.map (fun a => if i < a then 1 else 0)).sum
theorem deep_le (i : Nat) : ∀ aas : List Nat, deep aas i ≤ aas.length
  | [] => by simp [deep]
  | a :: aas => by
    have := deep_le i aas
    simp only [deep, List.map_cons, List.sum_cons, List.length_cons] at *
    split <;> omega
theorem deep_zero {i m : Nat} (h : m ≤ i) : ∀ {aas : List Nat}, Falls m aas → deep aas i = 0
  | [], _ => by simp [deep]
  | a :: aas, hh => by
    have := deep_zero (i := i) (m := a) (Nat.le_trans hh.1 h) hh.2
    simp only [deep, List.map_cons, List.sum_cons] at *
    have := hh.1
    rw [if_neg (by omega)]
    omega

/-- The sum of 2 to the power of what is left of k. -/
def weighF (k : Nat) (aas : List Nat) : Nat → Nat
  | 0 => 0
  | m + 1 => weighF k aas m + 2 ^ (k - deep aas m)
theorem weighF_cons (a : Nat) (aas : List Nat) (hf : Falls a aas) : ∀ m, weighF (aas.length + 1) (a :: aas) m = weighF aas.length aas (min m a) + (m - a) * 2 ^ (aas.length + 1)
  | 0 => by simp [weighF]
  | m + 1 => by
    rw [weighF, weighF_cons a aas hf m]
    by_cases q : m < a
    · have d : deep (a :: aas) m = 1 + deep aas m := by simp [deep, q]
      rw [show min (m + 1) a = min m a + 1 from by omega, weighF, show min m a = m from by omega, d, show m - a = 0 from by omega, show m + 1 - a = 0 from by omega]
      have := deep_le m aas
      rw [show aas.length + 1 - (1 + deep aas m) = aas.length - deep aas m from by omega]
      omega
    · have d : deep (a :: aas) m = 0 := deep_zero (m := a) (by omega) ⟨Nat.le_refl _, hf⟩
      rw [d, show min (m + 1) a = min m a from by omega, show m + 1 - a = (m - a) + 1 from by omega, Nat.add_mul, Nat.sub_zero]
      omega
theorem weighF_adds : ∀ (aas : List Nat) (c m : Nat), Falls m aas → Adds aas c → 2 * weighF aas.length aas m + 2 ^ aas.length * c = 2 * (2 ^ aas.length * m)
  | [], c, m, _, h => by
    cases h
    have : ∀ m, weighF 0 [] m = m := by
      intro m
      induction m with
      | zero => rfl
      | succ m ih => rw [weighF, ih]; simp
    simp [this]
  | a :: aas, c, m, ⟨hm, hf⟩, ⟨p, hc, hp⟩ => by
    have ih := weighF_adds aas (2 * p) a hf hp
    rw [List.length_cons, weighF_cons a aas hf, Nat.min_eq_right hm, hc]
    obtain ⟨d, rfl⟩ : ∃ d, m = a + d := ⟨m - a, by omega⟩
    rw [show a + d - a = d from by omega, Nat.pow_succ]
    generalize weighF aas.length aas a = F at *
    generalize 2 ^ aas.length = Z at *
    have e1 : d * (Z * 2) = 2 * (Z * d) := by rw [Nat.mul_comm Z 2, ← Nat.mul_assoc, Nat.mul_comm d 2, Nat.mul_assoc, Nat.mul_comm d Z]
    have e2 : Z * 2 * (a + p) = 2 * (Z * a) + 2 * (Z * p) := by rw [Nat.mul_add, Nat.mul_comm Z 2, Nat.mul_assoc, Nat.mul_assoc]
    have e3 : Z * 2 * (a + d) = 2 * (Z * a) + 2 * (Z * d) := by rw [Nat.mul_add, Nat.mul_comm Z 2, Nat.mul_assoc, Nat.mul_assoc]
    have e4 : Z * (2 * p) = 2 * (Z * p) := by rw [← Nat.mul_assoc, Nat.mul_comm Z 2, Nat.mul_assoc]
    rw [e1, e2, e3]
    rw [e4] at ih
    omega
/-- Two numbers or more: full. -/
theorem weighF_full {aas : List Nat} {n : Nat} (hn : 2 ≤ n) (hf : Falls n aas) (ha : Adds aas (2 * n - 2)) : weighF aas.length aas n = 2 ^ aas.length := by
  have := weighF_adds aas (2 * n - 2) n hf ha
  have e : 2 ^ aas.length * (2 * n - 2) + 2 * 2 ^ aas.length = 2 * (2 ^ aas.length * n) := by
    rw [Nat.mul_comm 2 (2 ^ aas.length), ← Nat.mul_add, show 2 * n - 2 + 2 = 2 * n from by omega, Nat.mul_comm 2 n, ← Nat.mul_assoc, Nat.mul_comm _ 2]
  omega
end
end Go.Proofs.Ytmfijackgekioaa.Rf
