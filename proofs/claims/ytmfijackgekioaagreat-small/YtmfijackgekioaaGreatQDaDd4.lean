import Derived.Test.YtmfijackgekioaaGreatQSmRo4

/-
  What is written can be read: numbers and codes, as plain lists of bits. For Deflates.
-/
namespace Go.Proofs.YtmfijackgekioaaGreat.Rf

/-- Some bits stand in a list at a place. -/
def At (L : List Int) (p : Nat) (b : List Int) : Prop := p + b.length ≤ L.length ∧ ∀ j, j < b.length → L.getD (p + j) 0 = b.getD j 0

theorem At.left {L : List Int} {p : Nat} {a b : List Int} (h : At L p (a ++ b)) : At L p a := by
  obtain ⟨h1, h2⟩ := h
  rw [List.length_append] at h1 h2
  refine ⟨by omega, fun j hj => ?_⟩
  rw [h2 j (by omega)]
  simp only [List.getD_eq_getElem?_getD]
  rw [List.getElem?_append_left hj]
theorem At.right {L : List Int} {p : Nat} {a b : List Int} (h : At L p (a ++ b)) : At L (p + a.length) b := by
  obtain ⟨h1, h2⟩ := h
  rw [List.length_append] at h1 h2
  refine ⟨by omega, fun j hj => ?_⟩
  have := h2 (a.length + j) (by omega)
  rw [Nat.add_assoc, this]
  simp only [List.getD_eq_getElem?_getD]
  rw [List.getElem?_append_right (by omega), Nat.add_sub_cancel_left]
theorem At.of {L a b c : List Int} (h : L = a ++ b ++ c) : At L a.length b := by
  subst h
  refine ⟨by simp, fun j hj => ?_⟩
  simp only [List.getD_eq_getElem?_getD, List.append_assoc]
  rw [List.getElem?_append_right (by omega), Nat.add_sub_cancel_left, List.getElem?_append_left hj]

/-- A number's bits, the lowest first. -/
def nb (v : Nat) : Nat → List Int
  | 0 => []
  | k + 1 => nb v k ++ [((v / 2 ^ k % 2 : Nat) : Int)]
theorem nb_length (v k : Nat) : (nb v k).length = k := by
  induction k with
  | zero => rfl
  | succ k ih => rw [nb, List.length_append, ih]; rfl
theorem bv_nb {L : List Int} {p v : Nat} : ∀ (k : Nat), At L p (nb v k) → bv L p k = ((v % 2 ^ k : Nat) : Int)
  | 0, _ => by simp [bv, Nat.mod_one]
  | k + 1, h => by
    rw [nb] at h
    have h1 := bv_nb k h.left
    have h2 := h.right.2 0 (by simp)
    rw [nb_length, Nat.add_zero] at h2
    rw [bv, h1, h2, Nat.mod_pow_succ]
    simp [Int.mul_comm]
theorem take_nb {L : List Int} {v k : Nat} {st : St} (h : At L st.pos (nb v k)) : take L st k = (((v % 2 ^ k : Nat) : Int), { st with pos := st.pos + k }) := by
  have hl := h.1
  rw [nb_length] at hl
  rw [take, if_neg (by omega), bv_nb k h]

/-- A code's bits, the highest first. -/
def cb (c : Nat) : Nat → List Int
  | 0 => []
  | k + 1 => ((c / 2 ^ k % 2 : Nat) : Int) :: cb c k
theorem cb_length (c k : Nat) : (cb c k).length = k := by
  induction k with
  | zero => rfl
  | succ k ih => rw [cb, List.length_cons, ih]

/-- A code is read behind its first n bits: no shorter one is met on the way. -/
theorem symF_cb {L ls code : List Int} {c i : Nat} : ∀ (k f n : Nat) (st : St), st.bad = false → k < f → At L st.pos (cb c (k + 1)) →
    (∀ m, m < k → find ls code ((n : Int) + 1 + m) ((c / 2 ^ (k - m) : Nat) : Int) = none) → find ls code ((n : Int) + 1 + k) (c : Int) = some i →
    symF L ls code f n ((c / 2 ^ (k + 1) : Nat) : Int) st = ((i : Int), { st with pos := st.pos + (k + 1) })
  | k, 0, n, st, _, hf, _, _, _ => absurd hf (by omega)
  | k, f + 1, n, st, hb, hf, ha, hn, hi => by
    have hb0 := ha.2 0 (by rw [cb_length]; omega)
    have hlen := ha.1
    rw [cb_length] at hlen
    have ht : take L st 1 = (((c / 2 ^ k % 2 : Nat) : Int), { st with pos := st.pos + 1 }) := by
      rw [take, if_neg (by omega)]
      simp only [bv, Nat.add_zero] at hb0 ⊢
      rw [hb0]
      simp [cb]
    have e2 : 2 * ((c / 2 ^ (k + 1) : Nat) : Int) + ((c / 2 ^ k % 2 : Nat) : Int) = ((c / 2 ^ k : Nat) : Int) := by
      have : c / 2 ^ (k + 1) = c / 2 ^ k / 2 := by rw [Nat.pow_succ, Nat.div_div_eq_div_mul]
      rw [this]
      omega
    rw [symF, ht]
    simp only [hb, e2, Bool.false_eq_true, if_false]
    cases k with
    | zero =>
      have hi' : find ls code ((n : Int) + 1) ((c / 2 ^ 0 : Nat) : Int) = some i := by simpa using hi
      rw [hi']
    | succ k =>
      have h0 := hn 0 (by omega)
      simp only [Int.ofNat_zero, Int.add_zero, Nat.sub_zero] at h0
      rw [h0]
      have ha' : At L (st.pos + 1) (cb c (k + 1)) := by
        have : cb c (k + 1 + 1) = [((c / 2 ^ (k + 1) % 2 : Nat) : Int)] ++ cb c (k + 1) := rfl
        rw [this] at ha
        exact ha.right
      have := symF_cb k f (n + 1) { st with pos := st.pos + 1, bad := false } rfl (by omega) ha' (fun m hm => by
        have := hn (m + 1) (by omega)
        rw [show k + 1 - (m + 1) = k - m by omega] at this
        rw [← this]
        congr 1
        omega) (by rw [← hi]; congr 1; omega)
      rw [this]
      simp only [Prod.mk.injEq, St.mk.injEq, and_true, true_and]
      omega

end Go.Proofs.YtmfijackgekioaaGreat.Rf

/-
  A block of kind 0 that is written can be read. For Deflates.
-/
namespace Go.Proofs.YtmfijackgekioaaGreat.Rf

/-- The bits of bytes. -/
def bb : List UInt8 → List Int
  | [] => []
  | c :: r => nb c.toNat 8 ++ bb r
theorem bb_length (t : List UInt8) : (bb t).length = 8 * t.length := by
  induction t with
  | nil => rfl
  | cons c r ih => rw [bb, List.length_append, nb_length, ih, List.length_cons]; omega

theorem plF_bb {L : List Int} : ∀ (t : List UInt8) (st : St), st.bad = false → At L st.pos (bb t) →
    plF L t.length st = { st with pos := st.pos + 8 * t.length, out := st.out ++ t }
  | [], st, _, _ => by simp [plF]
  | c :: r, st, hb, h => by
    rw [bb] at h
    have ht := take_nb h.left
    have hr := h.right
    rw [nb_length] at hr
    have hc : c.toNat % 2 ^ 8 = c.toNat := Nat.mod_eq_of_lt c.toNat_lt
    rw [hc] at ht
    rw [List.length_cons, plF, hb, ht]
    simp only [Bool.false_eq_true, if_false, Int.toNat_natCast, UInt8.ofNat_toNat]
    rw [plF_bb r { st with pos := st.pos + 8, out := st.out ++ [c] } hb hr]
    simp only [List.append_assoc, List.cons_append, List.nil_append]
    rw [show st.pos + 8 + 8 * r.length = st.pos + 8 * (r.length + 1) by omega, hb]

theorem plain_at {L : List Int} {limit : Int} {st : St} {t : List UInt8} (hb : st.bad = false) (hn : t.length ≤ 65535) (hl : (st.out.length : Int) + t.length ≤ limit)
    (h : At L ((st.pos + 7) / 8 * 8) (nb t.length 16 ++ (nb (65535 - t.length) 16 ++ bb t))) :
    plain L limit st = { st with pos := (st.pos + 7) / 8 * 8 + 32 + 8 * t.length, out := st.out ++ t } := by
  have h1 := take_nb (st := { st with pos := (st.pos + 7) / 8 * 8 }) h.left
  have hr := h.right
  rw [nb_length] at hr
  have h2 := take_nb (st := { st with pos := (st.pos + 7) / 8 * 8 + 16 }) hr.left
  have h3 := hr.right
  rw [nb_length] at h3
  rw [Nat.mod_eq_of_lt (by omega)] at h1 h2
  simp only at h1 h2
  unfold plain
  simp only
  rw [h1]
  simp only
  rw [h2]
  simp only
  have e : ((t.length : Nat) : Int) + ((65535 - t.length : Nat) : Int) = 65535 := by omega
  rw [if_pos e]
  simp only [hb, Bool.false_eq_true, if_false, Int.toNat_natCast]
  have hr0 : ∀ q : St, q.out = st.out → room limit q t.length = (true, q) := fun q hq => by
    rw [room, if_neg (by rw [hq]; omega)]
  rw [hr0 { st with pos := (st.pos + 7) / 8 * 8 + 16 + 16, bad := false } rfl]
  simp only [if_true]
  rw [plF_bb t _ rfl h3]

end Go.Proofs.YtmfijackgekioaaGreat.Rf

/-
  Symbols and copies that are written can be read. For Deflates.
-/
namespace Go.Proofs.YtmfijackgekioaaGreat.Rf

/-- These bits are number i's code. -/
def Reads (ls : List Int) (i : Nat) (b : List Int) : Prop := ∀ (L : List Int) (st : St), st.bad = false → At L st.pos b → symbol L ls (codes ls) st = ((i : Int), { st with pos := st.pos + b.length })

theorem room_ok (limit : Int) (st : St) (n : Nat) (h : (st.out.length : Int) + n ≤ limit) : room limit st n = (true, st) := by
  rw [room, if_neg (by omega)]

theorem symsF_lit {L : List Int} {limit : Int} {ls far b : List Int} {c f : Nat} {st : St} (hr : Reads ls c b) (hc : c < 256) (hb : st.bad = false) (hf : st.full = false)
    (hl : (st.out.length : Int) + 1 ≤ limit) (ha : At L st.pos b) :
    symsF L limit ls (codes ls) far (codes far) (f + 1) st = symsF L limit ls (codes ls) far (codes far) f { st with pos := st.pos + b.length, out := st.out ++ [UInt8.ofNat c] } := by
  rw [symsF, hr L st hb ha]
  simp only
  have e := room_ok limit { st with pos := st.pos + b.length } 1 hl
  rw [if_neg (by rw [hb, hf]; decide), if_neg (by rw [hb]; rintro (q | q); cases q; omega), if_pos (by omega), e]
  simp

theorem symsF_end {L : List Int} {limit : Int} {ls far b : List Int} {f : Nat} {st : St} (hr : Reads ls 256 b) (hb : st.bad = false) (hf : st.full = false) (ha : At L st.pos b) :
    symsF L limit ls (codes ls) far (codes far) (f + 1) st = { st with pos := st.pos + b.length } := by
  rw [symsF, hr L st hb ha]
  rw [if_neg (by rw [hb, hf]; decide), if_pos (.inr rfl)]

/-- How many extra bits a length and a distance have, and the least of each. -/
def lb (i : Nat) : Nat := if i = 28 then 0 else if 8 ≤ i then i / 4 - 1 else 0
def lbase (i : Nat) : Nat := if i = 28 then 258 else if 8 ≤ i then (4 + i % 4) * 2 ^ (i / 4 - 1) + 3 else i + 3
def db (j : Nat) : Nat := if 4 ≤ j then j / 2 - 1 else 0
def dbase (j : Nat) : Nat := if 4 ≤ j then (2 + j % 2) * 2 ^ (j / 2 - 1) + 1 else j + 1

theorem lenOf_nb {L : List Int} {i x : Nat} {st : St} (hx : x < 2 ^ lb i) (ha : At L st.pos (nb x (lb i))) : lenOf L i st = (lbase i + x, { st with pos := st.pos + lb i }) := by
  unfold lenOf
  by_cases h28 : i = 28
  · subst h28
    have e0 : lb 28 = 0 := rfl
    rw [e0] at hx
    obtain rfl : x = 0 := by omega
    rfl
  · by_cases h8 : 8 ≤ i
    · have e : lb i = i / 4 - 1 := by rw [lb, if_neg h28, if_pos h8]
      have e1 : lbase i = (4 + i % 4) * 2 ^ (i / 4 - 1) + 3 := by rw [lbase, if_neg h28, if_pos h8]
      rw [e] at ha hx ⊢
      rw [if_neg h28, if_pos h8, take_nb ha, Nat.mod_eq_of_lt hx, e1]
      simp
    · have e : lb i = 0 := by rw [lb, if_neg h28, if_neg h8]
      have e1 : lbase i = i + 3 := by rw [lbase, if_neg h28, if_neg h8]
      rw [e] at hx ⊢
      obtain rfl : x = 0 := by omega
      rw [if_neg h28, if_neg h8, e1]
      rfl
theorem distOf_nb {L : List Int} {j y : Nat} {st : St} (hy : y < 2 ^ db j) (ha : At L st.pos (nb y (db j))) : distOf L j st = (dbase j + y, { st with pos := st.pos + db j }) := by
  unfold distOf
  by_cases h4 : 4 ≤ j
  · have e : db j = j / 2 - 1 := by rw [db, if_pos h4]
    have e1 : dbase j = (2 + j % 2) * 2 ^ (j / 2 - 1) + 1 := by rw [dbase, if_pos h4]
    rw [e] at ha hy ⊢
    rw [if_pos h4, take_nb ha, Nat.mod_eq_of_lt hy, e1]
    simp
  · have e : db j = 0 := by rw [db, if_neg h4]
    have e1 : dbase j = j + 1 := by rw [dbase, if_neg h4]
    rw [e] at hy ⊢
    obtain rfl : y = 0 := by omega
    rw [if_neg h4, e1]
    rfl

theorem copied_nb {L : List Int} {limit : Int} {far b : List Int} {i j x y : Nat} {st : St} (hr : Reads far j b) (hj : j ≤ 29) (hx : x < 2 ^ lb i) (hy : y < 2 ^ db j) (hb : st.bad = false)
    (hd : dbase j + y ≤ st.out.length) (hl : (st.out.length : Int) + (lbase i + x : Nat) ≤ limit) (ha : At L st.pos (nb x (lb i) ++ (b ++ nb y (db j)))) :
    copied L limit i far (codes far) st = { st with pos := st.pos + lb i + b.length + db j, out := cpF (dbase j + y) (lbase i + x) st.out } := by
  have h1 := lenOf_nb hx ha.left
  have hr1 := ha.right
  rw [nb_length] at hr1
  have h2 := hr L { st with pos := st.pos + lb i } hb hr1.left
  have h3 := distOf_nb (st := { st with pos := st.pos + lb i + b.length }) hy hr1.right
  have h4 := room_ok limit { st with pos := st.pos + lb i + b.length + db j } (lbase i + x) hl
  unfold copied
  rw [h1]
  simp only
  rw [h2]
  simp only [Int.toNat_natCast]
  rw [h3]
  simp only
  rw [h4]
  simp only
  rw [if_neg (by rw [hb]; decide), if_neg (by rw [hb]; rintro (q | q); cases q; omega), if_neg (by rw [hb]; rintro (q | q); cases q; omega)]
  simp

end Go.Proofs.YtmfijackgekioaaGreat.Rf

/-
  A text's steps that are written with some codes can be read. For Deflates.
-/
namespace Go.Proofs.YtmfijackgekioaaGreat.Rf

theorem take_getD (T : List UInt8) (p k : Nat) (h : k < p) : (T.take p).getD k 0 = T.getD k 0 := by
  simp only [List.getD_eq_getElem?_getD, List.getElem?_take, if_pos h]
theorem take_succ_getD (T : List UInt8) (p : Nat) (h : p < T.length) : T.take (p + 1) = T.take p ++ [T.getD p 0] := by
  rw [List.take_succ_eq_append_getElem h, List.getD_eq_getElem?_getD, List.getElem?_eq_getElem h]
  rfl

/-- A copy from what came before. -/
theorem cpF_take (T : List UInt8) (d : Nat) (hd : 1 ≤ d) : ∀ (l p : Nat), d ≤ p → p + l ≤ T.length → (∀ k, k < l → T.getD (p + k) 0 = T.getD (p + k - d) 0) → cpF d l (T.take p) = T.take (p + l)
  | 0, p, _, _, _ => rfl
  | l + 1, p, hp, hl, h => by
    have e : (T.take p).length = p := by rw [List.length_take]; omega
    rw [cpF, e, take_getD _ _ _ (by omega)]
    have h0 := h 0 (by omega)
    rw [Nat.add_zero] at h0
    rw [← h0, ← take_succ_getD T p (by omega), cpF_take T d hd l (p + 1) (by omega) (by omega) (fun k hk => by
      have := h (k + 1) (by omega)
      rw [show p + 1 + k = p + (k + 1) by omega]
      exact this)]
    rw [show p + 1 + l = p + (l + 1) by omega]

/-- The number of a length and of a distance. -/
def blen (x : Nat) : Nat := if x = 0 then 0 else x.log2 + 1
def lix (l : Nat) : Nat := if l = 258 then 28 else 4 * (blen (l - 3) - 3) + (l - 3) / 2 ^ (blen (l - 3) - 3)
def dix (d : Nat) : Nat := 2 * (blen (d - 1) - 2) + (d - 1) / 2 ^ (blen (d - 1) - 2)
theorem lix_ok (l : Nat) (h1 : 3 ≤ l) (h2 : l ≤ 258) : lix l ≤ 28 ∧ lbase (lix l) ≤ l ∧ l - lbase (lix l) < 2 ^ lb (lix l) := by
  have : ∀ l : Fin 259, 3 ≤ l.val → lix l.val ≤ 28 ∧ lbase (lix l.val) ≤ l.val ∧ l.val - lbase (lix l.val) < 2 ^ lb (lix l.val) := by decide +kernel
  exact this ⟨l, by omega⟩ h1

/-- One thing that comes next: a byte (of distance 0), or a copy. -/
def StepOk (T : List UInt8) (p : Nat) (s : Nat × Nat) : Prop :=
  (s.2 = 0 ∧ s.1 = 1 ∧ p < T.length) ∨ (3 ≤ s.1 ∧ s.1 ≤ 258 ∧ 1 ≤ s.2 ∧ s.2 ≤ 32768 ∧ s.2 ≤ p ∧ p + s.1 ≤ T.length ∧ ∀ k, k < s.1 → T.getD (p + k) 0 = T.getD (p + k - s.2) 0)
def Fits (T : List UInt8) : Nat → List (Nat × Nat) → Nat → Prop
  | p, [], q => p = q
  | p, s :: r, q => StepOk T p s ∧ Fits T (p + s.1) r q
/-- Its bits. -/
def stepBits (sb fb : Nat → List Int) (T : List UInt8) (p : Nat) (s : Nat × Nat) : List Int :=
  if s.2 = 0 then sb (T.getD p 0).toNat
  else sb (257 + lix s.1) ++ (nb (s.1 - lbase (lix s.1)) (lb (lix s.1)) ++ (fb (dix s.2) ++ nb (s.2 - dbase (dix s.2)) (db (dix s.2))))
def allBits (sb fb : Nat → List Int) (T : List UInt8) : Nat → List (Nat × Nat) → List Int
  | _, [] => sb 256
  | p, s :: r => stepBits sb fb T p s ++ allBits sb fb T (p + s.1) r

/-- The numbers that the steps have are those that can be read. -/
def Known (ls far : List Int) (sb fb : Nat → List Int) (T : List UInt8) : Nat → List (Nat × Nat) → Prop
  | _, [] => Reads ls 256 (sb 256)
  | p, s :: r => (if s.2 = 0 then Reads ls (T.getD p 0).toNat (sb (T.getD p 0).toNat) else Reads ls (257 + lix s.1) (sb (257 + lix s.1)) ∧ Reads far (dix s.2) (fb (dix s.2))) ∧ Known ls far sb fb T (p + s.1) r

theorem symsF_steps {L : List Int} {limit : Int} {ls far : List Int} {sb fb : Nat → List Int} {T : List UInt8} (hlim : (T.length : Int) ≤ limit)
    (hdix : ∀ d, 1 ≤ d → d ≤ 32768 → dix d ≤ 29 ∧ dbase (dix d) ≤ d ∧ d - dbase (dix d) < 2 ^ db (dix d)) :
    ∀ (S : List (Nat × Nat)) (p q f : Nat) (st : St), S.length < f → Fits T p S q → Known ls far sb fb T p S → st.bad = false → st.full = false → st.out = T.take p → At L st.pos (allBits sb fb T p S) →
      symsF L limit ls (codes ls) far (codes far) f st = { st with pos := st.pos + (allBits sb fb T p S).length, out := T.take q }
  | [], p, q, f + 1, st, _, hfit, hk, hb, hf, ho, ha => by
    rw [symsF_end hk hb hf ha]
    obtain rfl : p = q := hfit
    rw [← ho]
    rfl
  | s :: r, p, q, f + 1, st, hfu, hfit, hk, hb, hf, ho, ha => by
    obtain ⟨hs, hfit⟩ := hfit
    obtain ⟨hk1, hk⟩ := hk
    rw [allBits] at ha ⊢
    have hal := ha.left
    have har := ha.right
    rw [List.length_append]
    rcases hs with ⟨h0, h1, hp⟩ | ⟨g1, g2, g3, g4, g5, g6, g7⟩
    · rw [if_pos h0] at hk1
      rw [stepBits, if_pos h0] at hal har ⊢
      have e : (T.take p).length = p := by rw [List.length_take]; omega
      rw [symsF_lit hk1 (UInt8.toNat_lt _) hb hf (by rw [ho, e]; omega) hal]
      rw [h1] at hfit hk har ⊢
      rw [symsF_steps hlim hdix r (p + 1) q f { st with pos := st.pos + (sb (T.getD p 0).toNat).length, out := st.out ++ [UInt8.ofNat (T.getD p 0).toNat] } (by simp only [List.length_cons] at hfu; omega) hfit hk hb hf (by simp only [UInt8.ofNat_toNat]; rw [ho, ← take_succ_getD T p hp]) har]
      simp only [Nat.add_assoc]
    · have hne : ¬ s.2 = 0 := by omega
      rw [if_neg hne] at hk1
      rw [stepBits, if_neg hne] at hal har ⊢
      obtain ⟨l1, l2, l3⟩ := lix_ok s.1 g1 g2
      obtain ⟨d1, d2, d3⟩ := hdix s.2 g3 g4
      have e : (T.take p).length = p := by rw [List.length_take]; omega
      have hcp := copied_nb (limit := limit) (st := { st with pos := st.pos + (sb (257 + lix s.1)).length }) hk1.2 d1 l3 d3 hb (by show _ ≤ st.out.length; rw [ho, e]; omega) (by show ((st.out.length : Nat) : Int) + _ ≤ _; rw [ho, e]; omega) hal.right
      rw [symsF, hk1.1 L st hb hal.left]
      simp only
      rw [if_neg (by rw [hb, hf]; decide), if_neg (by rw [hb]; rintro (q | q); cases q; omega), if_neg (by omega), if_neg (by omega), show (((257 + lix s.1 : Nat) : Int) - 257).toNat = lix s.1 by omega, hcp]
      have hcf := cpF_take T s.2 g3 s.1 p g5 g6 g7
      rw [show dbase (dix s.2) + (s.2 - dbase (dix s.2)) = s.2 by omega, show lbase (lix s.1) + (s.1 - lbase (lix s.1)) = s.1 by omega, ho, hcf]
      simp only [List.length_append, nb_length] at har ⊢
      rw [symsF_steps hlim hdix r (p + s.1) q f { st with pos := st.pos + (sb (257 + lix s.1)).length + lb (lix s.1) + (fb (dix s.2)).length + db (dix s.2), out := T.take (p + s.1) } (by simp only [List.length_cons] at hfu; omega) hfit hk hb hf rfl (by simpa only [Nat.add_assoc] using har)]
      simp only [Nat.add_assoc]

end Go.Proofs.YtmfijackgekioaaGreat.Rf
