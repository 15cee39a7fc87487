import Derived.Test.YtmfijackgekioaaGreatQDeDh4
import Derived.Test.YtmfijackgekioaaGreatQUaUe5
import Derived.Test.YtmfijackgekioaaGreatQSmRo4

/-
  The bytes that hold the bits of whole blocks: what the document unpacks them to. For Deflates.
-/
namespace Go.Proofs.YtmfijackgekioaaGreat.Rf

theorem holds_zero : Holds [] [] := ⟨rfl, fun j => by simp [bitOf]⟩
theorem at_low {P : List UInt8} {W : List Int} (h : Holds P W) : At (Mx.low P) 0 W := by
  refine ⟨by rw [Mx.low_length, h.1]; omega, fun j _ => ?_⟩
  rw [Nat.zero_add, low_at, ← h.2 j]
  rfl
theorem inflate_whole {T P : List UInt8} {limit : Int} {W ks : List Int} (hw : Whole T limit W ks) (h : Holds P W) : inflate (Mx.low P) limit = ⟨W.length, false, false, T, ks⟩ := hw _ (at_low h)
/-- All bytes are used. -/
theorem used_whole {P : List UInt8} {W : List Int} (h : Holds P W) : (W.length + 7) / 8 = P.length := h.1.symm

/-- The rest of a byte is skipped: noughts. -/
theorem holds_skip {P : List UInt8} {W : List Int} (h : Holds P W) : Holds P (W ++ List.replicate (8 * P.length - W.length) 0) := by
  obtain ⟨hl, hj⟩ := h
  refine ⟨by rw [List.length_append, List.length_replicate]; omega, fun j => ?_⟩
  rw [hj j]
  simp only [List.getD_eq_getElem?_getD]
  rcases Nat.lt_or_ge j W.length with h | h
  · rw [List.getElem?_append_left h]
  · rw [List.getElem?_eq_none h, List.getElem?_append_right h, List.getElem?_replicate]
    split <;> rfl
/-- Whole bytes behind whole bytes. -/
theorem holds_bytes {P : List UInt8} {W : List Int} (h : Holds P W) (h8 : W.length = 8 * P.length) (t : List UInt8) : Holds (P ++ t) (W ++ bb t) := by
  obtain ⟨_, hj⟩ := h
  refine ⟨by rw [List.length_append, List.length_append, bb_length]; omega, fun j => ?_⟩
  have e : ∀ t : List UInt8, bb t = Mx.low t := fun t => by
    induction t with
    | nil => rfl
    | cons c r ih =>
      rw [bb, Mx.low, ih]
      rfl
  rw [e t]
  simp only [List.getD_eq_getElem?_getD]
  rcases Nat.lt_or_ge j W.length with h | h
  · rw [List.getElem?_append_left h]
    have := hj j
    simp only [List.getD_eq_getElem?_getD] at this
    rw [← this]
    unfold bitOf
    simp only [List.getD_eq_getElem?_getD]
    rw [List.getElem?_append_left (by omega)]
  · rw [List.getElem?_append_right h]
    have := low_at t (j - W.length)
    simp only [List.getD_eq_getElem?_getD] at this
    rw [this]
    unfold bitOf
    simp only [List.getD_eq_getElem?_getD]
    rw [List.getElem?_append_right (by omega), show j / 8 - P.length = (j - W.length) / 8 by omega, show j % 8 = (j - W.length) % 8 by omega]

end Go.Proofs.YtmfijackgekioaaGreat.Rf

/-
  Codes that have a length for whatever comes: what the steps need is known. For Deflates.
-/
namespace Go.Proofs.YtmfijackgekioaaGreat.Rf

/-- The bits of a number's code. -/
def cbits (ls : List Int) (j : Nat) : List Int := cb (nx ls ((ls.getD j 0).toNat - 1) j) (ls.getD j 0).toNat
theorem cbits_length (ls : List Int) (j : Nat) : (cbits ls j).length = (ls.getD j 0).toNat := cb_length _ _

theorem reads_cbits (ls : List Int) (hw : ∀ j, ls.getD j 0 ≤ 15) (hf : fs ls ls.length ≤ 32768) (j : Nat) (h1 : 1 ≤ ls.getD j 0) : Reads ls j (cbits ls j) := by
  have hj : j < ls.length := by
    rcases Nat.lt_or_ge j ls.length with h | h
    · exact h
    · rw [List.getD_eq_getElem?_getD, List.getElem?_eq_none h] at h1
      exact absurd h1 (by decide)
  have h15 := hw j
  obtain ⟨n, hn⟩ : ∃ n : Nat, ls.getD j 0 = ((n + 1 : Nat) : Int) := ⟨(ls.getD j 0).toNat - 1, by omega⟩
  have := reads_code ls hw hf n j (by omega) hj hn
  rw [cbits, hn]
  exact this

/-- Does a step's number come: of symbols, of distances? -/
def SymIn (T : List UInt8) : Nat → List (Nat × Nat) → Nat → Prop
  | _, [], i => i = 256
  | p, s :: r, i => (if s.2 = 0 then i = (T.getD p 0).toNat else i = 257 + lix s.1) ∨ SymIn T (p + s.1) r i
def DistIn : List (Nat × Nat) → Nat → Prop
  | [], _ => False
  | s :: r, j => (s.2 ≠ 0 ∧ j = dix s.2) ∨ DistIn r j

theorem known_in {ls far : List Int} (hw : ∀ j, ls.getD j 0 ≤ 15) (hf : fs ls ls.length ≤ 32768) (hw' : ∀ j, far.getD j 0 ≤ 15) (hf' : fs far far.length ≤ 32768) {T : List UInt8} :
    ∀ (S : List (Nat × Nat)) (p : Nat), (∀ i, SymIn T p S i → 1 ≤ ls.getD i 0) → (∀ j, DistIn S j → 1 ≤ far.getD j 0) → Known ls far (cbits ls) (cbits far) T p S
  | [], _, h1, _ => reads_cbits ls hw hf 256 (h1 256 rfl)
  | s :: r, p, h1, h2 => by
    refine ⟨?_, known_in hw hf hw' hf' r (p + s.1) (fun i hi => h1 i (.inr hi)) (fun j hj => h2 j (.inr hj))⟩
    by_cases h0 : s.2 = 0
    · rw [if_pos h0]
      exact reads_cbits ls hw hf _ (h1 _ (.inl (by rw [if_pos h0])))
    · rw [if_neg h0]
      exact ⟨reads_cbits ls hw hf _ (h1 _ (.inl (by rw [if_neg h0]))), reads_cbits far hw' hf' _ (h2 _ (.inl ⟨h0, rfl⟩))⟩

theorem symIn_le {T : List UInt8} : ∀ (S : List (Nat × Nat)) (p q i : Nat), Fits T p S q → SymIn T p S i → i ≤ 285
  | [], _, _, i, _, h => by have : i = 256 := h; omega
  | s :: r, p, q, i, ⟨hs, hfit⟩, h => by
    rcases h with h | h
    · rcases hs with ⟨h0, _, _⟩ | ⟨g1, g2, g3, _⟩
      · rw [if_pos h0] at h
        have := UInt8.toNat_lt (T.getD p 0)
        omega
      · rw [if_neg (by omega)] at h
        have := (lix_ok s.1 g1 g2).1
        omega
    · exact symIn_le r _ q i hfit h
theorem distIn_le {T : List UInt8} : ∀ (S : List (Nat × Nat)) (p q j : Nat), Fits T p S q → DistIn S j → j ≤ 29
  | s :: r, p, q, j, ⟨hs, hfit⟩, h => by
    rcases h with ⟨h0, h⟩ | h
    · rcases hs with ⟨h0', _, _⟩ | ⟨_, _, g3, g4, _⟩
      · exact absurd h0' h0
      · rw [h]; exact (dix_ok s.2 g3 g4).1
    · exact distIn_le r _ q j hfit h

theorem fixed_known {T : List UInt8} {S : List (Nat × Nat)} {p q : Nat} (h : Fits T p S q) : Known fixS fixD (cbits fixS) (cbits fixD) T p S := by
  have a1 : ∀ j, j < 288 → 1 ≤ fixS.getD j 0 ∧ fixS.getD j 0 ≤ 15 := by decide +kernel
  have a2 : ∀ j, j < 32 → 1 ≤ fixD.getD j 0 ∧ fixD.getD j 0 ≤ 15 := by decide +kernel
  have l1 : fixS.length = 288 := by decide +kernel
  have l2 : fixD.length = 32 := by decide +kernel
  have k1 : fs fixS fixS.length ≤ 32768 := by decide +kernel
  have k2 : fs fixD fixD.length ≤ 32768 := by decide +kernel
  have w : ∀ (l : List Int) (n : Nat), l.length = n → (∀ j, j < n → l.getD j 0 ≤ 15) → ∀ j, l.getD j 0 ≤ 15 := fun l n hn hl j => by
    rcases Nat.lt_or_ge j n with h | h
    · exact hl j h
    · rw [List.getD_eq_getElem?_getD, List.getElem?_eq_none (by omega)]; decide
  exact known_in (w _ _ l1 fun j hj => (a1 j hj).2) k1 (w _ _ l2 fun j hj => (a2 j hj).2) k2 S p (fun i hi => (a1 i (by have := symIn_le S p q i h hi; omega)).1) (fun j hj => (a2 j (by have := distIn_le S p q j h hj; omega)).1)

end Go.Proofs.YtmfijackgekioaaGreat.Rf

/-
  The lengths of a block of kind 2 that are told can be read. For Deflates.
-/
namespace Go.Proofs.YtmfijackgekioaaGreat.Rf

/-- How many extra bits a number that tells lengths has; what it adds. -/
def tkb (t : Nat × Nat) : Nat := if t.1 = 16 then 2 else if t.1 = 17 then 3 else if t.1 = 18 then 7 else 0
def tadd (out : List Int) (t : Nat × Nat) : List Int :=
  if t.1 < 16 then [(t.1 : Int)] else if t.1 = 16 then List.replicate (3 + t.2) (out.getD (out.length - 1) 0) else if t.1 = 17 then List.replicate (3 + t.2) 0 else List.replicate (11 + t.2) 0
def tell : List Int → List (Nat × Nat) → List Int
  | out, [] => out
  | out, t :: r => tell (out ++ tadd out t) r
def TellOk : List Int → List (Nat × Nat) → Prop
  | _, [] => True
  | out, t :: r => t.1 ≤ 18 ∧ t.2 < 2 ^ tkb t ∧ (t.1 = 16 → out ≠ []) ∧ TellOk (out ++ tadd out t) r
def tellBits (tb : Nat → List Int) : List (Nat × Nat) → List Int
  | [] => []
  | t :: r => (tb t.1 ++ nb t.2 (tkb t)) ++ tellBits tb r

theorem tadd_pos (out : List Int) (t : Nat × Nat) : 1 ≤ (tadd out t).length := by
  unfold tadd
  split
  · simp
  · split
    · simp; omega
    · split <;> simp <;> omega
theorem tell_length : ∀ (ts : List (Nat × Nat)) (out : List Int), out.length + ts.length ≤ (tell out ts).length
  | [], out => by simp [tell]
  | t :: r, out => by
    have h := tell_length r (out ++ tadd out t)
    have h1 := tadd_pos out t
    rw [List.length_append] at h
    rw [tell, List.length_cons]
    omega

theorem lsF_tell {L ls : List Int} {tb : Nat → List Int} {n : Nat} : ∀ (ts : List (Nat × Nat)) (out : List Int) (f : Nat) (st : St), TellOk out ts → (∀ t, t ∈ ts → Reads ls t.1 (tb t.1)) → (tell out ts).length = n → ts.length < f → st.bad = false →
    At L st.pos (tellBits tb ts) → lsF L ls (codes ls) n f out st = (tell out ts, { st with pos := st.pos + (tellBits tb ts).length })
  | [], out, f + 1, st, _, _, hn, _, _, _ => by
    rw [lsF, if_pos (.inl (by rw [← hn]; exact Nat.le_refl _))]
    rfl
  | t :: r, out, f + 1, st, ⟨h18, hx, h16, hok⟩, hr, hn, hf, hb, ha => by
    have hlen := tell_length (t :: r) out
    rw [hn, List.length_cons] at hlen
    rw [List.length_cons] at hf
    have hal := ha.left
    have har := ha.right
    have hsy := hr t List.mem_cons_self L st hb hal.left
    have ht := take_nb (st := { st with pos := st.pos + (tb t.1).length }) hal.right
    rw [Nat.mod_eq_of_lt hx] at ht
    rw [List.length_append, nb_length] at har
    have ih := lsF_tell (L := L) (ls := ls) (tb := tb) (n := n) r (out ++ tadd out t) f { st with pos := st.pos + (tb t.1).length + tkb t } hok (fun t' h => hr t' (List.mem_cons_of_mem _ h)) hn (by omega) hb (by simpa only [Nat.add_assoc] using har)
    rw [tell, tellBits, List.length_append, List.length_append, nb_length, lsF, if_neg (by rw [hb]; rintro (q | q); omega; cases q)]
    simp only
    rw [hsy]
    simp only
    rw [if_neg (by rw [hb]; decide)]
    have hfin : ({ st with pos := st.pos + (tb t.1).length + tkb t + (tellBits tb r).length } : St) = { st with pos := st.pos + ((tb t.1).length + tkb t + (tellBits tb r).length) } := by simp only [Nat.add_assoc]
    rw [← hfin]
    refine Eq.trans ?_ ih
    by_cases c1 : t.1 < 16
    · have e0 : tkb t = 0 := by rw [tkb, if_neg (by omega), if_neg (by omega), if_neg (by omega)]
      have e1 : tadd out t = [(t.1 : Int)] := by rw [tadd, if_pos c1]
      rw [if_pos (by omega), e0, e1]
      rfl
    · rw [if_neg (by omega)]
      by_cases c2 : t.1 = 16
      · have e0 : tkb t = 2 := by rw [tkb, if_pos c2]
        have e1 : tadd out t = List.replicate (3 + t.2) (out.getD (out.length - 1) 0) := by rw [tadd, if_neg c1, if_pos c2]
        rw [e0] at ht ⊢
        rw [if_pos (by omega), if_neg (h16 c2), ht, e1]
        simp
      · rw [if_neg (by omega)]
        by_cases c3 : t.1 = 17
        · have e0 : tkb t = 3 := by rw [tkb, if_neg c2, if_pos c3]
          have e1 : tadd out t = List.replicate (3 + t.2) 0 := by rw [tadd, if_neg c1, if_neg c2, if_pos c3]
          rw [e0] at ht ⊢
          rw [if_pos (by omega), ht, e1]
          simp
        · have e0 : tkb t = 7 := by rw [tkb, if_neg c2, if_neg c3, if_pos (by omega)]
          have e1 : tadd out t = List.replicate (11 + t.2) 0 := by rw [tadd, if_neg c1, if_neg c2, if_neg c3]
          rw [e0] at ht ⊢
          rw [if_neg (by omega), ht, e1]
          simp

theorem listed_tell {L ls : List Int} {tb : Nat → List Int} {n : Nat} {ts : List (Nat × Nat)} {st : St} (hok : TellOk [] ts) (hr : ∀ t, t ∈ ts → Reads ls t.1 (tb t.1)) (hn : (tell [] ts).length = n) (hb : st.bad = false)
    (ha : At L st.pos (tellBits tb ts)) : listed L ls n st = (tell [] ts, { st with pos := st.pos + (tellBits tb ts).length }) := by
  have hl := tell_length ts []
  rw [hn] at hl
  unfold listed
  rw [lsF_tell ts [] (n + 1) st hok hr hn (by simp at hl; omega) hb ha]
  simp only
  rw [if_pos hn]

end Go.Proofs.YtmfijackgekioaaGreat.Rf

/-
  A block of kind 2 that is written can be read. For Deflates.
-/
namespace Go.Proofs.YtmfijackgekioaaGreat.Rf

/-- The first k lengths of the numbers that tell lengths, laid down in their order. -/
def fillU (nl : List Int) : Nat → List Int
  | 0 => List.replicate 19 0
  | k + 1 => (fillU nl k).set (order.getD k 0) (nl.getD (order.getD k 0) 0)
theorem fillU_length (nl : List Int) (k : Nat) : (fillU nl k).length = 19 := by
  induction k with
  | zero => simp [fillU]
  | succ k ih => rw [fillU, List.length_set, ih]
theorem order_inj : ∀ i, i < 19 → ∀ j, j < 19 → order.getD i 0 = order.getD j 0 → i = j := by decide +kernel
theorem order_onto : ∀ x, x < 19 → ∃ i, i < 19 ∧ order.getD i 0 = x := by decide +kernel
theorem fillU_at (nl : List Int) : ∀ (k : Nat), k ≤ 19 → ∀ i, i < 19 → (fillU nl k).getD (order.getD i 0) 0 = if i < k then nl.getD (order.getD i 0) 0 else 0
  | 0, _, i, _ => by
    rw [if_neg (by omega), fillU, List.getD_eq_getElem?_getD, List.getElem?_replicate]
    split <;> rfl
  | k + 1, hk, i, hi => by
    have ih := fillU_at nl k (by omega) i hi
    rw [fillU]
    by_cases e : i = k
    · subst e
      rw [if_pos (by omega), List.getD_eq_getElem?_getD, List.getElem?_set_self (by rw [fillU_length]; exact order_lt i)]
      rfl
    · have hne : order.getD k 0 ≠ order.getD i 0 := fun h => e (order_inj k (by omega) i hi h).symm
      rw [List.getD_eq_getElem?_getD, List.getElem?_set_ne hne, ← List.getD_eq_getElem?_getD, ih]
      by_cases h : i < k
      · rw [if_pos h, if_pos (by omega)]
      · rw [if_neg h, if_neg (by omega)]
theorem fillU_all (nl : List Int) (h19 : nl.length = 19) (k : Nat) (hk : k ≤ 19) (h0 : ∀ i, k ≤ i → i < 19 → nl.getD (order.getD i 0) 0 = 0) : fillU nl k = nl := by
  apply List.ext_getElem (by rw [fillU_length, h19])
  intro x h1 h2
  rw [fillU_length] at h1
  obtain ⟨i, hi, rfl⟩ := order_onto x h1
  have := fillU_at nl k hk i hi
  rw [List.getD_eq_getElem?_getD, List.getElem?_eq_getElem (by rw [fillU_length]; exact h1), Option.getD_some] at this
  rw [this]
  have e : nl.getD (order.getD i 0) 0 = nl[order.getD i 0] := by rw [List.getD_eq_getElem?_getD, List.getElem?_eq_getElem h2, Option.getD_some]
  by_cases h : i < k
  · rw [if_pos h, e]
  · rw [if_neg h, ← e, h0 i (by omega) hi]

def lenBits (nl : List Int) (i : Nat) : Nat → List Int
  | 0 => []
  | f + 1 => nb (nl.getD (order.getD i 0) 0).toNat 3 ++ lenBits nl (i + 1) f
theorem lenBits_length (nl : List Int) : ∀ (f i : Nat), (lenBits nl i f).length = 3 * f
  | 0, _ => rfl
  | f + 1, i => by rw [lenBits, List.length_append, nb_length, lenBits_length nl f (i + 1)]; omega
theorem lenF_bits {L nl : List Int} (h7 : ∀ j, 0 ≤ nl.getD j 0 ∧ nl.getD j 0 ≤ 7) : ∀ (f i : Nat) (st : St), st.bad = false → At L st.pos (lenBits nl i f) →
    lenF L f i (fillU nl i) st = (fillU nl (i + f), { st with pos := st.pos + 3 * f })
  | 0, i, st, _, _ => rfl
  | f + 1, i, st, hb, ha => by
    have ht := take_nb ha.left
    have har := ha.right
    rw [nb_length] at har
    have hv := h7 (order.getD i 0)
    rw [Nat.mod_eq_of_lt (by omega), show (((nl.getD (order.getD i 0) 0).toNat : Nat) : Int) = nl.getD (order.getD i 0) 0 by omega] at ht
    rw [lenF, if_neg (by rw [hb]; decide), ht]
    have ih := lenF_bits h7 f (i + 1) { st with pos := st.pos + 3 } hb har
    simp only [fillU] at ih
    simp only
    rw [ih, show i + 1 + f = i + (f + 1) by omega, show st.pos + 3 + 3 * f = st.pos + 3 * (f + 1) by omega]

/-- The bits ahead of a block's symbols: how many of each, the lengths of the numbers, the lengths. -/
def headBits (hs hd c : Nat) (nl : List Int) (ts : List (Nat × Nat)) : List Int :=
  nb hs 5 ++ (nb hd 5 ++ (nb (c - 4) 4 ++ (lenBits nl 0 c ++ tellBits (cbits nl) ts)))

theorem brings_own {T : List UInt8} {limit : Int} {at_ p q : Nat} {hs hd c : Nat} {nl ls far : List Int} {ts S : List (Nat × Nat)} (hlim : (T.length : Int) ≤ limit)
    (h1 : hs ≤ 29) (h2 : hd ≤ 29) (hc4 : 4 ≤ c) (hc : c ≤ 19) (h19 : nl.length = 19) (h7 : ∀ j, 0 ≤ nl.getD j 0 ∧ nl.getD j 0 ≤ 7) (h0 : ∀ i, c ≤ i → i < 19 → nl.getD (order.getD i 0) 0 = 0)
    (hfull : full nl = true) (hok : TellOk [] ts) (hts : ∀ t, t ∈ ts → 1 ≤ nl.getD t.1 0) (htell : tell [] ts = ls ++ far) (hls : ls.length = hs + 257) (hfar : far.length = hd + 1) (hbad : badLists ls far = false)
    (hfit : Fits T p S q) (hk : Known ls far (cbits ls) (cbits far) T p S) (hS : S.length ≤ (allBits (cbits ls) (cbits far) T p S).length) :
    Brings T limit at_ p q 2 (headBits hs hd c nl ts ++ allBits (cbits ls) (cbits far) T p S) := by
  intro L st hb hf ho _ ha
  have hal := ha.left
  have har := ha.right
  unfold headBits at hal
  have t1 := take_nb hal.left
  have b1 := hal.right
  rw [nb_length] at b1
  have t2 := take_nb (st := { st with pos := st.pos + 5 }) b1.left
  have b2 := b1.right
  rw [nb_length] at b2
  have t3 := take_nb (st := { st with pos := st.pos + 5 + 5 }) b2.left
  have b3 := b2.right
  rw [nb_length] at b3
  have t4 := lenF_bits h7 c 0 { st with pos := st.pos + 5 + 5 + 4 } hb b3.left
  have b4 := b3.right
  rw [lenBits_length] at b4
  rw [Nat.zero_add, fillU_all nl h19 c hc h0] at t4
  have hfs : fs nl nl.length ≤ 32768 := by
    have := of_decide_eq_true hfull
    omega
  have t5 := listed_tell (n := hs + hd + 258) (st := { st with pos := st.pos + 5 + 5 + 4 + 3 * c }) hok (fun t ht => reads_cbits nl (fun j => by have := (h7 j).2; omega) hfs t.1 (hts t ht)) (by rw [htell, List.length_append]; omega) hb b4
  rw [Nat.mod_eq_of_lt (by omega)] at t1 t2 t3
  simp only at t2 t3 t4 t5
  have hl := har.1
  have e6 : (headBits hs hd c nl ts).length = 5 + 5 + 4 + 3 * c + (tellBits (cbits nl) ts).length := by
    simp only [headBits, List.length_append, nb_length, lenBits_length]; omega
  rw [e6] at har
  have t6 := symbols_steps (limit := limit) (st := { st with pos := st.pos + 5 + 5 + 4 + 3 * c + (tellBits (cbits nl) ts).length }) hlim (L := L) (by omega) hfit hk hb hf ho (by simpa only [Nat.add_assoc] using har)
  show block L limit 2 st = _
  rw [block, if_neg (by decide), if_neg (by decide), if_pos rfl, own]
  simp only
  rw [t1]
  simp only
  rw [t2]
  simp only
  rw [t3]
  simp only
  have ez : List.replicate 19 (0 : Int) = fillU nl 0 := rfl
  rw [ez, show (((c - 4 : Nat) : Int)).toNat + 4 = c by omega, t4]
  simp only
  rw [if_neg (by rw [hb, hfull]; rintro (q | q | q | q); cases q; omega; omega; cases q)]
  rw [show ((hs : Int) + (hd : Int) + 258).toNat = hs + hd + 258 by omega, t5]
  simp only
  rw [if_neg (by rw [hb]; decide), htell, show ((hs : Int)).toNat + 257 = ls.length by omega, List.take_left, List.drop_left, hbad, if_neg (by decide), t6]
  rw [List.length_append, e6]
  simp only [Nat.add_assoc]

end Go.Proofs.YtmfijackgekioaaGreat.Rf
