import Derived.Test.YtmfijackgekioaaGreatQDaDd4
import Derived.Test.YtmfijackgekioaaGreatQRbRj3
import Derived.Test.YtmfijackgekioaaGreatQUaUe5
import Derived.Test.YtmfijackgekioaaGreatQSmRo4

/-
  The numbers of distances; blocks of kind 1, and the head of a block. For Deflates.
-/
namespace Go.Proofs.YtmfijackgekioaaGreat.Rf

theorem dix_ok (d : Nat) (h1 : 1 ≤ d) (h2 : d ≤ 32768) : dix d ≤ 29 ∧ dbase (dix d) ≤ d ∧ d - dbase (dix d) < 2 ^ db (dix d) := by
  by_cases h4 : d ≤ 4
  · have : ∀ d : Fin 5, 1 ≤ d.val → dix d.val ≤ 29 ∧ dbase (dix d.val) ≤ d.val ∧ d.val - dbase (dix d.val) < 2 ^ db (dix d.val) := by decide +kernel
    exact this ⟨d, by omega⟩ h1
  · obtain ⟨a, rfl⟩ : ∃ a, d = a + 1 := ⟨d - 1, by omega⟩
    have l1 := Nat.log2_self_le (n := a) (by omega)
    have l2 := Nat.lt_log2_self (n := a)
    have hb : blen a = a.log2 + 1 := by rw [blen, if_neg (by omega)]
    generalize a.log2 = k at *
    have hk2 : 2 ≤ k := by
      rcases Nat.lt_or_ge k 2 with h | h
      · have : 2 ^ (k + 1) ≤ 2 ^ 2 := Nat.pow_le_pow_right (by omega) (by omega)
        omega
      · exact h
    have hk14 : k ≤ 14 := by
      rcases Nat.lt_or_ge 14 k with h | h
      · have : 2 ^ 15 ≤ 2 ^ k := Nat.pow_le_pow_right (by omega) (by omega)
        omega
      · exact h
    obtain ⟨e, rfl⟩ : ∃ e, k = e + 1 := ⟨k - 1, by omega⟩
    have p1 : 2 ^ (e + 1) = 2 * 2 ^ e := by rw [Nat.pow_succ]; omega
    have p2 : 2 ^ (e + 1 + 1) = 4 * 2 ^ e := by rw [Nat.pow_succ, p1]; omega
    rw [p1] at l1
    rw [p2] at l2
    have hP : 0 < 2 ^ e := Nat.pow_pos (by omega)
    have hx : dix (a + 1) = 2 * e + a / 2 ^ e := by
      rw [dix, Nat.add_sub_cancel, hb, show e + 1 + 1 - 2 = e by omega]
    have q1 : 2 ≤ a / 2 ^ e := (Nat.le_div_iff_mul_le hP).2 l1
    have q2 : a / 2 ^ e < 4 := (Nat.div_lt_iff_lt_mul hP).2 l2
    have hm := Nat.div_add_mod a (2 ^ e)
    have hr := Nat.mod_lt a hP
    rw [hx]
    generalize a / 2 ^ e = q at *
    have hq : q = 2 ∨ q = 3 := by omega
    have e1 : db (2 * e + q) = e := by rw [db, if_pos (by omega)]; omega
    have e2 : dbase (2 * e + q) = q * 2 ^ e + 1 := by
      rw [dbase, if_pos (by omega), show (2 * e + q) / 2 - 1 = e by omega, show 2 + (2 * e + q) % 2 = q by omega]
    rw [e1, e2, Nat.mul_comm q]
    omega

/-- A block of kind 1 that is written can be read. -/
theorem symbols_steps {L : List Int} {limit : Int} {ls far : List Int} {sb fb : Nat → List Int} {T : List UInt8} (hlim : (T.length : Int) ≤ limit) {S : List (Nat × Nat)} {p q : Nat} {st : St}
    (hS : S.length < L.length + 2) (hfit : Fits T p S q) (hk : Known ls far sb fb T p S) (hb : st.bad = false) (hf : st.full = false) (ho : st.out = T.take p) (ha : At L st.pos (allBits sb fb T p S)) :
    symbols L limit ls far st = { st with pos := st.pos + (allBits sb fb T p S).length, out := T.take q } :=
  symsF_steps hlim dix_ok S p q _ st hS hfit hk hb hf ho ha

/-- One block behind another: the head is read, then the block. -/
theorem infF_head {L : List Int} {limit : Int} {f l k : Nat} {st : St} (hl : l < 2) (hk : k < 4) (hb : st.bad = false) (hf : st.full = false) (ha : At L st.pos (nb l 1 ++ nb k 2)) :
    infF L limit (f + 1) 0 st = infF L limit f (l : Int) (block L limit (k : Int) { st with pos := st.pos + 3, kinds := st.kinds ++ [(k : Int)] }) := by
  have h1 := take_nb ha.left
  have hr := ha.right
  rw [nb_length] at hr
  have h2 := take_nb (st := { st with pos := st.pos + 1 }) hr
  rw [Nat.mod_eq_of_lt (by omega)] at h1 h2
  rw [infF, if_neg (by rw [hb, hf]; rintro (q | q); exact q rfl; cases q)]
  simp only
  rw [h1]
  simp only
  rw [h2]
  simp only
  rw [if_neg (by rw [hb]; decide)]

end Go.Proofs.YtmfijackgekioaaGreat.Rf

/-
  Codes of lengths that are not over-full: each is read, as none begins another. For Deflates.
-/
namespace Go.Proofs.YtmfijackgekioaaGreat.Rf

theorem nxI_ge (ls : List Int) (n b i : Nat) : b ≤ nxI ls n b i := nxI_mono ls n b 0 i (Nat.zero_le _)
theorem nxO_grow (ls : List Int) (m : Nat) : ∀ k, 2 ^ k * nxO ls m ≤ nxO ls (m + k)
  | 0 => by simp
  | k + 1 => by
    have h1 := nxO_grow ls m k
    have h2 : 2 * nxO ls (m + k) ≤ nxO ls (m + k + 1) := nxI_ge ls (m + k + 1) _ ls.length
    rw [Nat.pow_succ, Nat.mul_comm (2 ^ k), Nat.mul_assoc]
    exact Nat.le_trans (Nat.mul_le_mul_left 2 h1) h2

/-- No shorter code begins a longer one. -/
theorem no_prefix (ls : List Int) (m n i j : Nat) (hm : m < n) (hi : i < ls.length) (h1 : ls.getD i 0 = ((m + 1 : Nat) : Int)) :
    nx ls m i < nx ls n j / 2 ^ (n - m) := by
  have a1 : nx ls m i < nxO ls (m + 1) := nxI_lt ls (m + 1) _ i ls.length hi h1
  have a2 := nxO_grow ls (m + 1) (n - (m + 1))
  rw [show m + 1 + (n - (m + 1)) = n by omega] at a2
  have a3 : 2 * nxO ls n ≤ nx ls n j := nxI_ge ls (n + 1) _ j
  have hP : 0 < 2 ^ (n - m) := Nat.pow_pos (by omega)
  refine Nat.lt_of_lt_of_le a1 ((Nat.le_div_iff_mul_le hP).2 ?_)
  have e : 2 ^ (n - m) = 2 * 2 ^ (n - (m + 1)) := by
    rw [show n - m = n - (m + 1) + 1 by omega, Nat.pow_succ]; omega
  rw [e, Nat.mul_comm, Nat.mul_assoc]
  exact Nat.le_trans (Nat.mul_le_mul_left 2 a2) a3

theorem nx_lt (ls : List Int) (hw : ∀ j, ls.getD j 0 ≤ 15) (hf : fs ls ls.length ≤ 32768) (n j : Nat) (hn : n < 15) (hj : j < ls.length) (h1 : ls.getD j 0 = ((n + 1 : Nat) : Int)) :
    nx ls n j < 2 ^ (n + 1) := by
  have a1 : nx ls n j < nx ls n ls.length := nxI_lt ls (n + 1) _ j ls.length hj h1
  have a2 := nx_le ls hw hf n ls.length hn (Nat.le_refl _)
  have e : (32768 : Nat) = 2 ^ (n + 1) * 2 ^ (14 - n) := by rw [← Nat.pow_add, show n + 1 + (14 - n) = 15 by omega]
  rw [e] at a2
  have := Nat.le_of_mul_le_mul_right a2 (Nat.pow_pos (by omega))
  omega

/-- Each number that has a length is read. -/
theorem reads_code (ls : List Int) (hw : ∀ j, ls.getD j 0 ≤ 15) (hf : fs ls ls.length ≤ 32768) (n j : Nat) (hn : n < 15) (hj : j < ls.length) (h1 : ls.getD j 0 = ((n + 1 : Nat) : Int)) :
    Reads ls j (cb (nx ls n j) (n + 1)) := by
  intro L st hb ha
  have h0 : nx ls n j / 2 ^ (n + 1) = 0 := Nat.div_eq_of_lt (nx_lt ls hw hf n j hn hj h1)
  have hfind := find_of hn hj h1
  rw [codes_at ls n j hn hj h1] at hfind
  have := symF_cb (L := L) (ls := ls) (code := codes ls) (c := nx ls n j) (i := j) n 15 0 st hb hn ha (fun m hm => by
    cases h : find ls (codes ls) (((0 : Nat) : Int) + 1 + m) ((nx ls n j / 2 ^ (n - m) : Nat) : Int) with
    | none => rfl
    | some i =>
      obtain ⟨b1, b2, b3⟩ := find_some h
      have b2' : ls.getD i 0 = ((m + 1 : Nat) : Int) := by rw [b2]; omega
      rw [codes_at ls m i (by omega) b1 b2'] at b3
      have := no_prefix ls m n i j hm b1 b2'
      omega) (by rw [← hfind]; congr 1; omega)
  rw [h0] at this
  rw [symbol, cb_length]
  exact this

end Go.Proofs.YtmfijackgekioaaGreat.Rf

/-
  Blocks that are written one behind another can be read. For Deflates.
-/
namespace Go.Proofs.YtmfijackgekioaaGreat.Rf

/-- With the bits W written so far, n blocks are read, and the text up to p; the next block may begin. -/
def Sofar (T : List UInt8) (limit : Int) (W : List Int) (p n : Nat) (ks : List Int) : Prop :=
  n ≤ W.length ∧ ∀ L, At L 0 W → inflate L limit = infF L limit (L.length + 2 - n) 0 ⟨W.length, false, false, T.take p, ks⟩
/-- With the bits W all is read. -/
def Whole (T : List UInt8) (limit : Int) (W : List Int) (ks : List Int) : Prop :=
  ∀ L, At L 0 W → inflate L limit = ⟨W.length, false, false, T, ks⟩
/-- These bits, of kind k, bring the text from p to q, wherever a head has been read behind W. -/
def Brings (T : List UInt8) (limit : Int) (at_ p q k : Nat) (B : List Int) : Prop :=
  ∀ (L : List Int) (st : St), st.bad = false → st.full = false → st.out = T.take p → st.pos = at_ → At L st.pos B → block L limit (k : Int) st = { st with pos := st.pos + B.length, out := T.take q }

theorem sofar_zero (T : List UInt8) (limit : Int) : Sofar T limit [] 0 0 [] := ⟨Nat.le_refl _, fun _ _ => rfl⟩

theorem block_step {T : List UInt8} {limit : Int} {W B ks : List Int} {p q n k l : Nat} (h : Sofar T limit W p n ks) (hl : l < 2) (hk : k < 4) (hB : Brings T limit (W.length + 3) p q k B)
    (L : List Int) (ha : At L 0 (W ++ ((nb l 1 ++ nb k 2) ++ B))) :
    inflate L limit = infF L limit (L.length + 2 - (n + 1)) (l : Int) ⟨(W ++ ((nb l 1 ++ nb k 2) ++ B)).length, false, false, T.take q, ks ++ [(k : Int)]⟩ := by
  obtain ⟨hn, h⟩ := h
  have ha1 := ha.left
  have ha2 := ha.right
  have hlen := ha1.1
  rw [Nat.zero_add] at ha2 hlen
  have ha3 := ha2.right
  rw [List.length_append, nb_length, nb_length] at ha3
  rw [h L ha1, show L.length + 2 - n = (L.length + 2 - (n + 1)) + 1 by omega]
  rw [infF_head (st := ⟨W.length, false, false, T.take p, ks⟩) hl hk rfl rfl ha2.left]
  rw [hB L { pos := W.length + 3, bad := false, full := false, out := T.take p, kinds := ks ++ [(k : Int)] } rfl rfl rfl rfl ha3]
  simp only [List.length_append, nb_length]
  congr 2
  omega

theorem sofar_block {T : List UInt8} {limit : Int} {W B ks : List Int} {p q n k : Nat} (h : Sofar T limit W p n ks) (hk : k < 4) (hB : Brings T limit (W.length + 3) p q k B) :
    Sofar T limit (W ++ ((nb 0 1 ++ nb k 2) ++ B)) q (n + 1) (ks ++ [(k : Int)]) := by
  refine ⟨?_, fun L ha => block_step (l := 0) h (by decide) hk hB L ha⟩
  have := h.1
  simp only [List.length_append, nb_length]
  omega

theorem whole_block {T : List UInt8} {limit : Int} {W B ks : List Int} {p n k : Nat} (h : Sofar T limit W p n ks) (hk : k < 4) (hB : Brings T limit (W.length + 3) p T.length k B) :
    Whole T limit (W ++ ((nb 1 1 ++ nb k 2) ++ B)) (ks ++ [(k : Int)]) := by
  intro L ha
  rw [block_step (l := 1) h (by decide) hk hB L ha, List.take_length]
  cases L.length + 2 - (n + 1) with
  | zero => rfl
  | succ f => rw [infF, if_pos (.inl (by decide))]

/-- A block of kind 0 brings its bytes. -/
theorem brings_plain {T : List UInt8} {limit : Int} {at_ p q : Nat} (pad : List Int) (hp : at_ + pad.length = (at_ + 7) / 8 * 8) (hpq : p ≤ q) (hq : q ≤ T.length) (h6 : q - p ≤ 65535) (hlim : (T.length : Int) ≤ limit) :
    Brings T limit at_ p q 0 (pad ++ (nb (q - p) 16 ++ (nb (65535 - (q - p)) 16 ++ bb ((T.take q).drop p)))) := by
  intro L st hb _ ho hpos ha
  have hl : ((T.take q).drop p).length = q - p := by rw [List.length_drop, List.length_take]; omega
  have e : (T.take p).length = p := by rw [List.length_take]; omega
  have har := ha.right
  rw [hpos, hp] at har
  have := plain_at (L := L) (limit := limit) (st := st) (t := (T.take q).drop p) hb (by omega) (by rw [ho, e]; omega) (by rw [hl, hpos]; exact har)
  show block L limit 0 st = _
  rw [block, if_pos rfl, this, ho, hl]
  simp only [List.length_append, nb_length, bb_length, hl]
  rw [hpos, show (at_ + 7) / 8 * 8 + 32 + 8 * (q - p) = at_ + (pad.length + (16 + (16 + 8 * (q - p)))) by omega]
  congr 1
  have e2 : T.take p = (T.take q).take p := by rw [List.take_take, Nat.min_eq_left hpq]
  rw [e2, List.take_append_drop]

/-- A block of kind 1 brings its steps. -/
theorem brings_fixed {T : List UInt8} {limit : Int} {at_ p q : Nat} {sb fb : Nat → List Int} {S : List (Nat × Nat)} (hlim : (T.length : Int) ≤ limit) (hfit : Fits T p S q) (hk : Known fixS fixD sb fb T p S)
    (hS : S.length ≤ (allBits sb fb T p S).length) : Brings T limit at_ p q 1 (allBits sb fb T p S) := by
  intro L st hb hf ho _ ha
  have hl := ha.1
  show block L limit 1 st = _
  rw [block, if_neg (by decide), if_pos rfl]
  exact symbols_steps hlim (by omega) hfit hk hb hf ho ha

end Go.Proofs.YtmfijackgekioaaGreat.Rf

/-
  Bits that are written into bytes, one by one. For Deflates.
-/
namespace Go.Proofs.YtmfijackgekioaaGreat.Rf

def bitOf (P : List UInt8) (j : Nat) : Nat := (P.getD (j / 8) 0).toNat / 2 ^ (j % 8) % 2
/-- The bytes hold these bits, and noughts behind them. -/
def Holds (P : List UInt8) (W : List Int) : Prop := P.length = (W.length + 7) / 8 ∧ ∀ j, ((bitOf P j : Nat) : Int) = W.getD j 0

theorem bit_test (n k : Nat) : n / 2 ^ k % 2 = (n.testBit k).toNat := by
  rw [Nat.testBit_eq_decide_div_mod_eq]
  rcases Nat.mod_two_eq_zero_or_one (n / 2 ^ k) with h | h <;> rw [h] <;> rfl

theorem getD_append_zero (P : List UInt8) (i : Nat) : (P ++ [0]).getD i 0 = P.getD i 0 := by
  simp only [List.getD_eq_getElem?_getD]
  rcases Nat.lt_trichotomy i P.length with h | h | h
  · rw [List.getElem?_append_left h]
  · subst h; simp
  · rw [List.getElem?_eq_none (by simp; omega), List.getElem?_eq_none (by omega)]

theorem holds_set {P : List UInt8} {W : List Int} {b : Nat} (hP : P.length = W.length / 8 + 1) (hj : ∀ j, ((bitOf P j : Nat) : Int) = W.getD j 0) (hb : b < 2) :
    Holds (P.set (W.length / 8) (P.getD (W.length / 8) 0 ||| UInt8.ofNat (b * 2 ^ (W.length % 8)))) (W ++ [(b : Int)]) := by
  refine ⟨by rw [List.length_set, hP, List.length_append]; simp only [List.length_cons, List.length_nil]; omega, fun j => ?_⟩
  have h0 : bitOf P W.length = 0 := by
    have := hj W.length
    rw [List.getD_eq_getElem?_getD, List.getElem?_eq_none (Nat.le_refl _)] at this
    simpa using this
  have hr : W.length % 8 < 8 := Nat.mod_lt _ (by omega)
  have hsm : b * 2 ^ (W.length % 8) < 256 := by
    have : 2 ^ (W.length % 8) ≤ 2 ^ 7 := Nat.pow_le_pow_right (by omega) (by omega)
    have h1 : b * 2 ^ (W.length % 8) ≤ 1 * 2 ^ (W.length % 8) := Nat.mul_le_mul_right _ (by omega)
    omega
  by_cases hd : j / 8 = W.length / 8
  · have eb : bitOf (P.set (W.length / 8) (P.getD (W.length / 8) 0 ||| UInt8.ofNat (b * 2 ^ (W.length % 8)))) j = ((P.getD (W.length / 8) 0).toNat ||| (b * 2 ^ (W.length % 8))) / 2 ^ (j % 8) % 2 := by
      unfold bitOf
      rw [hd]
      congr 2
      simp only [List.getD_eq_getElem?_getD]
      rw [List.getElem?_set_self (by omega)]
      simp only [Option.getD_some, UInt8.toNat_or, UInt8.toNat_ofNat']
      rw [Nat.mod_eq_of_lt hsm]
    rw [eb, bit_test, Nat.testBit_or]
    have ho : ((P.getD (W.length / 8) 0).toNat.testBit (j % 8)).toNat = bitOf P j := by rw [← bit_test, bitOf, hd]
    by_cases he : j = W.length
    · subst he
      have h1 : ((P.getD (W.length / 8) 0).toNat.testBit (W.length % 8)) = false := by
        have := ho.trans h0
        cases h : ((P.getD (W.length / 8) 0).toNat.testBit (W.length % 8)) with
        | false => rfl
        | true => rw [h] at this; cases this
      rw [h1, Bool.false_or, ← bit_test, Nat.mul_div_cancel _ (Nat.pow_pos (by omega)), Nat.mod_eq_of_lt hb]
      simp
    · have hne : j % 8 ≠ W.length % 8 := by omega
      have h2 : (b * 2 ^ (W.length % 8)).testBit (j % 8) = false := by
        have : b = 0 ∨ b = 1 := by omega
        rcases this with rfl | rfl
        · simp
        · rw [Nat.one_mul, Nat.testBit_two_pow]; simp; omega
      rw [h2, Bool.or_false, ho, hj j]
      simp only [List.getD_eq_getElem?_getD]
      rcases Nat.lt_or_ge j W.length with h | h
      · rw [List.getElem?_append_left h]
      · rw [List.getElem?_eq_none h, List.getElem?_eq_none (by simp; omega)]
  · have eb : bitOf (P.set (W.length / 8) (P.getD (W.length / 8) 0 ||| UInt8.ofNat (b * 2 ^ (W.length % 8)))) j = bitOf P j := by
      unfold bitOf
      congr 3
      simp only [List.getD_eq_getElem?_getD]
      rw [List.getElem?_set_ne (Ne.symm hd)]
    rw [eb, hj j]
    have he : j ≠ W.length := fun h => hd (by rw [h])
    simp only [List.getD_eq_getElem?_getD]
    rcases Nat.lt_or_ge j W.length with h | h
    · rw [List.getElem?_append_left h]
    · rw [List.getElem?_eq_none h, List.getElem?_eq_none (by simp; omega)]

/-- One bit more. -/
theorem holds_bit {P : List UInt8} {W : List Int} {b : Nat} (h : Holds P W) (hb : b < 2) (P1 : List UInt8) (h1 : P1 = if W.length % 8 = 0 then P ++ [0] else P) :
    Holds (P1.set (W.length / 8) (P1.getD (W.length / 8) 0 ||| UInt8.ofNat (b * 2 ^ (W.length % 8)))) (W ++ [(b : Int)]) := by
  obtain ⟨hl, hj⟩ := h
  refine holds_set ?_ ?_ hb
  · rw [h1]; split
    · rw [List.length_append, hl]; simp only [List.length_cons, List.length_nil]; omega
    · rw [hl]; omega
  · intro j
    rw [← hj j, h1]
    split
    · unfold bitOf; rw [getD_append_zero]
    · rfl

end Go.Proofs.YtmfijackgekioaaGreat.Rf
