import Derived.Test.YtmfijackgekioaaGreatQRbRj3

/-
  Blocks of kind 0 are longer than what they bring: plain. For Small.
-/
namespace Go.Proofs.YtmfijackgekioaaGreat.Rf

theorem plF_len (L : List Int) : ∀ (f : Nat) (st : St), 8 * (plF L f st).out.length + st.pos ≤ (plF L f st).pos + 8 * st.out.length ∨ (plF L f st).bad = true
  | 0, st => .inl (by simp only [plF]; omega)
  | f + 1, st => by
    simp only [plF]
    split
    · rename_i h; exact .inr h
    · rename_i h
      have hSo : (⟨(take L st 8).2.pos, (take L st 8).2.bad, (take L st 8).2.full, (take L st 8).2.out ++ [UInt8.ofNat (take L st 8).1.toNat], (take L st 8).2.kinds⟩ : St).out.length = st.out.length + 1 := by simp [(take_out L st 8).1]
      have hSp : (⟨(take L st 8).2.pos, (take L st 8).2.bad, (take L st 8).2.full, (take L st 8).2.out ++ [UInt8.ofNat (take L st 8).1.toNat], (take L st 8).2.kinds⟩ : St).pos = (take L st 8).2.pos := rfl
      have hSb : (⟨(take L st 8).2.pos, (take L st 8).2.bad, (take L st 8).2.full, (take L st 8).2.out ++ [UInt8.ofNat (take L st 8).1.toNat], (take L st 8).2.kinds⟩ : St).bad = (take L st 8).2.bad := rfl
      generalize (⟨(take L st 8).2.pos, (take L st 8).2.bad, (take L st 8).2.full, (take L st 8).2.out ++ [UInt8.ofNat (take L st 8).1.toNat], (take L st 8).2.kinds⟩ : St) = S at *
      rcases plF_len L f S with q | q
      · by_cases hb : (take L st 8).2.bad = true
        · right
          have : ∀ (g : Nat) (s : St), s.bad = true → (plF L g s).bad = true := fun g s hs => by
            cases g with
            | zero => exact hs
            | succ g => rw [plF, if_pos hs]; exact hs
          exact this f _ (hSb.trans hb)
        · left
          have hp := take_bad L st 8 (by simpa using hb)
          omega
      · exact .inr q
theorem plain_len (L : List Int) (limit : Int) (st : St) (hb : (plain L limit st).bad = false) : 8 * (plain L limit st).out.length + st.pos ≤ (plain L limit st).pos + 8 * st.out.length := by
  unfold plain at *
  simp only at *
  have o1 : (take L { st with pos := (st.pos + 7) / 8 * 8 } 16).2.out = st.out := (take_out L _ 16).1
  have m1 : (st.pos + 7) / 8 * 8 ≤ (take L { st with pos := (st.pos + 7) / 8 * 8 } 16).2.pos := take_mono L { st with pos := (st.pos + 7) / 8 * 8 } 16
  generalize take L { st with pos := (st.pos + 7) / 8 * 8 } 16 = A at *
  have o2 := (take_out L A.2 16).1.trans o1
  have m2 := take_mono L A.2 16
  generalize take L A.2 16 = B at *
  by_cases hs : A.1 + B.1 = 65535
  · simp only [if_pos hs] at hb ⊢
    by_cases hbb : B.2.bad = true
    · simp only [if_pos hbb] at hb ⊢
      rw [o2]
      omega
    · simp only [if_neg hbb] at hb ⊢
      have hr := room_out limit B.2 A.1.toNat
      generalize room limit B.2 A.1.toNat = R at *
      by_cases hr1 : R.1 = true
      · simp only [if_pos hr1] at hb ⊢
        rcases plF_len L A.1.toNat R.2 with q | q
        · rw [hr.1, hr.2.2.1, o2] at q
          omega
        · rw [q] at hb; cases hb
      · simp only [if_neg hr1] at hb ⊢
        rw [hr.1, hr.2.2.1, o2]
        omega
  · simp only [if_neg hs, if_true] at hb
    cases hb
theorem infF_len (L : List Int) (limit : Int) : ∀ (f : Nat) (last : Int) (st : St), (∀ x ∈ (infF L limit f last st).kinds, x = 0) → (infF L limit f last st).bad = false → (infF L limit f last st).full = false →
    8 * (infF L limit f last st).out.length + st.pos ≤ (infF L limit f last st).pos + 8 * st.out.length
  | 0, last, st, _, _, _ => by simp only [infF]; omega
  | f + 1, last, st, hk, hb, hf => by
    simp only [infF] at hk hb hf ⊢
    by_cases h0 : last ≠ 0 ∨ (st.bad || st.full) = true
    · simp only [if_pos h0]; omega
    simp only [if_neg h0] at hk hb hf ⊢
    have o1 := (take_out L st 1).1
    have m1 := take_mono L st 1
    generalize take L st 1 = A at *
    have o2 := (take_out L A.2 2).1.trans o1
    have m2 := take_mono L A.2 2
    generalize take L A.2 2 = K at *
    by_cases h1 : K.2.bad = true
    · simp only [if_pos h1] at hb
      rw [h1] at hb; cases hb
    simp only [if_neg h1] at hk hb hf ⊢
    have ih := infF_len L limit f A.1 (block L limit K.1 ⟨K.2.pos, K.2.bad, K.2.full, K.2.out, K.2.kinds ++ [K.1]⟩) hk hb hf
    have grow : ∀ (g : Nat) (l : Int) (s : St) (x : Int), x ∈ s.kinds → x ∈ (infF L limit g l s).kinds := by
      intro g
      induction g with
      | zero => intro l s x hx; exact hx
      | succ g ihg =>
        intro l s x hx
        simp only [infF]
        split
        · exact hx
        · split
          · rw [take_kinds, take_kinds]; exact hx
          · refine ihg _ _ _ ?_
            rw [block_kinds]
            simp only
            rw [take_kinds, take_kinds]
            exact List.mem_append_left _ hx
    have hk0 : K.1 = 0 := hk K.1 (grow f A.1 _ K.1 (by rw [block_kinds]; simp))
    have stop : ∀ (g : Nat) (l : Int) (s : St), (s.bad || s.full) = true → infF L limit g l s = s := by
      intro g l s hs
      cases g with
      | zero => rfl
      | succ g => rw [infF, if_pos (.inr hs)]
    generalize hst : (⟨K.2.pos, K.2.bad, K.2.full, K.2.out, K.2.kinds ++ [K.1]⟩ : St) = S at *
    have hSp : S.pos = K.2.pos ∧ S.out = K.2.out := by rw [← hst]; exact ⟨rfl, rfl⟩
    have hbl : (block L limit K.1 S).bad = false ∧ (block L limit K.1 S).full = false := by
      by_cases q : ((block L limit K.1 S).bad || (block L limit K.1 S).full) = true
      · rw [stop f A.1 _ q] at hb hf
        exact ⟨hb, hf⟩
      · simpa using q
    have hpl : block L limit K.1 S = plain L limit S := by rw [block, if_pos hk0]
    rw [hpl] at ih hbl ⊢
    have := plain_len L limit S hbl.1
    rw [hSp.1, hSp.2, o2] at this
    omega
/-- Blocks of kind 0 alone. -/
theorem stored_longer {L : List Int} {limit : Int} {p : Nat} {o : List UInt8} {ks : List Int} (h : inflate L limit = ⟨p, false, false, o, ks⟩) (hk : ∀ x ∈ ks, x = 0) : 8 * o.length + 3 ≤ p := by
  have h' : infF L limit (L.length + 2) 0 ⟨0, false, false, [], []⟩ = ⟨p, false, false, o, ks⟩ := h
  rw [show L.length + 2 = (L.length + 1) + 1 from rfl, infF] at h'
  dsimp only at h'
  rw [if_neg (by simp)] at h'
  have ht : ∀ (s : St) (n : Nat), s.bad = false → (take L s n).2.bad = true ∨ ((take L s n).2.pos = s.pos + n ∧ (take L s n).2.out = s.out) := fun s n _ => by
    by_cases q : (take L s n).2.bad = true
    · exact .inl q
    · exact .inr ⟨(take_bad L s n (by simpa using q)).1, (take_out L s n).1⟩
  have tb : ∀ (s : St) (n : Nat), s.bad = true → (take L s n).2.bad = true := fun s n q => by unfold take; split <;> simp [q]
  have h1 := ht ⟨0, false, false, [], []⟩ 1 rfl
  generalize take L ⟨0, false, false, [], []⟩ 1 = A at *
  by_cases hA : A.2.bad = true
  · have := tb A.2 2 hA
    rw [if_pos this] at h'
    have hh := congrArg St.bad h'
    rw [this] at hh; cases hh
  have h2 := ht A.2 2 (by simpa using hA)
  generalize take L A.2 2 = K at *
  by_cases hK : K.2.bad = true
  · rw [if_pos hK] at h'
    have hh := congrArg St.bad h'
    rw [hK] at hh; cases hh
  rw [if_neg hK] at h'
  rcases h1 with h1 | h1
  · exact absurd h1 hA
  rcases h2 with h2 | h2
  · exact absurd h2 hK
  have hkb : K.1 = 0 ∧ True := by
    refine ⟨?_, trivial⟩
    have grow : ∀ (g : Nat) (l : Int) (s : St) (x : Int), x ∈ s.kinds → x ∈ (infF L limit g l s).kinds := by
      intro g
      induction g with
      | zero => intro l s x hx; exact hx
      | succ g ihg =>
        intro l s x hx
        simp only [infF]
        split
        · exact hx
        · split
          · rw [take_kinds, take_kinds]; exact hx
          · refine ihg _ _ _ ?_
            rw [block_kinds]
            simp only
            rw [take_kinds, take_kinds]
            exact List.mem_append_left _ hx
    have := grow (L.length + 1) A.1 (block L limit K.1 ⟨K.2.pos, K.2.bad, K.2.full, K.2.out, K.2.kinds ++ [K.1]⟩) K.1 (by rw [block_kinds]; simp)
    rw [h'] at this
    exact hk K.1 this
  have stop : ∀ (g : Nat) (l : Int) (s : St), (s.bad || s.full) = true → infF L limit g l s = s := by
    intro g l s hs
    cases g with
    | zero => rfl
    | succ g => rw [infF, if_pos (.inr hs)]
  generalize hst : (⟨K.2.pos, K.2.bad, K.2.full, K.2.out, K.2.kinds ++ [K.1]⟩ : St) = S at *
  have hSp : S.pos = K.2.pos ∧ S.out = K.2.out := by rw [← hst]; exact ⟨rfl, rfl⟩
  have hpl : block L limit K.1 S = plain L limit S := by rw [block, if_pos hkb.1]
  rw [hpl] at h'
  have hbl : (plain L limit S).bad = false ∧ (plain L limit S).full = false := by
    by_cases q : ((plain L limit S).bad || (plain L limit S).full) = true
    · rw [stop _ A.1 _ q] at h'
      rw [h']
      exact ⟨rfl, rfl⟩
    · simpa using q
  have a := plain_len L limit S hbl.1
  have b := infF_len L limit (L.length + 1) A.1 (plain L limit S) (by rw [h']; exact hk) (by rw [h']) (by rw [h'])
  rw [h'] at b
  simp only at b
  rw [hSp.1, hSp.2, h2.2, h1.2, h2.1, h1.1] at a
  simp only [List.length_nil] at a
  omega
end Go.Proofs.YtmfijackgekioaaGreat.Rf
