/-
  Unwrapping by the program: wrap.Open.
-/
import Derived.Test.YtmfijackgekioaaVa
namespace Go.Proofs.Ytmfijackgekioaa
open Go.RowKit

def byteAt (s : ByteArray) (i : Nat) : Nat := (s.data.toList.getD i 0).toNat
theorem byteAt_eq (s : ByteArray) (i : Nat) (h : i < s.size) : s[i].toNat = byteAt s i := by
  unfold byteAt
  rw [List.getD_eq_getElem?_getD, List.getElem?_eq_getElem (by simpa using h)]
  rfl

theorem toList_data (T : ByteArray) : T.toList = T.data.toList := ByteArray.toList_eq T

/-- What unpacking the middle comes to. -/
def mid (s : ByteArray) (limit : Int) : Rf.St := Rf.inflate (lw (s.extract 2 s.size)) limit
/-- The number that unwrapping answers. -/
def wcode (s : ByteArray) (limit : Int) : Int :=
  if s.size < 2 ∨ ¬ HeadOk (byteAt s 0) (byteAt s 1) then 8
  else if ((mid s limit).bad || (mid s limit).full) = true then code (mid s limit)
  else if s.size ≠ ((mid s limit).pos + 7) / 8 + 6 then 8
  else if s.data.toList.drop (((mid s limit).pos + 7) / 8 + 2) ≠ four (Mx.adler (mid s limit).out) then 9 else 0
def Fine (s : ByteArray) (limit : Int) : Prop := 2 ≤ s.size → HeadOk (byteAt s 0) (byteAt s 1) → ((mid s limit).bad || (mid s limit).full) = false → (mid s limit).pos ≤ 8388608 ∧ (mid s limit).out.length ≤ 3000000000
def EndsO (s : ByteArray) (limit : Int) (w : World) (e : Ending) (w' : World) : Prop :=
  ((wcode s limit = 0 ∧ e = .returned (.string ⟨(mid s limit).out.toArray⟩)) ∨ (wcode s limit ≠ 0 ∧ e = dies (wcode s limit))) ∧ Fine s limit ∧ Below w.heap.size w w'

set_option maxRecDepth 100000 in
set_option maxHeartbeats 2000000 in
theorem open32 (s : ByteArray) (limit : Int) (w : World) (hs : s.size ≤ 1048576) (hl0 : -9223372036854775808 ≤ limit) (hl1 : limit ≤ 9223372036854775807) :
    Calls Try.prog 32 #[.string s, .int .i64 limit] w fun e w' => EndsO s limit w e w' := by
  by_cases h2 : s.size < 2
  · have HC : Hid (wcode s limit = 8) := by show _ = _; rw [wcode, if_pos (.inl h2)]
    have hd2 : decide ((s.size : Int) < 2) = true := decide_eq_true (by omega)
    go_enter Try.func32, Try.ntmps32
    go_wp2
    go_quiet (fail)
    go_wp2
    refine ⟨rfl, .inr ⟨by rw [HC.out]; decide, by rw [HC.out]⟩, fun h => by omega, below_drewN (Below.refl _ _) _⟩
  · have hx0 := byteAt_eq s 0 (by omega)
    have hy0 := byteAt_eq s 1 (by omega)
    have hx : byteAt s 0 < 256 := by rw [← hx0]; exact s[0].toNat_lt
    have hy : byteAt s 1 < 256 := by rw [← hy0]; exact s[1].toNat_lt
    have hh := fun w => headP (byteAt s 0) (byteAt s 1) w hx hy
    have hd2 : decide ((s.size : Int) < 2) = false := decide_eq_false (by omega)
    obtain ⟨F, hF⟩ : ∃ F, F = mid s limit := ⟨_, rfl⟩
    obtain ⟨WC, hWC⟩ : ∃ c, c = wcode s limit := ⟨_, rfl⟩
    have HNO : Hid (¬ HeadOk (byteAt s 0) (byteAt s 1) → WC = 8 ∧ Fine s limit) := fun h => ⟨by rw [hWC, wcode, if_pos (.inr h)], fun _ h' => absurd h' h⟩
    have HYES : Hid (HeadOk (byteAt s 0) (byteAt s 1) → WC = if (F.bad || F.full) = true then code F else if s.size ≠ (F.pos + 7) / 8 + 6 then 8 else if s.data.toList.drop ((F.pos + 7) / 8 + 2) ≠ four (Mx.adler F.out) then 9 else 0) := fun h => by
      rw [hWC, wcode, if_neg (by rintro (q | q) <;> contradiction), ← hF]
    have HFN : Hid (((F.bad || F.full) = false → F.pos ≤ 8388608 ∧ F.out.length ≤ 3000000000) → Fine s limit) := fun h _ _ q => by rw [← hF] at q ⊢; exact h q
    unfold EndsO
    rw [← hWC, ← hF]
    generalize Fine s limit = FN at *
    obtain ⟨P, hP⟩ : ∃ P, s.extract 2 s.size = P := ⟨_, rfl⟩
    have hby : ∀ w, Calls Try.prog 22 #[.string P, .int .i64 limit] w fun e w' => EndsB w F e w' := fun w => by
      rw [hF, mid, hP]
      exact bytes22 P limit w (by rw [← hP, ByteArray.size_extract]; omega) hl0 hl1 (alike_fixed _)
    obtain ⟨n, hn⟩ : ∃ n, s.size = n + 2 := ⟨s.size - 2, by omega⟩
    have hPn : P.size = n := by rw [← hP, ByteArray.size_extract]; omega
    have HPd : Hid (P.data.toList = s.data.toList.drop 2) := by
      show _ = _
      rw [← hP, ByteArray.data_extract, Array.toList_extract]
      rw [List.extract_eq_take_drop, List.take_of_length_le (by simp)]
    have HSZ : Hid (s.size = n + 2) := hn
    clear hF hWC hn
    generalize byteAt s 0 = x at *
    generalize byteAt s 1 = y at *
    by_cases hok : HeadOk x y
    · rw [decide_eq_true hok] at hh
      have HY : Hid (WC = _) := HYES.out hok
      clear HYES HNO
      go_enter Try.func32, Try.ntmps32
      go_wp2
      go_quiet ((go_at_call 53; exact Calls.quiet_of_same (hh _)))
      go_wp2_with fail
      refine (hby _).mono ?_
      rintro e w1 (⟨f1, f2, rfl, b1, fb1, fb2⟩ | ⟨f1, rfl, b1⟩)
      · have HN : Hid FN := HFN.out fun _ => ⟨fb1, fb2⟩
        rw [if_neg (by rw [f1, f2]; decide), HSZ.out] at HY
        have hom : ByteArray.size ⟨F.out.toArray⟩ ≤ maxLen := by show F.out.toArray.size ≤ _; unfold maxLen; simp; omega
        have hab := fun w => adlerP ⟨F.out.toArray⟩ w hom
        have had : Hid (0 ≤ Mx.adler F.out ∧ Mx.adler F.out < 4294967296) := by
          have h1 := Mx.adS_range F.out
          have h2 := Mx.adT_range F.out
          show _ ∧ _
          unfold Mx.adler; omega
        have HB1 : Hid (Below w.heap.size w w1) := below_drewN (Below.refl _ _) _ |>.trans b1
        obtain ⟨u, hu⟩ : ∃ u, (F.pos + 7) / 8 = u := ⟨_, rfl⟩
        rw [hu] at HY ⊢
        have hub : u ≤ 1048577 := by omega
        clear fb1 fb2 hu HFN hom
        by_cases hlen : n = u + 4
        · rw [if_neg (by omega)] at HY
          subst hlen
          have hne : (((u : Int) + 4 - (u : Int)) != 4) = false := by rw [bne_eq_false_iff_eq]; omega
          obtain ⟨T, hT⟩ : ∃ T, P.extract u (u + 4) = T := ⟨_, rfl⟩
          have HT : Hid (T.data.toList = s.data.toList.drop (u + 2)) := by
            show _ = _
            rw [← hT, ByteArray.data_extract, Array.toList_extract, List.extract_eq_take_drop, HPd.out, List.drop_drop, List.take_of_length_le (by have := HSZ.out; simp; omega), Nat.add_comm]
          rw [← HT.out] at HY
          have hT4 : T.size = 4 := by rw [← hT, ByteArray.size_extract]; omega
          have hff := fun w => fromFourP T w hT4
          have HQ : Hid (fromF T.data.toList = Mx.adler F.out ↔ T.data.toList = four (Mx.adler F.out)) := fromF_four _ (by simpa using hT4) _ had.out.1 had.out.2
          have hnb : u + 4 ≤ 1048576 := by have := HSZ.out; omega
          have hab : ∀ w, Calls Try.prog 18 #[.string ⟨F.out.toArray⟩] w fun e w' => e = .returned (.int .i64 (Mx.adler F.out)) ∧ w' = w := fun w => by
            have := hab w
            simpa using this
          generalize fromF T.data.toList = ff at *
          generalize four (Mx.adler F.out) = fo at *
          generalize Mx.adler F.out = ad at *
          obtain ⟨b, hb⟩ : ∃ b, (ff != ad) = b := ⟨_, rfl⟩
          have HBQ : Hid ((ff != ad) = b) := hb
          go_wp2_with fail
          refine (hff _).mono ?_
          rintro e w5 ⟨rfl, m5, rfl⟩
          go_wp2_with fail
          refine (hab _).mono ?_
          rintro e w6 ⟨rfl, rfl⟩
          cases b with
          | false =>
            have hq : T.data.toList = fo := HQ.out.1 (by have := HBQ.out; simpa using this)
            have HE : Hid (WC = 0) := by show _ = _; rw [HY.out, if_neg (by rw [hq]; simp)]
            go_wp2
            go_ret
            exact ⟨.inl ⟨HE.out, rfl⟩, HN.out, below_drewN HB1.out _⟩
          | true =>
            have hq : T.data.toList ≠ fo := fun q => by
              have := HBQ.out
              rw [HQ.out.2 q] at this
              simp at this
            have HE : Hid (WC = 9) := by show _ = _; rw [HY.out, if_pos hq]
            go_wp2
            refine ⟨rfl, .inr ⟨by rw [HE.out]; decide, by rw [HE.out]⟩, HN.out, below_drewN HB1.out _⟩
        · rw [if_pos (by omega)] at HY
          have hnb : n ≤ 1048576 := by have := HSZ.out; omega
          have hne : (((n : Int) - (u : Int)) != 4) = true := by rw [bne_iff_ne]; omega
          go_wp2
          refine ⟨rfl, .inr ⟨by rw [HY.out]; decide, by rw [HY.out]⟩, HN.out, HB1.out⟩
      · rw [if_pos f1] at HY
        have HN : Hid FN := HFN.out fun h => by rw [f1] at h; cases h
        have HC : Hid (code F ≠ 0) := by show _ ≠ _; unfold code; split <;> decide
        go_wp2
        refine ⟨rfl, .inr ⟨by rw [HY.out]; exact HC.out, by rw [HY.out]⟩, HN.out, (below_drewN (Below.refl _ _) _).trans b1⟩
    · rw [decide_eq_false hok] at hh
      have HY := HNO.out hok
      clear HYES HNO HFN
      obtain ⟨H1, H2⟩ := HY
      have HH : Hid (WC = 8 ∧ FN) := ⟨H1, H2⟩
      clear H1 H2
      go_enter Try.func32, Try.ntmps32
      go_wp2
      go_quiet ((go_at_call 53; exact Calls.quiet_of_same (hh _)))
      go_wp2
      refine ⟨rfl, .inr ⟨by rw [HH.out.1]; decide, by rw [HH.out.1]⟩, HH.out.2, below_drewN (Below.refl _ _) _⟩
end Go.Proofs.Ytmfijackgekioaa
