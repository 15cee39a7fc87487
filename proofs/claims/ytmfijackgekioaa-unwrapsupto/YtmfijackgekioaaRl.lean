import Derived.Test.YtmfijackgekioaaRp
namespace Go.Proofs.Ytmfijackgekioaa
open Go.RowKit

theorem Try.info5 : (Try.prog.info? 5).map (fun i => (i.zero, i.size, i.bytes)) = some (some (.int .u8 0), 1, 1) := by kernel_rfl
theorem byte_of (k : Int) (h : 0 ≤ k ∧ k < 256) : byteV (UInt8.ofNat k.toNat) = .int .u8 k := by
  have : ((UInt8.ofNat k.toNat).toNat : Int) = k := by
    rw [UInt8.toNat_ofNat']
    omega
  simp only [byteV, this]

set_option maxRecDepth 100000 in
set_option maxHeartbeats 2000000 in
theorem plain24 (B : Nat) (L : List Int) (ao : Option Addr) (cap : Nat) (limit : Int) (st : Rf.St) (ov kv : Value) (w : World) (hr : Rep w B L ao cap limit st ov kv) (hout : Hid (st.out.length ≤ 3000000000)) :
    Calls Try.prog 25 #[.pointer (some ⟨B, 0, none⟩)] w
      fun e w' => e = .returned (.tuple #[]) ∧ (∃ ov', Rep w' B L ao cap limit (Rf.plain L limit st) ov' kv) ∧ Fr B w w' := by
  obtain ⟨i0, hi, hz0, hz1, hz2⟩ := info_parts Try.info5
  obtain ⟨c0, c1, c2, c3, c4, c5, c6, fz⟩ := hr.cells
  have hbits := hr.hb
  have hp := hr.hpos
  have hl := hr.hlen
  have h8 := hr.h8
  have hlt := hr.lt
  have r1 : Rep (w.setCell ⟨B, 1, none⟩ (.int .i64 (((st.pos : Int) + 7) / 8 * 8))) B L ao cap limit { st with pos := (st.pos + 7) / 8 * 8 } ov kv :=
    hr.set 1 _ _ (by simp) rfl rfl (by show (st.pos + 7) / 8 * 8 ≤ _; omega)
  have hk0 : Kp (· = B) w (w.setCell ⟨B, 1, none⟩ (.int .i64 (((st.pos : Int) + 7) / 8 * 8))) := (Kp.refl _ w).set1 _ _
  obtain ⟨PL, hPL⟩ : ∃ PL, PL = Rf.plain L limit st := ⟨_, rfl⟩
  have HQ : Hid (Rf.plain L limit st = PL) := hPL.symm
  unfold Rf.plain at hPL
  simp only at hPL
  have HP : Hid (PL = _) := hPL
  clear hPL
  generalize hs1 : ({ st with pos := (st.pos + 7) / 8 * 8 } : Rf.St) = st1 at *
  have ho1 : st1.out = st.out := by rw [← hs1]
  clear hs1
  go_enter Try.func25, Try.ntmps25
  go_wp2_with fail
  refine (take23 16 B L ao cap limit st1 ov kv _ r1 (by omega)).mono ?_
  rintro e w1 ⟨rfl, r2, k2⟩
  have hA := Rf.take_range hbits st1 16
  have hAo := (Rf.take_out L st1 16).1
  generalize Rf.take L st1 16 = A at *
  obtain ⟨a, st2⟩ := A
  simp only at hA hAo r2 HP ⊢
  go_wp2_with fail
  refine (take23 16 B L ao cap limit st2 ov kv _ r2 (by omega)).mono ?_
  rintro e w2 ⟨rfl, r3, k3⟩
  have hB := Rf.take_range hbits st2 16
  have hBo := (Rf.take_out L st2 16).1
  generalize Rf.take L st2 16 = A at *
  obtain ⟨b, st3⟩ := A
  simp only at hB hBo r3 HP ⊢
  have hk3 := (hk0.trans k2).trans k3
  clear hk0 k2 k3 r1 r2 c0 c1 c2 c3 c4 c5 c6 fz
  obtain ⟨c0, c1, c2, c3, c4, c5, c6, fz⟩ := r3.cells
  have hA' : a < 65536 := by omega
  have hB' : b < 65536 := by omega
  by_cases hab : a + b = 65535
  · have hab' : (a + b != 65535) = false := by simp [hab]
    rw [if_pos hab] at HP
    clear hab
    cases hbad : st3.bad
    · rw [hbad] at c3 HP
      simp only [Bool.false_eq_true, if_false] at HP
      obtain ⟨n, rfl⟩ := Int.eq_ofNat_of_zero_le hA.1
      rw [Int.toNat_natCast] at HP
      go_wp2_with fail
      refine (room43 n B L ao cap limit st3 ov kv _ r3 (by omega) (by rw [hBo, hAo, ho1]; have := hout.out; omega)).mono ?_
      rintro e w3 ⟨rfl, r4, k4⟩
      have hRo := Rf.room_out limit st3 n
      generalize Rf.room limit st3 n = R at *
      obtain ⟨ok, st4⟩ := R
      simp only at hRo r4 HP ⊢
      have hk4 := hk3.trans k4
      have hf4 := Fr.ofKp (Nat.le_of_lt hlt) hk4
      have ho4 : Hid (st4.out.length ≤ 3000000000) := by show _ ≤ _; rw [hRo.1, hBo, hAo, ho1]; exact hout.out
      clear hk3 k4 r3 c0 c1 c2 c3 c4 c5 c6 fz hk4
      cases ok
      · simp only [Bool.false_eq_true, if_false] at HP
        go_wp2
        clear hRo hBo hAo ho1 hab' hA hB hA' hB' hl hp h8 hbad
        go_loopw [5] (fun i wr => i = .int .i64 0 ∧ wr = w3) (fun _ _ => 0)
        case atStart => exact ⟨rfl, rfl⟩
        case round =>
          obtain ⟨rfl, rfl⟩ := hrel
          go_wp2_with fail
          all_goals go_end0
          all_goals exact ⟨rfl, ⟨ov, by rw [HQ.out, HP.out]; exact r4⟩, hf4⟩
      · simp only [if_true] at HP
        go_wp2
        go_loopw [5] (fun i wr => ∃ (k : Nat) (st' : Rf.St) (ov' : Value), k ≤ n ∧ i = .int .i64 k ∧ Rep wr B L ao cap limit st' ov' kv ∧ Fr B w wr ∧ Hid (Rf.plF L (n - k) st' = PL) ∧ Hid (st'.out.length ≤ 3000000000 + k)) (fun i _ => n - (intOf i).toNat)
        case atStart => exact ⟨0, st4, ov, Nat.zero_le _, rfl, r4, hf4, HP.out.symm, ho4⟩
        case round =>
          have hn6 : (n : Int) ≤ 65535 := by omega
          clear r4 hf4 ho4 hRo hBo hAo ho1 hab' hA hB hA' hB' hl hp h8 hbad
          obtain ⟨k, st', ov', hk, rfl, r5, f5, HF, ho5⟩ := hrel
          obtain ⟨d0, d1, d2, d3, d4, d5, d6, fz⟩ := r5.cells
          by_cases hlt2 : k < n
          · cases hbad' : st'.bad
            · rw [hbad'] at d3
              have HF2 : Hid (Rf.plF L (n - (k + 1)) { (Rf.take L st' 8).2 with out := (Rf.take L st' 8).2.out ++ [UInt8.ofNat (Rf.take L st' 8).1.toNat] } = PL) := by
                show _ = _
                rw [← HF.out, show n - k = (n - (k + 1)) + 1 by omega, Rf.plF, hbad']
                rfl
              have hT := Rf.take_range hbits st' 8
              have hTo := (Rf.take_out L st' 8).1
              go_wp2_with fail
              refine (take23 8 B L ao cap limit st' ov' kv _ r5 (by omega)).mono ?_
              rintro e w5 ⟨rfl, r6, k6⟩
              have f6 := f5.trans (Fr.ofKp (Nat.le_of_lt r5.lt) k6)
              generalize Rf.take L st' 8 = T at *
              obtain ⟨c, st6⟩ := T
              simp only at hT hTo r6 HF2 ⊢
              have hT' : c < 256 := by omega
              clear r5 f5 k6 HF d0 d1 d2 d3 d4 d5 d6 fz
              obtain ⟨d0, d1, d2, d3, d4, d5, d6, fz⟩ := r6.cells
              have hl6 := r6.lt
              have hl7 : Hid (st6.out.length + 1 ≤ 3000000000 + (k + 1)) := by show _ ≤ _; rw [hTo]; have := ho5.out; omega
              have hl8 : Hid (st6.out.length + 1 ≤ maxLen ∧ (st6.out.length + 1) * 1 ≤ 140737488355328) := by have := hl7.out; show _ ∧ _; unfold maxLen; omega
              clear hTo
              obtain ⟨oa, oc, rfl⟩ := own_slice r6.ho
              go_wp2_with (at_builtin; (refine wpList_append_own _ rfl _ _ 39 rfl (B + 1) 5 i0 (.int .u8 0) 1 1 Try.underlying39 hi hz0 hz1 hz2 rfl (by decide) _ _ _ rfl (r6.ho.alloc _) ⟨w5.heap.size, 0, none⟩ 1 1 [.int .u8 c] rfl rfl (cell_one_new _ _ _) (by intro u hu; simp at hu; subst hu; rfl) hl8.out.1 hl8.out.2 (by simp; omega) ?_); intro v' w6 hown' hgrow _; obtain ⟨q1, q2, _⟩ := r6.grown _ hgrow; obtain ⟨oa', oc', rfl⟩ := own_slice hown')
              have R7 := r6.push (.cells #[.int .u8 c] 5) (UInt8.ofNat c.toNat) (by rw [byte_of c ⟨hT.1, hT'⟩]; exact hown') hgrow
              have f7 := f6.trans R7.2
              have R8 := R7.1
              go_roundw
              case rel => exact ⟨k + 1, _, _, by omega, by go_num, R8, f7, HF2, by simpa [Hid] using hl7⟩
              case measure => simp [intOf]; omega
            · rw [hbad'] at d3
              have HF2 : Hid (st' = PL) := by
                show _ = _
                rw [← HF.out, show n - k = (n - (k + 1)) + 1 by omega, Rf.plF, hbad']
                rfl
              go_wp2
              go_end0
              exact ⟨rfl, ⟨ov', by rw [HQ.out, ← HF2.out]; exact r5⟩, f5⟩
          · have HF2 : Hid (st' = PL) := by
              show _ = _
              rw [← HF.out, show n - k = 0 by omega]
              rfl
            go_wp2
            go_end0
            exact ⟨rfl, ⟨ov', by rw [HQ.out, ← HF2.out]; exact r5⟩, f5⟩
    · rw [hbad] at c3 HP
      go_wp2
      exact bodyPost_ret (results_none rfl _ _ _) rfl ⟨rfl, ⟨ov, by rw [HQ.out, HP.out]; exact r3⟩, Fr.ofKp (Nat.le_of_lt hlt) hk3⟩
  · have hab' : (a + b != 65535) = true := by simp [hab]
    rw [if_neg hab] at HP
    have HR : Hid (Rep (w2.setCell ⟨B, 3, none⟩ (.bool true)) B L ao cap limit { st3 with bad := true } ov kv) := r3.set 3 (.bool true) _ rfl rfl rfl r3.hpos
    go_wp2
    exact bodyPost_ret (results_none rfl _ _ _) rfl ⟨rfl, ⟨ov, by rw [HQ.out, HP.out]; exact HR.out⟩, Fr.ofKp (Nat.le_of_lt hlt) (hk3.set1 _ _)⟩

end Go.Proofs.Ytmfijackgekioaa
