import Derived.Test.YtmfijackgekioaaGreatDoorQUwVc6
import Derived.Test.YtmfijackgekioaaGreatDoorQRi

/-
  Unwrapping by the document's own words.
-/
namespace Go.Proofs.YtmfijackgekioaaGreatDoor
open Go.RowKit

set_option maxHeartbeats 400000 in
theorem adlerR (s : ByteArray) (w : World) (hs : s.size ≤ maxLen) :
    Calls Tryz.prog 73 #[.string s] w fun e w' => e = .returned (.int .i64 (Mx.adler s.data.toList)) ∧ w' = w := by
  unfold maxLen at hs
  go_enter Tryz.func73, Tryz.ntmps73
  go_wp2
  go_loop [3, 4, 5] (fun x y i => ∃ k : Nat, k ≤ s.size ∧ i = .int .i64 k ∧ x = .int .i64 (Mx.adS (s.data.toList.take k)) ∧ y = .int .i64 (Mx.adT (s.data.toList.take k))) (fun _ _ i => s.size - (intOf i).toNat)
  case atStart => exact ⟨0, Nat.zero_le _, rfl, rfl, rfl⟩
  case round =>
    obtain ⟨k, hk, rfl, rfl, rfl⟩ := hrel
    have h1 := Mx.adS_range (s.data.toList.take k)
    have h2 := Mx.adT_range (s.data.toList.take k)
    by_cases hlt : k < s.size
    · have hc : (s[k].toNat : Int) < 256 := by have := s[k].toNat_lt; omega
      have HS : Hid (Mx.adS (s.data.toList.take (k + 1)) = (Mx.adS (s.data.toList.take k) + s[k].toNat) % 65521) := by rw [Mx.take_snoc s k hlt]; exact Mx.adS_snoc _ _
      have HT : Hid (Mx.adT (s.data.toList.take (k + 1)) = (Mx.adT (s.data.toList.take k) + (Mx.adS (s.data.toList.take k) + s[k].toNat) % 65521) % 65521) := by rw [Mx.take_snoc s k hlt]; exact Mx.adT_snoc _ _
      go_wp2
      go_round
      case rel => exact ⟨k + 1, by omega, by go_num, by rw [HS.out], by rw [HT.out]⟩
      case measure => simp [intOf]; omega
    · go_wp2
      go_ret
      exact ⟨ret_int (by rw [List.take_of_length_le (by simp; omega)]; rfl), rfl⟩


set_option maxRecDepth 100000 in
set_option maxHeartbeats 1000000 in
theorem four33 (s : ByteArray) (k : Nat) (w : World) (hs : s.size ≤ 5000000) (hk : k + 4 ≤ s.size) :
    Calls Tryz.prog 69 #[.string s, .int .i64 k] w fun e w' => e = .returned (.int .i64 (fourAt s k)) ∧ ∃ n, w' = w.drewN n := by
  have q0 : k < s.size := by omega
  have q1 : k + 1 < s.size := by omega
  have q2 : k + 2 < s.size := by omega
  have q3 : k + 3 < s.size := by omega
  have e0 := byteAt_eq s k q0
  have e1 := byteAt_eq s (k + 1) q1
  have e2 := byteAt_eq s (k + 2) q2
  have e3 := byteAt_eq s (k + 3) q3
  have l0 := byteAt_lt s k
  have l1 := byteAt_lt s (k + 1)
  have l2 := byteAt_lt s (k + 2)
  have l3 := byteAt_lt s (k + 3)
  have HF : Hid (fourAt s k = byteAt s k * 16777216 + byteAt s (k + 1) * 65536 + byteAt s (k + 2) * 256 + byteAt s (k + 3)) := rfl
  generalize fourAt s k = V at *
  generalize byteAt s k = b0 at *
  generalize byteAt s (k + 1) = b1 at *
  generalize byteAt s (k + 2) = b2 at *
  generalize byteAt s (k + 3) = b3 at *
  have p0 : (k : Int) < (s.size : Int) := by omega
  have p1 : (k : Int) + 1 < (s.size : Int) := by omega
  have p2 : (k : Int) + 2 < (s.size : Int) := by omega
  have p3 : (k : Int) + 3 < (s.size : Int) := by omega
  have g1 : (0 : Int) ≤ (k : Int) + 1 := by omega
  have g2 : (0 : Int) ≤ (k : Int) + 2 := by omega
  have g3 : (0 : Int) ≤ (k : Int) + 3 := by omega
  have x1 : IntKind.i64.wrap ((k : Int) + 1) = ((k + 1 : Nat) : Int) := by rw [IntWalk.i64_in _ (by omega)]; omega
  have x2 : IntKind.i64.wrap ((k : Int) + 2) = ((k + 2 : Nat) : Int) := by rw [IntWalk.i64_in _ (by omega)]; omega
  have x3 : IntKind.i64.wrap ((k : Int) + 3) = ((k + 3 : Nat) : Int) := by rw [IntWalk.i64_in _ (by omega)]; omega
  have y0 : IntKind.i64.wrap (b0 : Int) = b0 := IntWalk.i64_in _ (by omega)
  have y1 : IntKind.i64.wrap (b1 : Int) = b1 := IntWalk.i64_in _ (by omega)
  have y2 : IntKind.i64.wrap (b2 : Int) = b2 := IntWalk.i64_in _ (by omega)
  have y3 : IntKind.i64.wrap (b3 : Int) = b3 := IntWalk.i64_in _ (by omega)
  have z0 : IntKind.i64.wrap ((b0 : Int) * 16777216) = (b0 : Int) * 16777216 := IntWalk.i64_in _ (by omega)
  have z1 : IntKind.i64.wrap ((b1 : Int) * 65536) = (b1 : Int) * 65536 := IntWalk.i64_in _ (by omega)
  have z2 : IntKind.i64.wrap ((b2 : Int) * 256) = (b2 : Int) * 256 := IntWalk.i64_in _ (by omega)
  have t1 : IntKind.i64.wrap ((b0 : Int) * 16777216 + (b1 : Int) * 65536) = (b0 : Int) * 16777216 + (b1 : Int) * 65536 := IntWalk.i64_in _ (by omega)
  have t2 : IntKind.i64.wrap ((b0 : Int) * 16777216 + (b1 : Int) * 65536 + (b2 : Int) * 256) = (b0 : Int) * 16777216 + (b1 : Int) * 65536 + (b2 : Int) * 256 := IntWalk.i64_in _ (by omega)
  have t3 : IntKind.i64.wrap ((b0 : Int) * 16777216 + (b1 : Int) * 65536 + (b2 : Int) * 256 + (b3 : Int)) = (b0 : Int) * 16777216 + (b1 : Int) * 65536 + (b2 : Int) * 256 + (b3 : Int) := IntWalk.i64_in _ (by omega)
  clear hk
  go_enter Tryz.func69, Tryz.ntmps69
  go_wp2
  go_quiet (fail)
  go_wp2
  go_ret
  exact ⟨ret_int (by rw [HF.out]), _, rfl⟩

set_option maxRecDepth 100000 in
set_option maxHeartbeats 2000000 in
theorem unwrap16 (s : ByteArray) (limit : Int) (w : World) (hs : s.size ≤ 5000000) (hfine : FineW s limit) :
    Calls Tryz.prog 39 #[.string s, .int .i64 limit] w fun e w' => e = .returned (.tuple #[.string (wtext s limit), .int .i64 (wcode s limit)]) ∧ Below w.heap.size w w' := by
  by_cases h2 : s.size < 2
  · have HC : Hid (wcode s limit = 8) := by show _ = _; rw [wcode, if_pos (.inl h2)]
    have HT : Hid (wtext s limit = ⟨#[]⟩) := by show _ = _; rw [wtext, HC.out]; rfl
    generalize wtext s limit = TX at *
    generalize wcode s limit = WC at *
    go_enter Tryz.func39, Tryz.ntmps39
    go_wp2
    refine bodyPost_ret (v := .tuple #[.string ⟨#[]⟩, .int .i64 8]) (by simp [results, Tryz.results39, go_sem]) rfl ⟨by rw [HC.out, HT.out], Below.refl _ _⟩
  · have hx0 := byteAt_eq s 0 (by omega)
    have hy0 := byteAt_eq s 1 (by omega)
    have hx := byteAt_lt s 0
    have hy := byteAt_lt s 1
    obtain ⟨F, hF⟩ : ∃ F, F = mid s limit := ⟨_, rfl⟩
    obtain ⟨WC, hWC⟩ : ∃ c, c = wcode s limit := ⟨_, rfl⟩
    obtain ⟨TX, hTX⟩ : ∃ t, t = wtext s limit := ⟨_, rfl⟩
    have HNO : Hid (¬ HeadOk (byteAt s 0) (byteAt s 1) → WC = 8) := fun h => by rw [hWC, wcode, if_pos (.inr h)]
    have HYES : Hid (HeadOk (byteAt s 0) (byteAt s 1) → WC = if (F.bad || F.full) = true then code F else if s.size ≠ (F.pos + 7) / 8 + 6 then 8 else if s.data.toList.drop ((F.pos + 7) / 8 + 2) ≠ four (Mx.adler F.out) then 9 else 0) := fun h => by
      rw [hWC, wcode, if_neg (by rintro (q | q) <;> contradiction), ← hF]
    have HTX : Hid (TX = if WC = 0 then ⟨F.out.toArray⟩ else ⟨#[]⟩) := by show _ = _; rw [hTX, wtext, ← hWC, ← hF]
    have HFN : Hid (HeadOk (byteAt s 0) (byteAt s 1) → (F.bad || F.full) = false → F.pos ≤ 40000000 ∧ F.out.length ≤ 11000000000) := fun h q => by rw [hF] at q ⊢; exact hfine (by omega) h q
    rw [← hWC, ← hTX]
    obtain ⟨P, hP⟩ : ∃ P, s.extract 2 s.size = P := ⟨_, rfl⟩
    have hby : ∀ w, Calls Tryz.prog 44 #[.string P, .int .i64 limit] w fun e w' => ∃ kv, e = .returned (.tuple #[a1 F, a2 F, a3 F, kv]) ∧ Below w.heap.size w w' := fun w => by
      rw [hF, mid, hP]
      exact inflate10 P limit w (by rw [← hP, ByteArray.size_extract]; omega)
    clear hF hWC hTX hfine
    have HX0 : Hid (byteAt s 0 = byteAt s 0 ∧ byteAt s 1 = byteAt s 1) := ⟨rfl, rfl⟩
    clear HX0
    generalize byteAt s 0 = x at *
    generalize byteAt s 1 = y at *
    by_cases hok : HeadOk x y
    · have HY : Hid (WC = _) := HYES.out hok
      have hok' := hok
      unfold HeadOk at hok'
      obtain ⟨k1, k2, k3, k4⟩ := hok'
      have i1 : ((x : Int) % 16) = 8 := by omega
      have i2 : ((x : Int) / 16) ≤ 7 := by omega
      have i3 : ((y : Int) / 32) % 2 = 0 := by omega
      have i4 : ((256 * (x : Int) + (y : Int)) % 31 != 0) = false := by rw [bne_eq_false_iff_eq]; omega
      have HFN2 : Hid ((F.bad || F.full) = false → F.pos ≤ 40000000 ∧ F.out.length ≤ 11000000000) := HFN.out hok
      clear HYES HNO HFN k1 k2 k3 k4
      cases hbf : (F.bad || F.full) with
      | true =>
        rw [hbf, if_pos rfl] at HY
        have hc0 : code F ≠ 0 := by unfold code; split <;> decide
        have HT2 : Hid (TX = ⟨#[]⟩) := by show _ = _; rw [HTX.out, HY.out, if_neg hc0]
        have e1 : a1 F = .string ⟨#[]⟩ := by unfold a1; rw [hbf]; rfl
        have e2 : a2 F = .int .i64 0 := by unfold a2; rw [hbf]; rfl
        have e3 : a3 F = .int .i64 (code F) := by unfold a3; rw [hbf]; rfl
        rw [e1, e2, e3] at hby
        clear e1 e2 e3 HTX HFN2
        generalize code F = cd at *
        have hcb : (cd != 0) = true := bne_iff_ne.2 hc0
        clear hc0
        go_enter Tryz.func39, Tryz.ntmps39
        go_wp2_with fail
        refine (hby _).mono ?_
        rintro e w1 ⟨kv, rfl, b1⟩
        go_wp2
        refine bodyPost_ret (v := .tuple #[.string ⟨#[]⟩, .int .i64 cd]) (by simp [results, Tryz.results39, go_sem]) rfl ⟨by rw [HY.out, HT2.out], b1⟩
      | false =>
        obtain ⟨fb1, fb2⟩ := HFN2.out hbf
        rw [hbf, if_neg (by decide)] at HY
        have e1 : a1 F = .string ⟨F.out.toArray⟩ := by unfold a1; rw [hbf]; rfl
        have e2 : a2 F = .int .i64 (((F.pos + 7) / 8 : Nat) : Int) := by unfold a2; rw [hbf]; rfl
        have e3 : a3 F = .int .i64 0 := by unfold a3; rw [hbf]; rfl
        rw [e1, e2, e3] at hby
        have hom : ByteArray.size ⟨F.out.toArray⟩ ≤ maxLen := by show F.out.toArray.size ≤ _; unfold maxLen; simp; omega
        have hab : ∀ w, Calls Tryz.prog 73 #[.string ⟨F.out.toArray⟩] w fun e w' => e = .returned (.int .i64 (Mx.adler F.out)) ∧ w' = w := fun w => adlerR ⟨F.out.toArray⟩ w hom
        have HAD : Hid (0 ≤ Mx.adler F.out ∧ Mx.adler F.out < 4294967296) := by
          have h1 := Mx.adS_range F.out
          have h2 := Mx.adT_range F.out
          show _ ∧ _
          unfold Mx.adler; omega
        obtain ⟨u, hu⟩ : ∃ u, (F.pos + 7) / 8 = u := ⟨_, rfl⟩
        rw [hu] at HY hby
        have hub : u ≤ 5000001 := by omega
        clear e1 e2 e3 fb1 fb2 hu HFN2 hom
        generalize Mx.adler F.out = ad at *
        by_cases hlen : s.size = u + 6
        · rw [if_neg (by omega)] at HY
          have h4 := fun w => four33 s (u + 2) w hs (by omega)
          have H4 : Hid (s.data.toList.drop (u + 2) = four ad ↔ fourAt s (u + 2) = ad) := four_iff s (u + 2) (by omega) ad HAD.out.1 HAD.out.2
          generalize fourAt s (u + 2) = fa at *
          rw [show (((u + 2 : Nat) : Int)) = (u : Int) + 2 by omega] at h4
          have hszb : ((s.size : Int) != ((u : Int) + 6)) = false := by rw [bne_eq_false_iff_eq]; omega
          clear hlen
          by_cases hq : fa = ad
          · have hqb : (fa != ad) = false := by rw [bne_eq_false_iff_eq]; exact hq
            have HW : Hid (WC = 0) := by show _ = _; rw [HY.out, if_neg (fun h => h (H4.out.2 hq))]
            have HT2 : Hid (TX = ⟨F.out.toArray⟩) := by show _ = _; rw [HTX.out, HW.out]; rfl
            clear hq HTX HAD H4 HY
            go_enter Tryz.func39, Tryz.ntmps39
            go_wp2_with fail
            refine (hby _).mono ?_
            rintro e w1 ⟨kv, rfl, b1⟩
            go_wp2_with fail
            refine (hab _).mono ?_
            rintro e w2 ⟨rfl, rfl⟩
            go_wp2_with fail
            refine (h4 _).mono ?_
            rintro e w3 ⟨rfl, nn, rfl⟩
            go_wp2
            refine bodyPost_ret (v := .tuple #[.string ⟨F.out.toArray⟩, .int .i64 0]) (by simp [results, Tryz.results39, go_sem]) rfl ⟨by rw [HW.out, HT2.out], below_drewN b1 _⟩
          · have hqb : (fa != ad) = true := by rw [bne_iff_ne]; exact hq
            have HW : Hid (WC = 9) := by show _ = _; rw [HY.out, if_pos (fun h => hq (H4.out.1 h))]
            have HT2 : Hid (TX = ⟨#[]⟩) := by show _ = _; rw [HTX.out, HW.out]; rfl
            clear hq HTX HAD H4 HY
            go_enter Tryz.func39, Tryz.ntmps39
            go_wp2_with fail
            refine (hby _).mono ?_
            rintro e w1 ⟨kv, rfl, b1⟩
            go_wp2_with fail
            refine (hab _).mono ?_
            rintro e w2 ⟨rfl, rfl⟩
            go_wp2_with fail
            refine (h4 _).mono ?_
            rintro e w3 ⟨rfl, nn, rfl⟩
            go_wp2
            refine bodyPost_ret (v := .tuple #[.string ⟨#[]⟩, .int .i64 9]) (by simp [results, Tryz.results39, go_sem]) rfl ⟨by rw [HW.out, HT2.out], below_drewN b1 _⟩
        · rw [if_pos hlen] at HY
          have HT2 : Hid (TX = ⟨#[]⟩) := by show _ = _; rw [HTX.out, HY.out]; rfl
          have hszb : ((s.size : Int) != ((u : Int) + 6)) = true := by rw [bne_iff_ne]; omega
          clear HTX HAD
          go_enter Tryz.func39, Tryz.ntmps39
          go_wp2_with fail
          refine (hby _).mono ?_
          rintro e w1 ⟨kv, rfl, b1⟩
          go_wp2
          refine bodyPost_ret (v := .tuple #[.string ⟨#[]⟩, .int .i64 8]) (by simp [results, Tryz.results39, go_sem]) rfl ⟨by rw [HY.out, HT2.out], b1⟩
    · have HW : Hid (WC = 8) := HNO.out hok
      have HT2 : Hid (TX = ⟨#[]⟩) := by show _ = _; rw [HTX.out, HW.out]; rfl
      clear HYES HNO HFN HTX
      unfold HeadOk at hok
      clear hby
      by_cases k4 : (256 * x + y) % 31 = 0
      · have i4 : ((256 * (x : Int) + (y : Int)) % 31 != 0) = false := by rw [bne_eq_false_iff_eq]; omega
        go_enter Tryz.func39, Tryz.ntmps39
        go_wp2_with fail
        all_goals first
          | (exfalso; omega)
          | refine bodyPost_ret (v := .tuple #[.string ⟨#[]⟩, .int .i64 8]) (by simp [results, Tryz.results39, go_sem]) rfl ⟨by rw [HW.out, HT2.out], Below.refl _ _⟩
      · have i4 : ((256 * (x : Int) + (y : Int)) % 31 != 0) = true := by rw [bne_iff_ne]; omega
        go_enter Tryz.func39, Tryz.ntmps39
        go_wp2_with fail
        all_goals first
          | (exfalso; omega)
          | refine bodyPost_ret (v := .tuple #[.string ⟨#[]⟩, .int .i64 8]) (by simp [results, Tryz.results39, go_sem]) rfl ⟨by rw [HW.out, HT2.out], Below.refl _ _⟩
end Go.Proofs.YtmfijackgekioaaGreatDoor
