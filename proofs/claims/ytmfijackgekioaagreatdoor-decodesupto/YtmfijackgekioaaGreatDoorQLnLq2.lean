import Derived.Test.YtmfijackgekioaaGreatDoorQLk
import Derived.Test.YtmfijackgekioaaGreatDoorQOaOc3

/-
  The bytes of all chunks of a name: the document. For Decodes.
-/
namespace Go.Proofs.YtmfijackgekioaaGreatDoor
open Go.RowKit Go.Maps

theorem own_chV {w : World} {B : Nat} {v : Value} {L : List Ch} (h : ChO w B v L) : ChV w v L := by
  constructor
  rcases h.2 with ⟨hv, h0⟩ | ⟨g, cap, cur, hv, hg, hblk, hnc, hcm, hcs, htake⟩
  · exact .inl ⟨List.eq_nil_of_length_eq_zero h0, hv⟩
  · refine .inr ⟨g, cap, hv, lt_of_block hblk, hnc, fun j hj => ?_⟩
    obtain ⟨a, b⟩ := ch_at L j hj
    have hl := chCells_length L
    rw [← htake, List.getElem?_take, if_pos (by omega), Array.getElem?_toList] at a b
    exact ⟨(cell_at hblk _).trans a, (cell_at hblk _).trans b⟩
abbrev chAt (L : List Ch) (j : Nat) : Ch := L.getD j ⟨⟨#[]⟩, ⟨#[]⟩⟩
theorem take_ch (L : List Ch) (k : Nat) (h : k < L.length) : L.take (k + 1) = L.take k ++ [chAt L k] := by
  rw [List.take_succ_eq_append_getElem h]
  congr 2
  unfold chAt
  rw [List.getD_eq_getElem?_getD, List.getElem?_eq_getElem h]
  rfl
theorem sumC_take (L : List Ch) (k : Nat) : sumC (L.take k) ≤ sumC L := by
  unfold sumC
  induction L generalizing k with
  | nil => simp
  | cons x r ih =>
    cases k with
    | zero => simp
    | succ k => simp only [List.take_succ_cons, List.map_cons, List.sum_cons]; have := ih k; omega
theorem joinN_le (nm : List UInt8) : ∀ L : List Ch, joinN nm L ≤ L.length
  | [] => Nat.le_refl _
  | c :: r => by
    have := joinN_le nm r
    rw [joinN_cons, List.length_cons]
    split <;> omega
set_option maxRecDepth 100000 in
set_option maxHeartbeats 600000 in
theorem joinedR (nmB : ByteArray) (nm : List UInt8) (hnm : nmB.toList = nm) (L : List Ch) (v : Value) (w : World) (hv : ChV w v L) (hL : L.length ≤ 1000000) (hs : sumC L ≤ 5000000) :
    Calls Tryz.prog 38 #[v, .string nmB] w fun e w' => e = .returned (.tuple #[.string (joinS nm L), .int .i64 (joinN nm L : Nat)]) ∧ w' = w := by
  have hshape := hv.shape
  have HS : Hid (_) := hshape
  obtain ⟨ao, cap, rfl⟩ : ∃ ao cap, v = .slice ao L.length cap := by
    rcases hshape with ⟨h1, h2⟩ | ⟨g, cap, h2, _⟩
    · exact ⟨_, _, by rw [h2, h1]; rfl⟩
    · exact ⟨_, _, h2⟩
  clear hshape hv
  go_enter Tryz.func38, Tryz.ntmps38
  go_wp2
  go_loop [6, 7, 8] (fun sv nv ix => ∃ k : Nat, k ≤ L.length ∧ ix = .int .i64 k ∧ sv = .string (joinS nm (L.take k)) ∧ nv = .int .i64 (joinN nm (L.take k) : Nat)) (fun _ _ ix => L.length - (intOf ix).toNat)
  case atStart => exact ⟨0, Nat.zero_le _, rfl, rfl, rfl⟩
  case round =>
    obtain ⟨k, hk, rfl, rfl, rfl⟩ := hrel
    by_cases hlt : k < L.length
    · have hlt' : (k : Int) < (L.length : Int) := by omega
      obtain ⟨g, gcap, ge, c1, c2⟩ : ∃ g gcap, Value.slice ao L.length cap = .slice (some ⟨g, 0, none⟩) L.length gcap ∧ w.cell? ⟨g, k * 2, none⟩ = some (.string (chAt L k).name) ∧ w.cell? ⟨g, k * 2 + 1, none⟩ = some (.string (chAt L k).data) := by
        rcases HS.out with ⟨h1, _⟩ | ⟨g, gcap, h2, _, _, h3⟩
        · rw [h1] at hlt; exact absurd hlt (Nat.not_lt_zero _)
        · exact ⟨g, gcap, h2, (h3 k hlt).1, (h3 k hlt).2⟩
      injection ge with e1 _ e3
      subst e1
      have HJ := joinS_snoc nm (L.take k) (chAt L k)
      have HJN := joinN_snoc nm (L.take k) (chAt L k)
      rw [← take_ch L k hlt] at HJ HJN
      have z1 := Nat.le_trans (joinS_size nm (L.take k)) (sumC_take L k)
      have z2 := Nat.le_trans (joinS_size nm (L.take (k + 1))) (sumC_take L (k + 1))
      have z3 := Nat.le_trans (joinN_le nm (L.take k)) (by rw [List.length_take]; exact Nat.min_le_right _ _)
      obtain ⟨b, hb⟩ : ∃ b, b = isN (chAt L k).name nm := ⟨_, rfl⟩
      rw [← hb] at HJ HJN
      have hbb : ((chAt L k).name.toList == nm) = b := by rw [hb]; rfl
      obtain ⟨J', hJ'⟩ : ∃ J', J' = joinS nm (L.take (k + 1)) := ⟨_, rfl⟩
      obtain ⟨N', hN'⟩ : ∃ N', N' = joinN nm (L.take (k + 1)) := ⟨_, rfl⟩
      rw [← hJ'] at HJ z2
      rw [← hN'] at HJN
      have HJJ : Hid (J' = joinS nm (L.take (k + 1)) ∧ N' = joinN nm (L.take (k + 1))) := ⟨hJ', hN'⟩
      clear hJ' hN'
      generalize joinS nm (L.take k) = J at *
      generalize joinN nm (L.take k) = N at *
      generalize (chAt L k).name = nme at *
      generalize (chAt L k).data = dat at *
      cases b
      · have HF : Hid (J' = J ∧ N' = N) := ⟨by rw [HJ]; rfl, by rw [HJN]; rfl⟩
        clear HJ HJN hb z2
        go_wp2
        go_round
        case rel => exact ⟨k + 1, by omega, by go_num, by rw [← HJJ.out.1, HF.out.1], by rw [← HJJ.out.2, HF.out.2]⟩
        case measure => simp [intOf]; omega
      · have HF : Hid (J' = J ++ dat ∧ N' = N + 1) := ⟨by rw [HJ]; rfl, by rw [HJN]; rfl⟩
        have hjd : J.size + dat.size ≤ 5000000 := by
          rw [HF.out.1, ByteArray.size_append] at z2
          omega
        clear HJ HJN hb z2
        go_wp2
        go_round
        case rel => exact ⟨k + 1, by omega, by go_num, by rw [← HJJ.out.1, HF.out.1], by rw [← HJJ.out.2, HF.out.2]; go_num⟩
        case measure => simp [intOf]; omega
    · have hke : k = L.length := by omega
      have HT : Hid (L.take k = L) := List.take_of_length_le (by omega)
      have hnlt : ¬ (k : Int) < (L.length : Int) := by omega
      clear hke
      go_wp2
      exact bodyPost_ret (v := .tuple #[.string (joinS nm (L.take k)), .int .i64 (joinN nm (L.take k) : Nat)]) (by simp [results, Tryz.results38, go_sem]) rfl ⟨by rw [HT.out], rfl⟩
end Go.Proofs.YtmfijackgekioaaGreatDoor

/-
  The order of chunks: the document. For Decodes.
-/
namespace Go.Proofs.YtmfijackgekioaaGreatDoor
open Go.RowKit Go.Maps

set_option maxRecDepth 100000 in
set_option maxHeartbeats 600000 in
theorem capitalR (s : ByteArray) (w : World) (h : 0 < s.size) : Calls Tryz.prog 72 #[.string s] w fun e w' => e = .returned (.bool (decide (byteAt s 0 ≤ 90))) ∧ w' = w := by
  have hb := byteAt_eq s 0 h
  have h0 : (0 : Int) < (s.size : Int) := by omega
  have x : decide ((byteAt s 0 : Int) ≤ 90) = decide (byteAt s 0 ≤ 90) := by rw [Bool.eq_iff_iff, decide_eq_true_eq, decide_eq_true_eq]; omega
  go_enter Tryz.func72, Tryz.ntmps72
  go_wp2
  go_ret
  exact ⟨ret_bool (by first | rfl | exact x), rfl⟩
theorem ends_no {L : List Ch} (h : endsOk L = false) : roOf L = false := by unfold roOf; rw [h, Bool.false_and]
set_option maxRecDepth 100000 in
set_option maxHeartbeats 600000 in
theorem orderedR (L : List Ch) (v : Value) (w : World) (hv : ChV w v L) (hL : L.length ≤ 1000000) (hnm : ∀ c ∈ L, c.name.size = 4) :
    Calls Tryz.prog 35 #[v] w fun e w' => e = .returned (.bool (roOf L)) ∧ w' = w := by
  have HS : Hid (_) := hv.shape
  obtain ⟨ao, cap, rfl⟩ : ∃ ao cap, v = .slice ao L.length cap := by
    rcases hv.shape with ⟨h1, h2⟩ | ⟨g, cap, h2, _⟩
    · exact ⟨_, _, by rw [h2, h1]; rfl⟩
    · exact ⟨_, _, h2⟩
  clear hv
  by_cases h0 : L.length = 0
  · have HR : Hid (roOf L = false) := ends_no (by unfold endsOk; rw [decide_eq_false (by omega), Bool.false_and])
    have h0i : ((L.length : Int) == 0) = true := by rw [beq_iff_eq]; omega
    clear h0
    go_enter Tryz.func35, Tryz.ntmps35
    go_wp2
    go_ret
    exact ⟨ret_bool HR.out.symm, rfl⟩
  · obtain ⟨g, gcap, ge, hcell⟩ : ∃ g gcap, Value.slice ao L.length cap = .slice (some ⟨g, 0, none⟩) L.length gcap ∧ ∀ k, k < L.length → w.cell? ⟨g, k * 2, none⟩ = some (.string (chAt L k).name) ∧ w.cell? ⟨g, k * 2 + 1, none⟩ = some (.string (chAt L k).data) := by
      rcases HS.out with ⟨h1, _⟩ | ⟨g, gcap, h2, _, _, h3⟩
      · rw [h1] at h0; exact absurd rfl h0
      · exact ⟨g, gcap, h2, h3⟩
    injection ge with e1 _ e3
    subst e1
    clear e3
    obtain ⟨m, hm⟩ : ∃ m, L.length = m + 1 := ⟨L.length - 1, by omega⟩
    have f0 := (hcell 0 (by omega)).1
    obtain ⟨l0, l1⟩ := hcell m (by omega)
    rw [Nat.zero_mul] at f0
    have hfC : chAt L 0 = firstC L := rfl
    have hlC : chAt L m = lastC L := by unfold lastC; rw [hm, Nat.add_sub_cancel]
    rw [hfC] at f0
    rw [hlC] at l0 l1
    have h0i : ((L.length : Int) == 0) = false := by rw [beq_eq_false_iff_ne]; omega
    have hlm : (L.length : Int) - 1 = (m : Int) := by omega
    have hmL : (m : Int) < (L.length : Int) := by omega
    have h0L : (0 : Int) < (L.length : Int) := by omega
    have HEO : Hid (endsOk L = (decide (2 ≤ L.length) && (isN (firstC L).name nIHDR && (isN (lastC L).name nIEND && (lastC L).data.toList.isEmpty)))) := rfl
    have hfl1 : m = 0 → firstC L = lastC L := fun h => by rw [← hfC, ← hlC, h]
    have HFL : Hid (isN (firstC L).name nIHDR = true → isN (lastC L).name nIEND = true → 2 ≤ L.length) := fun h1 h2 => by
      rcases Nat.eq_zero_or_pos m with h | h
      · rw [hfl1 h] at h1
        rw [isN_other h1 (by decide)] at h2
        cases h2
      · omega
    obtain ⟨b1, hb1⟩ : ∃ b1, b1 = isN (firstC L).name nIHDR := ⟨_, rfl⟩
    obtain ⟨b2, hb2⟩ : ∃ b2, b2 = isN (lastC L).name nIEND := ⟨_, rfl⟩
    obtain ⟨b3, hb3⟩ : ∃ b3, b3 = (lastC L).data.toList.isEmpty := ⟨_, rfl⟩
    have c1 : ((firstC L).name.toList == [73, 72, 68, 82]) = b1 := hb1.symm
    have c2 : ((lastC L).name.toList == [73, 69, 78, 68]) = b2 := hb2.symm
    have c3 : (lastC L).data.toList.isEmpty = b3 := hb3.symm
    rw [← hb1, ← hb2, ← hb3] at HEO
    rw [← hb1, ← hb2] at HFL
    generalize (firstC L).name = fn at *
    generalize (lastC L).name = ln at *
    generalize (lastC L).data = ld at *
    have HCell : Hid (_) := hcell
    obtain ⟨N, hN⟩ : ∃ N, L.length = N := ⟨_, rfl⟩
    rw [hN] at h0i hlm hmL h0L hL HEO HFL ⊢
    have HLN : Hid (L.length = N ∧ N = m + 1) := ⟨hN, by omega⟩
    clear hb1 hb2 hb3 hfC hlC hfl1 h0 hcell hm HS hN
    rcases b1 with _ | _
    · have HR : Hid (roOf L = false) := ends_no (by rw [HEO.out]; simp)
      go_enter Tryz.func35, Tryz.ntmps35
      go_wp2
      go_ret
      exact ⟨ret_bool HR.out.symm, rfl⟩
    · rcases b2 with _ | _
      · have HR : Hid (roOf L = false) := ends_no (by rw [HEO.out]; simp)
        go_enter Tryz.func35, Tryz.ntmps35
        go_wp2
        go_ret
        exact ⟨ret_bool HR.out.symm, rfl⟩
      · rcases b3 with _ | _
        · have HR : Hid (roOf L = false) := ends_no (by rw [HEO.out]; simp)
          go_enter Tryz.func35, Tryz.ntmps35
          go_wp2
          go_ret
          exact ⟨ret_bool HR.out.symm, rfl⟩
        · have h2L := HFL.out rfl rfl
          obtain ⟨n, hn⟩ : ∃ n, N = n + 2 := ⟨N - 2, by omega⟩
          have HR : Hid (roOf L = roF 1 0 (-1) (-1) 0 (midC L)) := by
            show _ = _
            unfold roOf
            rw [HEO.out, decide_eq_true h2L]
            rfl
          have HN : Hid (L.length = n + 2) := by show _ = _; rw [HLN.out.1, hn]
          have hnL : (n : Int) + 2 = (N : Int) := by omega
          clear HEO HFL hn
          go_enter Tryz.func35, Tryz.ntmps35
          go_wp2
          go_loop [3, 4, 5, 6, 7] (fun pv fv lv dv ix => ∃ (k p d : Nat) (f l : Int), k ≤ n ∧ ix = .int .i64 ((k + 1 : Nat) : Int) ∧ pv = .int .i64 (p : Nat) ∧ fv = .int .i64 f ∧ lv = .int .i64 l ∧ dv = .int .i64 (d : Nat) ∧ Hid (roOf L = roF (1 + k) p f l d ((midC L).drop k) ∧ p ≤ k ∧ d ≤ k ∧ -1 ≤ f ∧ f ≤ 1000001 ∧ -1 ≤ l ∧ l ≤ 1000001)) (fun _ _ _ _ ix => n + 1 - (intOf ix).toNat)
          case atStart => exact ⟨0, 0, 0, -1, -1, Nat.zero_le _, rfl, rfl, rfl, rfl, rfl, ⟨HR.out, by omega, by omega, by omega, by omega, by omega, by omega⟩⟩
          case round =>
            obtain ⟨k, p, d, f, l, hk, rfl, rfl, rfl, rfl, rfl, HI⟩ := hrel
            obtain ⟨hro, hp, hd, hf1, hf2, hl1, hl2⟩ := HI.out
            obtain ⟨i, hi⟩ : ∃ i, i = k + 1 := ⟨_, rfl⟩
            rw [← hi]
            by_cases hlt : k < n
            · have hlt1 : (i : Int) + 1 < (N : Int) := by omega
              have hiN : (i : Int) < (N : Int) := by omega
              obtain ⟨c1', c2'⟩ := HCell.out i (by have := HLN.out.1; omega)
              have hmd := mid_drop HN.out hlt
              rw [← hi] at hmd
              have hsz : (chAt L i).name.size = 4 := hnm _ (by
                have : i < L.length := by have := HLN.out.1; omega
                unfold chAt
                rw [List.getD_eq_getElem?_getD, List.getElem?_eq_getElem this]
                exact List.getElem_mem this)
              have hcap := fun u => capitalR (chAt L i).name u (by omega)
              rw [hmd, roF] at hro
              have hcI : 1 + k = i := by omega
              rw [hcI] at hro
              have e1 : 1 + (k + 1) = i + 1 := by omega
              change roOf L = (if isN (chAt L i).name nPLTE = true then _ else if isN (chAt L i).name nIDAT = true then _ else if byteAt (chAt L i).name 0 ≤ 90 then _ else _) at hro
              obtain ⟨bP, hbP⟩ : ∃ b, b = isN (chAt L i).name nPLTE := ⟨_, rfl⟩
              obtain ⟨bI, hbI⟩ : ∃ b, b = isN (chAt L i).name nIDAT := ⟨_, rfl⟩
              have cP : ((chAt L i).name.toList == [80, 76, 84, 69]) = bP := hbP.symm
              have cI : ((chAt L i).name.toList == [73, 68, 65, 84]) = bI := hbI.symm
              obtain ⟨bc, hbc⟩ : ∃ b, b = decide (byteAt (chAt L i).name 0 ≤ 90) := ⟨_, rfl⟩
              rw [← hbc] at hcap
              rw [← hbP, ← hbI] at hro
              have HBC : Hid (bc = decide (byteAt (chAt L i).name 0 ≤ 90)) := hbc
              have HRO : Hid (_) := hro
              have HII : Hid (i = k + 1) := hi
              generalize hnme : (chAt L i).name = nme at *
              clear hbP hbI hbc hro hmd hsz hi hnme HI hcI
              rcases bP with _ | _
              · rcases bI with _ | _
                · rcases bc with _ | _
                  · have hro2 : roOf L = roF (i + 1) p f l d ((midC L).drop (i)) := by
                      have := HRO.out
                      rw [if_neg (by decide), if_neg (by decide), if_neg (by have := HBC.out; intro h; rw [decide_eq_true h] at this; cases this)] at this
                      rw [this, HII.out]
                    have HF : Hid (roOf L = roF (1 + (k + 1)) p f l d ((midC L).drop (k + 1)) ∧ p ≤ k + 1 ∧ d ≤ k + 1 ∧ -1 ≤ f ∧ f ≤ 1000001 ∧ -1 ≤ l ∧ l ≤ 1000001) := ⟨by rw [hro2, e1, HII.out], by omega, by omega, hf1, hf2, hl1, hl2⟩
                    clear hro2 HRO
                    go_wp2_with fail
                    refine (hcap _).mono ?_
                    rintro e w' ⟨rfl, hw'⟩
                    subst w'
                    go_wp2
                    go_round
                    case rel => exact ⟨k + 1, p, d, f, l, by omega, by rw [show k + 1 + 1 = i + 1 by have := HII.out; omega]; go_num, rfl, rfl, rfl, rfl, HF⟩
                    case measure => simp [intOf]; have := HII.out; omega
                  · have HF : Hid (roOf L = false) := by
                      have := HRO.out
                      rw [if_neg (by decide), if_neg (by decide), if_pos (of_decide_eq_true HBC.out.symm)] at this
                      exact this
                    clear HRO
                    go_wp2_with fail
                    refine (hcap _).mono ?_
                    rintro e w' ⟨rfl, hw'⟩
                    subst w'
                    go_wp2
                    go_ret
                    exact ⟨ret_bool HF.out.symm, rfl⟩
                · have hro2 : roOf L = roF (i + 1) p (if f < 0 then (i : Int) else f) (i : Int) (d + 1) ((midC L).drop i) := by
                    have := HRO.out
                    rw [if_neg (by decide), if_pos rfl] at this
                    rw [this, HII.out]
                  clear HRO hcap
                  by_cases hf0 : f < 0
                  · rw [if_pos hf0] at hro2
                    have HF : Hid (roOf L = roF (1 + (k + 1)) p (i : Int) (i : Int) (d + 1) ((midC L).drop (k + 1)) ∧ p ≤ k + 1 ∧ d + 1 ≤ k + 1 ∧ -1 ≤ (i : Int) ∧ (i : Int) ≤ 1000001 ∧ -1 ≤ (i : Int) ∧ (i : Int) ≤ 1000001) := ⟨by rw [hro2, e1, HII.out], by omega, by omega, by omega, by omega, by omega, by omega⟩
                    clear hro2
                    go_wp2
                    go_round
                    case rel => exact ⟨k + 1, p, d + 1, i, i, by omega, by rw [show k + 1 + 1 = i + 1 by have := HII.out; omega]; go_num, rfl, rfl, rfl, by go_num, HF⟩
                    case measure => simp [intOf]; have := HII.out; omega
                  · rw [if_neg hf0] at hro2
                    have HF : Hid (roOf L = roF (1 + (k + 1)) p f (i : Int) (d + 1) ((midC L).drop (k + 1)) ∧ p ≤ k + 1 ∧ d + 1 ≤ k + 1 ∧ -1 ≤ f ∧ f ≤ 1000001 ∧ -1 ≤ (i : Int) ∧ (i : Int) ≤ 1000001) := ⟨by rw [hro2, e1, HII.out], by omega, by omega, by omega, by omega, by omega, by omega⟩
                    clear hro2
                    go_wp2
                    go_round
                    case rel => exact ⟨k + 1, p, d + 1, f, i, by omega, by rw [show k + 1 + 1 = i + 1 by have := HII.out; omega]; go_num, rfl, rfl, rfl, by go_num, HF⟩
                    case measure => simp [intOf]; have := HII.out; omega
              · by_cases hf0 : 0 ≤ f
                · have HF : Hid (roOf L = false) := by
                    have := HRO.out
                    rw [if_pos rfl, if_pos hf0] at this
                    exact this
                  clear HRO hcap
                  have hge : f ≥ 0 := hf0
                  go_wp2
                  go_ret
                  exact ⟨ret_bool HF.out.symm, rfl⟩
                · have hro2 : roOf L = roF (i + 1) (p + 1) f l d ((midC L).drop i) := by
                    have := HRO.out
                    rw [if_pos rfl, if_neg hf0] at this
                    rw [this, HII.out]
                  have HF : Hid (roOf L = roF (1 + (k + 1)) (p + 1) f l d ((midC L).drop (k + 1)) ∧ p + 1 ≤ k + 1 ∧ d ≤ k + 1 ∧ -1 ≤ f ∧ f ≤ 1000001 ∧ -1 ≤ l ∧ l ≤ 1000001) := ⟨by rw [hro2, e1, HII.out], by omega, by omega, by omega, by omega, by omega, by omega⟩
                  clear HRO hcap hro2
                  have hge : ¬ f ≥ 0 := hf0
                  go_wp2
                  go_round
                  case rel => exact ⟨k + 1, p + 1, d, f, l, by omega, by rw [show k + 1 + 1 = i + 1 by have := HII.out; omega]; go_num, by go_num, rfl, rfl, rfl, HF⟩
                  case measure => simp [intOf]; have := HII.out; omega
            · have hke : k = n := by omega
              rw [hke, mid_end HN.out, roF] at hro
              have hnlt : ¬ (i : Int) + 1 < (N : Int) := by omega
              have hib : i ≤ 1000001 := by omega
              have HRO : Hid (_) := hro
              clear HI hro hi hke
              have hr3 : ∀ b, (decide (p ≤ 1) && (decide (0 < d) && decide (l - f + 1 = (d : Int)))) = b → roOf L = b := fun b h => by rw [HRO.out]; exact h
              have HR3 : Hid (_) := hr3
              clear hr3 HRO
              by_cases p1 : p ≤ 1
              · have p1i : (p : Int) ≤ 1 := by omega
                by_cases d1 : 0 < d
                · have d1i : (d : Int) > 0 := by omega
                  by_cases l1' : l - f + 1 = (d : Int)
                  · have HF : Hid (roOf L = true) := HR3.out true (by rw [decide_eq_true p1, decide_eq_true d1, decide_eq_true l1']; rfl)
                    have l2 : (l - f + 1 == (d : Int)) = true := beq_iff_eq.2 l1'
                    clear HR3 l1'
                    go_wp2
                    go_ret
                    exact ⟨ret_bool HF.out.symm, rfl⟩
                  · have HF : Hid (roOf L = false) := HR3.out false (by rw [decide_eq_false l1']; simp)
                    have l2 : (l - f + 1 == (d : Int)) = false := beq_eq_false_iff_ne.2 l1'
                    clear HR3 l1'
                    go_wp2
                    go_ret
                    exact ⟨ret_bool HF.out.symm, rfl⟩
                · have HF : Hid (roOf L = false) := HR3.out false (by rw [decide_eq_false d1]; simp)
                  have d1i : ¬ (d : Int) > 0 := by omega
                  clear HR3
                  go_wp2
                  go_ret
                  exact ⟨ret_bool HF.out.symm, rfl⟩
              · have HF : Hid (roOf L = false) := HR3.out false (by rw [decide_eq_false p1]; simp)
                have p1i : ¬ (p : Int) ≤ 1 := by omega
                clear HR3
                go_wp2
                go_ret
                exact ⟨ret_bool HF.out.symm, rfl⟩
end Go.Proofs.YtmfijackgekioaaGreatDoor
