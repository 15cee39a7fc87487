import Derived.Test.YtmfijackgekioaaRc
namespace Go.Proofs.Ytmfijackgekioaa
open Go.RowKit

/-- A list of integers that lies apart from a block. -/
structure Apart (w : World) (B : Nat) (ao : Option Addr) (ls : List Int) : Prop where
  ints : Ints w ao ls
  ne : ∀ a, ao = some a → ls ≠ [] → a.block ≠ B ∧ a.block < w.heap.size
theorem Apart.later {w w' : World} {B : Nat} {ao : Option Addr} {ls : List Int} (h : Apart w B ao ls) (hk : Kp (· = B) w w') : Apart w' B ao ls :=
  ⟨fun j hj => by
    obtain ⟨b, off, rfl, hc⟩ := h.ints j hj
    have hn := h.ne _ rfl (ne_of_lt hj)
    exact ⟨b, off, rfl, (hk.cell (p := ⟨b, off + j, none⟩) hn.2 hn.1).trans hc⟩,
   fun a e e2 => ⟨(h.ne a e e2).1, Nat.lt_of_lt_of_le (h.ne a e e2).2 hk.size⟩⟩

theorem pow_int (m : Nat) : ((2 : Int) ^ (m + 1)) = 2 * 2 ^ m := by rw [Int.pow_succ]; omega

set_option maxRecDepth 100000 in
set_option maxHeartbeats 2000000 in
theorem symbol45 (a1 a2 : Option Addr) (c1 c2 n B : Nat) (ls cd L : List Int) (ao : Option Addr) (cap : Nat) (limit : Int) (st : Rf.St) (ov kv : Value) (w : World) (hr : Rep w B L ao cap limit st ov kv)
    (hl1 : ls.length = n) (hl2 : cd.length = n) (hn : n ≤ 320) (hA1 : Apart w B a1 ls) (hA2 : Apart w B a2 cd) :
    Calls Try.prog 44 #[.pointer (some ⟨B, 0, none⟩), .slice a1 n c1, .slice a2 n c2] w
      fun e w' => e = .returned (.int .i64 (Rf.symbol L ls cd st).1) ∧ Rep w' B L ao cap limit (Rf.symbol L ls cd st).2 ov kv ∧ Kp (· = B) w w' := by
  have hbits := hr.hb
  go_enter Try.func44, Try.ntmps44
  go_wp2
  go_loopw [7, 8] (fun x i wr => ∃ (f m : Nat) (v : Int) (st' : Rf.St), f + m = 15 ∧ i = .int .i64 ((m : Int) + 1) ∧ x = .int .i64 v ∧ (0 ≤ v ∧ v < 2 ^ m) ∧ Rep wr B L ao cap limit st' ov kv ∧ Kp (· = B) w wr ∧ Hid (Rf.symF L ls cd f m v st' = Rf.symbol L ls cd st)) (fun _ i _ => 16 - (intOf i).toNat)
  case atStart => exact ⟨15, 0, 0, st, rfl, rfl, rfl, by simp, hr, Kp.refl _ _, rfl⟩
  case round =>
    obtain ⟨f, m, v, st', hfm, rfl, rfl, hv, hr', hkp, HF⟩ := hrel
    have hpm := pow_small m (by omega)
    cases f with
    | zero =>
      have hm : m = 15 := by omega
      subst hm
      obtain ⟨d0, d1, d2, d3, d4, d5, d6, fz⟩ := hr'.cells
      have HR : Hid (Rep (wr.setCell ⟨B, 3, none⟩ (.bool true)) B L ao cap limit { st' with bad := true } ov kv) := hr'.set 3 (.bool true) _ rfl rfl rfl hr'.hpos
      go_wp2
      go_ret
      rw [← HF.out]
      exact ⟨rfl, HR.out, hkp.set1 _ _⟩
    | succ f =>
      have hm : m < 15 := by omega
      go_wp2_with fail
      refine (take23 1 B L ao cap limit st' ov kv _ hr' (by omega)).mono ?_
      rintro e w1 ⟨rfl, hr1, hk1⟩
      have h01 := Rf.take_one hbits st'
      have HS : Hid (Rf.symF L ls cd (f + 1) m v st' = if (Rf.take L st' 1).2.bad then (0, (Rf.take L st' 1).2) else match Rf.find ls cd ((m : Int) + 1) (2 * v + (Rf.take L st' 1).1) with | some i => ((i : Int), (Rf.take L st' 1).2) | none => Rf.symF L ls cd f (m + 1) (2 * v + (Rf.take L st' 1).1) (Rf.take L st' 1).2) := rfl
      have hkp1 := hkp.trans hk1
      clear hkp hk1 hr'
      generalize (Rf.take L st' 1).1 = k at *
      generalize (Rf.take L st' 1).2 = st1 at *
      obtain ⟨d0, d1, d2, d3, d4, d5, d6, fz⟩ := hr1.cells
      cases hbad : st1.bad
      · rw [hbad] at d3 HS
        have B1 := hA1.later hkp1
        have B2 := hA2.later hkp1
        have hv1 : 0 ≤ 2 * v + k ∧ 2 * v + k < 2 ^ (m + 1) := by rw [pow_int]; omega
        have hv2 : 2 * v + k ≤ 65536 := by rw [pow_int] at hv1; omega
        have hv3 : 2 * v ≤ 65536 := by omega
        go_wp2
        go_loop [10] (fun i => ∃ j : Nat, j ≤ n ∧ i = .int .i64 j ∧ Hid (Rf.findFrom ls cd ((m : Int) + 1) (2 * v + k) (n - j) j = Rf.find ls cd ((m : Int) + 1) (2 * v + k))) (fun i => n - (intOf i).toNat)
        case atStart => exact ⟨0, Nat.zero_le _, rfl, by show _ = _; rw [Rf.find, hl1]; rfl⟩
        case round =>
          obtain ⟨j, hj, rfl, HJ⟩ := hrel
          by_cases hlt : j < n
          · obtain ⟨b1, o1, rfl, e1⟩ := B1.ints j (by omega)
            obtain ⟨b2, o2, rfl, e2⟩ := B2.ints j (by omega)
            obtain ⟨x, hx⟩ : ∃ x : Int, x = ls[j] := ⟨_, rfl⟩
            obtain ⟨y, hy⟩ : ∃ y : Int, y = cd[j] := ⟨_, rfl⟩
            have hx2 : ls.getD j 0 = x := by rw [hx]; simp [List.getD, List.getElem?_eq_getElem (show j < ls.length by omega)]
            have hy2 : cd.getD j 0 = y := by rw [hy]; simp [List.getD, List.getElem?_eq_getElem (show j < cd.length by omega)]
            rw [← hx] at e1
            rw [← hy] at e2
            have HX : Hid (ls.getD j 0 = x ∧ cd.getD j 0 = y) := ⟨hx2, hy2⟩
            clear hx hy hx2 hy2
            by_cases h1 : x = (m : Int) + 1
            · have h1' : (x == (m : Int) + 1) = true := beq_iff_eq.2 h1
              have H1 : Hid (x = (m : Int) + 1) := h1
              clear h1
              by_cases h2 : y = 2 * v + k
              · have h2' : (y == 2 * v + k) = true := beq_iff_eq.2 h2
                have H2 : Hid (y = 2 * v + k) := h2
                clear h2
                go_wp2
                go_ret
                have hf : Rf.find ls cd ((m : Int) + 1) (2 * v + k) = some j := by
                  rw [← HJ.out, show n - j = (n - j - 1) + 1 by omega]
                  exact Rf.find_at _ _ _ _ _ _ ⟨HX.out.1.trans H1.out, HX.out.2.trans H2.out⟩
                rw [← HF.out, HS.out, hf]
                exact ⟨rfl, hr1, hkp1⟩
              · have h2' : (y == 2 * v + k) = false := beq_eq_false_iff_ne.2 h2
                go_wp2
                go_round
                case rel => exact ⟨j + 1, by omega, by go_num, by show _ = _; rw [← HJ.out, show n - j = (n - (j + 1)) + 1 by omega, Rf.find_on _ _ _ _ _ _ (fun h => h2 (HX.out.2.symm.trans h.2))]⟩
                case measure => simp [intOf]; omega
            · have h1' : (x == (m : Int) + 1) = false := beq_eq_false_iff_ne.2 h1
              go_wp2
              go_round
              case rel => exact ⟨j + 1, by omega, by go_num, by show _ = _; rw [← HJ.out, show n - j = (n - (j + 1)) + 1 by omega, Rf.find_on _ _ _ _ _ _ (fun h => h1 (HX.out.1.symm.trans h.1))]⟩
              case measure => simp [intOf]; omega
          · have hf : Rf.find ls cd ((m : Int) + 1) (2 * v + k) = none := by
              rw [← HJ.out, show n - j = 0 by omega]; rfl
            have HF2 : Hid (Rf.symF L ls cd f (m + 1) (2 * v + k) st1 = Rf.symbol L ls cd st) := by
              show _ = _
              rw [← HF.out, HS.out, hf]
              rfl
            clear hf HF HS HJ
            go_wp2
            go_roundw
            case rel => exact ⟨f, m + 1, 2 * v + k, st1, by omega, by go_num, rfl, hv1, hr1, hkp1, HF2⟩
            case measure => simp [intOf]; omega
      · rw [hbad] at d3 HS
        go_wp2
        go_ret
        rw [← HF.out, HS.out]
        exact ⟨rfl, hr1, hkp1⟩

end Go.Proofs.Ytmfijackgekioaa
