import Derived.Test.YtmfijackgekioaaGreatDoorQUaUe5
import Derived.Deep.DeepCutAuto
import Derived.Deep.CutBlock

/-
  Each hands on the codes; a new table.
-/
namespace Go.Proofs.YtmfijackgekioaaGreatDoor
open Go.RowKit Go.Maps

theorem Fill.kept {w w' : World} {T M : Nat} {ls : List Int} {n i q : Nat} {S : Nat → Prop} (h : Fill w T M ls n i q) (k : Kp S w w') (hT : ¬ S T) (hM : ¬ S M) : Fill w' T M ls n i q := by
  obtain ⟨D, sh, lo, h1, h2, h3⟩ := h
  refine ⟨D, sh, lo, (k.block T (lt_of_block h1) hT).trans h1, ?_, h3⟩
  obtain ⟨es, clock, hb, r⟩ := h2
  exact ⟨es, clock, (k.block M (lt_of_block hb) hM).trans hb, r⟩
theorem Fill.next {w : World} {T M : Nat} {ls : List Int} {n i q : Nat} (h : Fill w T M ls n i q) (hi : ls.getD i 0 ≠ ((n + 1 : Nat) : Int)) : Fill w T M ls n (i + 1) (q + 1) := by
  obtain ⟨D, sh, lo, h1, h2, h3⟩ := h
  exact ⟨D, sh, lo, h1, h2.mono (Nat.le_succ _), h3.next hi⟩
theorem Fill.row {w : World} {T M : Nat} {ls : List Int} {n q : Nat} (h : Fill w T M ls n ls.length q) : Fill w T M ls (n + 1) 0 q := by
  obtain ⟨D, sh, lo, h1, h2, h3⟩ := h
  exact ⟨D, sh, lo, h1, h2, h3.row⟩
theorem Fill.lt {w : World} {T M : Nat} {ls : List Int} {n i q : Nat} (h : Fill w T M ls n i q) : T < w.heap.size ∧ M < w.heap.size := by
  obtain ⟨D, sh, lo, h1, h2, h3⟩ := h
  exact ⟨lt_of_block h1, h2.lt⟩

theorem cset0 {w : World} {T : Nat} {a b : Value} {t : TypeId} (h : w.heap[T]? = some (.cells #[a, b] t (0, 0))) (u : Value) : (w.setCell ⟨T, 0, none⟩ u).heap[T]? = some (.cells #[u, b] t (0, 0)) := (heap_setCell_same w T 0 _ _ u h).trans rfl
theorem cset1 {w : World} {T : Nat} {a b : Value} {t : TypeId} (h : w.heap[T]? = some (.cells #[a, b] t (0, 0))) (u : Value) : (w.setCell ⟨T, 1, none⟩ u).heap[T]? = some (.cells #[a, u] t (0, 0)) := (heap_setCell_same w T 1 _ _ u h).trans rfl
theorem ccells {w : World} {T : Nat} {a b : Value} {t : TypeId} (h : w.heap[T]? = some (.cells #[a, b] t (0, 0))) :
    w.cell? ⟨T, 0, none⟩ = some a ∧ w.cell? ⟨T, 1, none⟩ = some b ∧ (∀ j, w.frozen? ⟨T, j, none⟩ = false) ∧ T < w.heap.size :=
  ⟨cell_of_row _ _ _ _ _ _ h, cell_of_row _ _ _ _ _ _ h, fun j => frozen_of_row w T j _ _ h, lt_of_block h⟩

set_option maxRecDepth 100000 in
set_option maxHeartbeats 2000000 in
theorem each83 (T M : Nat) (ao : Option Addr) (cap : Nat) (ls : List Int) (N : Nat) (w : World) (hN : ls.length = N) (hlen : N ≤ 320) (hint : Ints w ao ls) (ha : ∀ a, ao = some a → ls ≠ [] → a.block < w.heap.size ∧ a.block ≠ T ∧ a.block ≠ M)
    (hw : ∀ j, ls.getD j 0 ≤ 15) (hf : Rf.fs ls ls.length ≤ 32768) (hF : Fill w T M ls 0 0 0) (hTM : M ≠ T) :
    Calls Tryz.prog 196 #[.slice ao N cap, .func (.func 197) #[] #[.pointer (some ⟨T, 0, none⟩)]] w
      fun e w' => e = .returned (.tuple #[]) ∧ (∃ q, Fill w' T M ls 15 0 q) ∧ Kp (fun k => k = T ∨ k = M) w w' := by
  obtain ⟨hltT, hltM⟩ := hF.lt
  go_enter Tryz.func196, Tryz.ntmps196
  go_wp2
  go_loopw [8] (fun v wr => ∃ n : Nat, n ≤ 15 ∧ v = .int .i64 n ∧ Hid (wr.heap[w.heap.size]? = some (.cells #[.int .u16 (Rf.nxO ls n : Nat), .int .u16 n] 230 (0, 0))) ∧ Hid (Fill wr T M ls n 0 (n * N)) ∧ Kp (fun k => k = T ∨ k = M) w wr) (fun v _ => 15 - (intOf v).toNat)
  case atStart => exact ⟨0, Nat.zero_le _, rfl, blk_new w _, by rw [Nat.zero_mul]; exact hF.kept ((Kp.refl (fun _ => False) w).alloc _) id id, (Kp.refl _ w).alloc _⟩
  case round =>
    clear hF
    obtain ⟨n, hn, rfl, HC, HF, hkp⟩ := hrel
    obtain ⟨c0, c1, fz, hltc⟩ := ccells HC.out
    have hsz := hkp.size
    by_cases hlt : n < 15
    · have hx2 := Rf.nxO_small ls hw hf n hlt
      obtain ⟨x, hx⟩ : ∃ x : Nat, x = Rf.nxO ls n := ⟨_, rfl⟩
      rw [← hx] at c0 hx2
      have hd : decide ((n : Int) < 15) = true := by simp; omega
      go_wp2
      go_loopw [19] (fun v wq => ∃ i : Nat, i ≤ N ∧ v = .int .i64 i ∧ Hid (wq.heap[w.heap.size]? = some (.cells #[.int .u16 (Rf.nx ls n i : Nat), .int .u16 ((n : Int) + 1)] 230 (0, 0))) ∧ Hid (Fill wq T M ls n i (n * N + i)) ∧ Kp (fun k => k = T ∨ k = M) w wq) (fun v _ => N - (intOf v).toNat)
      case atStart =>
        have e : ((Rf.nxO ls n : Nat) : Int) * 2 = ((Rf.nx ls n 0 : Nat) : Int) := by show _ = ((2 * Rf.nxO ls n : Nat) : Int); omega
        have hk2 : ∀ S, Kp S wr wr := fun S => Kp.refl S wr
        refine ⟨0, Nat.zero_le _, rfl, ?_, ?_, (hkp.setCell (p := ⟨w.heap.size, 0, none⟩) (.inr (Nat.le_refl _)) _).setCell (p := ⟨w.heap.size, 1, none⟩) (.inr (Nat.le_refl _)) _⟩
        · rw [e]
          exact cset1 (cset0 HC.out _) _
        · exact HF.out.kept (((Kp.refl (· = w.heap.size) wr).setCell (p := ⟨w.heap.size, 0, none⟩) (.inl rfl) _).setCell (p := ⟨w.heap.size, 1, none⟩) (.inl rfl) _) (Nat.ne_of_lt hltT) (Nat.ne_of_lt hltM)
      case round =>
        clear c0 c1 fz hltc HC HF hkp hx hx2 hsz x
        obtain ⟨i, hi, rfl, HC, HF, hkp⟩ := hrel
        obtain ⟨c0, c1, fz, hltc⟩ := ccells HC.out
        have hsz := hkp.size
        by_cases hlt' : i < N
        · obtain ⟨b, off, rfl, hc⟩ := hint i (by omega)
          obtain ⟨hb1, hb2, hb3⟩ := ha _ rfl (ne_of_lt (show i < ls.length by omega))
          obtain ⟨y, hy⟩ : ∃ y : Int, y = ls[i] := ⟨_, rfl⟩
          have hy2 : ls.getD i 0 = y := by rw [hy]; simp [List.getD, List.getElem?_eq_getElem (show i < ls.length by omega)]
          have hc2 : wr.cell? ⟨b, off + i, none⟩ = some (.int .i64 y) := (hkp.cell (p := ⟨b, off + i, none⟩) hb1 (by rintro (h | h); exact hb2 h; exact hb3 h)).trans (by rw [hc, hy])
          have hnx := Rf.nx_small ls hw hf n i hlt (by omega)
          have hnx2 := Rf.nx_small ls hw hf n (i + 1) hlt (by omega)
          have HY : Hid (ls.getD i 0 = y) := hy2
          clear hy hy2 hc hint
          by_cases hye : y = (n : Int) + 1
          · have HN : Hid (Rf.nx ls n (i + 1) = Rf.nx ls n i + 1) := by show Rf.nxI _ _ _ _ + _ = _; rw [HY.out, hye, if_pos (by omega)]
            have hcall := put84 T M ls n i (n * N + i) wr HF.out hTM hlt (by omega) (by omega) (by rw [HY.out, hye]; omega) hnx (by have : n * N ≤ 15 * 320 := Nat.mul_le_mul (by omega) hlen; omega)
            rw [codeV, show ((n + 1 : Nat) : Int) = (n : Int) + 1 by omega] at hcall
            obtain ⟨g, hg⟩ : ∃ g : Nat, g = Rf.nx ls n i := ⟨_, rfl⟩
            rw [HN.out] at hnx2
            rw [← hg] at hcall c0 hnx hnx2
            have HG : Hid (g = Rf.nx ls n i) := hg
            have HA : Hid (wr.cell? ⟨b, off + i, none⟩ = some (.int .i64 ((n : Int) + 1))) := by rw [← hye]; exact hc2
            have HYE : Hid (y = (n : Int) + 1) := hye
            clear hg ha hc2 hye
            have hc2 := HA.out
            clear HA
            go_wp2_with fail
            refine hcall.mono ?_
            rintro e w1 ⟨rfl, hF1, hk1⟩
            have HC1 : Hid (w1.heap[w.heap.size]? = _) := (hk1.block w.heap.size hltc (by rintro (h | h) <;> omega)).trans HC.out
            obtain ⟨d0, d1, fz1, hltc1⟩ := ccells HC1.out
            rw [← HG.out] at d0
            go_wp2
            go_roundw
            case rel =>
              refine ⟨i + 1, by omega, by go_num, ?_, ?_, (hkp.trans hk1).setCell (p := ⟨w.heap.size, 0, none⟩) (.inr (Nat.le_refl _)) _⟩
              · rw [HN.out, ← HG.out]
                exact cset0 HC1.out _
              · exact hF1.kept ((Kp.refl (· = w.heap.size) w1).setCell (p := ⟨w.heap.size, 0, none⟩) (.inl rfl) _) (Nat.ne_of_lt hltT) (Nat.ne_of_lt hltM)
            case measure => simp [intOf]; omega
          · have HN : Hid (Rf.nx ls n (i + 1) = Rf.nx ls n i) := by show Rf.nxI _ _ _ _ + _ = _; rw [HY.out, if_neg (by omega)]; rfl
            go_wp2
            go_roundw
            case rel => exact ⟨i + 1, by omega, by go_num, by rw [HN.out]; exact HC.out, HF.out.next (by rw [HY.out]; omega), hkp⟩
            case measure => simp [intOf]; omega
        · have e : i = N := by omega
          subst e
          go_wp2
          go_roundw
          case rel =>
            refine ⟨n + 1, by omega, by go_num, ?_, ?_, hkp⟩
            · have h := HC.out
              rw [← hN] at h
              exact h
            · have h := HF.out
              rw [← Nat.succ_mul] at h
              rw [← hN] at h ⊢
              exact h.row
          case measure => simp [intOf]; omega
    · have e : n = 15 := by omega
      subst e
      go_wp2
      go_end0
      exact ⟨rfl, ⟨_, HF.out⟩, hkp⟩

end Go.Proofs.YtmfijackgekioaaGreatDoor
