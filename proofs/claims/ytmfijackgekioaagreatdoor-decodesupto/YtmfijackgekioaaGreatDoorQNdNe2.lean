import Derived.Test.YtmfijackgekioaaGreatDoorQPmNy7
import Derived.Test.YtmfijackgekioaaGreatDoorQWzWx4
import Derived.Test.YtmfijackgekioaaGreatDoorQRd
import Derived.Test.YtmfijackgekioaaGreatDoorQUaUe5

/-
  What a filter takes away: the document's functions and the program's. For Decodes.
-/
namespace Go.Proofs.YtmfijackgekioaaGreatDoor
open Go.RowKit Go.Maps

set_option maxRecDepth 100000 in
set_option maxHeartbeats 1000000 in
theorem offR (p q : Int) (w : World) (hp : -1000 ≤ p ∧ p ≤ 1000) (hq : -1000 ≤ q ∧ q ≤ 1000) :
    Calls Tryz.prog 151 #[.int .i64 p, .int .i64 q] w fun e w' => e = .returned (.int .i64 (Pm.offI p q)) ∧ w' = w := by
  by_cases h : q < p
  · have HO : Hid (Pm.offI p q = p - q) := by show _ = _; rw [Pm.offI, if_pos h]
    go_enter Tryz.func151, Tryz.ntmps151
    go_wp2
    go_ret
    exact ⟨ret_int HO.out.symm, rfl⟩
  · have HO : Hid (Pm.offI p q = q - p) := by show _ = _; rw [Pm.offI, if_neg h]
    go_enter Tryz.func151, Tryz.ntmps151
    go_wp2
    go_ret
    exact ⟨ret_int HO.out.symm, rfl⟩
set_option maxRecDepth 100000 in
set_option maxHeartbeats 1000000 in
theorem nearR (a b c : Int) (w : World) (ha : 0 ≤ a ∧ a < 256) (hb : 0 ≤ b ∧ b < 256) (hc : 0 ≤ c ∧ c < 256) :
    Calls Tryz.prog 109 #[.int .i64 a, .int .i64 b, .int .i64 c] w fun e w' => e = .returned (.int .i64 (Pm.nearI a b c)) ∧ w' = w := by
  have hA := fun u => offR (a + b - c) a u (by omega) (by omega)
  have hB := fun u => offR (a + b - c) b u (by omega) (by omega)
  have hC := fun u => offR (a + b - c) c u (by omega) (by omega)
  have HN : Hid (Pm.nearI a b c = if Pm.offI (a + b - c) a ≤ Pm.offI (a + b - c) b ∧ Pm.offI (a + b - c) a ≤ Pm.offI (a + b - c) c then a else if Pm.offI (a + b - c) b ≤ Pm.offI (a + b - c) c then b else c) := rfl
  generalize Pm.offI (a + b - c) a = x at *
  generalize Pm.offI (a + b - c) b = y at *
  generalize Pm.offI (a + b - c) c = z at *
  by_cases h1 : x ≤ y
  · by_cases h2 : x ≤ z
    · rw [if_pos ⟨h1, h2⟩] at HN
      go_enter Tryz.func109, Tryz.ntmps109
      go_wp2_with fail
      refine (hA _).mono ?_
      rintro e w' ⟨rfl, rfl⟩
      go_wp2_with fail
      refine (hB _).mono ?_
      rintro e w' ⟨rfl, rfl⟩
      go_wp2_with fail
      refine (hC _).mono ?_
      rintro e w' ⟨rfl, rfl⟩
      go_wp2
      go_ret
      exact ⟨ret_int HN.out.symm, rfl⟩
    · rw [if_neg (fun h => h2 h.2)] at HN
      by_cases h3 : y ≤ z
      · exact absurd (Int.le_trans h1 h3) h2
      · rw [if_neg h3] at HN
        go_enter Tryz.func109, Tryz.ntmps109
        go_wp2_with fail
        refine (hA _).mono ?_
        rintro e w' ⟨rfl, rfl⟩
        go_wp2_with fail
        refine (hB _).mono ?_
        rintro e w' ⟨rfl, rfl⟩
        go_wp2_with fail
        refine (hC _).mono ?_
        rintro e w' ⟨rfl, rfl⟩
        go_wp2
        go_ret
        exact ⟨ret_int HN.out.symm, rfl⟩
  · rw [if_neg (fun h => h1 h.1)] at HN
    by_cases h3 : y ≤ z
    · rw [if_pos h3] at HN
      go_enter Tryz.func109, Tryz.ntmps109
      go_wp2_with fail
      refine (hA _).mono ?_
      rintro e w' ⟨rfl, rfl⟩
      go_wp2_with fail
      refine (hB _).mono ?_
      rintro e w' ⟨rfl, rfl⟩
      go_wp2_with fail
      refine (hC _).mono ?_
      rintro e w' ⟨rfl, rfl⟩
      go_wp2
      go_ret
      exact ⟨ret_int HN.out.symm, rfl⟩
    · rw [if_neg h3] at HN
      go_enter Tryz.func109, Tryz.ntmps109
      go_wp2_with fail
      refine (hA _).mono ?_
      rintro e w' ⟨rfl, rfl⟩
      go_wp2_with fail
      refine (hB _).mono ?_
      rintro e w' ⟨rfl, rfl⟩
      go_wp2_with fail
      refine (hC _).mono ?_
      rintro e w' ⟨rfl, rfl⟩
      go_wp2
      go_ret
      exact ⟨ret_int HN.out.symm, rfl⟩
/-- A byte of a row, or 0. -/
def atI (l : List Int) (i : Int) : Int := if i < 0 ∨ (l.length : Int) ≤ i then 0 else l.getD i.toNat 0
set_option maxRecDepth 100000 in
set_option maxHeartbeats 1000000 in
theorem atR (ao : Option Addr) (cap : Nat) (l : List Int) (i : Int) (w : World) (hi : Ints w ao l) :
    Calls Tryz.prog 108 #[.slice ao l.length cap, .int .i64 i] w fun e w' => e = .returned (.int .i64 (atI l i)) ∧ w' = w := by
  by_cases h0 : i < 0
  · have HA : Hid (atI l i = 0) := by show _ = _; rw [atI, if_pos (.inl h0)]
    go_enter Tryz.func108, Tryz.ntmps108
    go_wp2
    go_ret
    exact ⟨ret_int HA.out.symm, rfl⟩
  · by_cases h1 : (l.length : Int) ≤ i
    · have HA : Hid (atI l i = 0) := by show _ = _; rw [atI, if_pos (.inr h1)]
      go_enter Tryz.func108, Tryz.ntmps108
      go_wp2
      go_ret
      exact ⟨ret_int HA.out.symm, rfl⟩
    · obtain ⟨k, rfl⟩ := Int.eq_ofNat_of_zero_le (a := i) (by omega)
      have hk : k < l.length := by omega
      obtain ⟨b, off, rfl, hc⟩ := hi k hk
      have HA : Hid (atI l k = l[k]) := by
        show _ = _
        rw [atI, if_neg (by omega), Int.toNat_natCast, List.getD_eq_getElem?_getD, List.getElem?_eq_getElem hk]
        rfl
      obtain ⟨x, hx⟩ : ∃ x : Int, x = l[k] := ⟨_, rfl⟩
      rw [← hx] at hc HA
      clear hx hi
      go_enter Tryz.func108, Tryz.ntmps108
      go_wp2
      go_ret
      exact ⟨ret_int HA.out.symm, rfl⟩
set_option maxRecDepth 100000 in
set_option maxHeartbeats 1000000 in
theorem distP (x y : Int) (w : World) (hx : -1000 ≤ x ∧ x ≤ 1000) (hy : -1000 ≤ y ∧ y ≤ 1000) :
    Calls Tryz.prog 221 #[.int .i64 x, .int .i64 y] w fun e w' => e = .returned (.int .i64 (Pm.distI x y)) ∧ w' = w := by
  go_enter Tryz.func221, Tryz.ntmps221
  go_wp2
  all_goals go_ret
  all_goals exact ⟨ret_int (by unfold Pm.distI; omega), rfl⟩
end Go.Proofs.YtmfijackgekioaaGreatDoor

/-
  Bytes in memory; what stands around a byte; the takers: the program. For Decodes.
-/
namespace Go.Proofs.YtmfijackgekioaaGreatDoor
open Go.RowKit Go.Maps

theorem drewN_twoN (w : World) (a b : Nat) : (w.drewN a).drewN b = w.drewN (a + b) := by simp
abbrev bvals (l : List Int) : List Value := l.map (Value.int .u8)
/-- A row of bytes. -/
def Byt (w : World) (g : Nat) (l : List Int) : Prop := w.heap[g]? = some (.cells (bvals l).toArray 5 (0, 0))
theorem Byt.cell {w : World} {g : Nat} {l : List Int} (h : Byt w g l) (j : Nat) (hj : j < l.length) : w.cell? ⟨g, j, none⟩ = some (.int .u8 (Pm.getI l j)) := by
  refine (cell_of_row _ _ _ _ _ _ h).trans ?_
  simp [bvals, hj, Pm.getI]
theorem Byt.frozen {w : World} {g : Nat} {l : List Int} (h : Byt w g l) (j : Nat) : w.frozen? ⟨g, j, none⟩ = false := frozen_of_row w g j _ _ h
theorem Byt.set {w : World} {g : Nat} {l : List Int} (h : Byt w g l) (i : Nat) (x : Int) : Byt (w.setCell ⟨g, i, none⟩ (.int .u8 x)) g (l.set i x) := by
  refine (heap_setCell_same w g i _ _ (.int .u8 x) h).trans ?_
  simp [bvals, List.map_set]

set_option maxRecDepth 100000 in
set_option maxHeartbeats 1000000 in
theorem aroundP (R A : Nat) (r a : List Int) (i lead n : Nat) (w : World) (hR : Byt w R r) (hA : Byt w A a) (hr : r.length = n) (ha : a.length = n) (hi : i < n) (hn : n ≤ 1000000) (hl : 1 ≤ lead ∧ lead ≤ 8)
    (gr : ∀ j, 0 ≤ Pm.getI r j ∧ Pm.getI r j < 256) (ga : ∀ j, 0 ≤ Pm.getI a j ∧ Pm.getI a j < 256) :
    Calls Tryz.prog 193 #[.slice (some ⟨R, 0, none⟩) n n, .slice (some ⟨A, 0, none⟩) n n, .int .i64 (i : Nat), .int .i64 (lead : Nat)] w fun e w' =>
      e = .returned (.tuple #[.int .i64 (Pm.prevI (Pm.getI r) i lead), .int .i64 (Pm.getI a i), .int .i64 (Pm.prevI (Pm.getI a) i lead)]) ∧ ∃ m, w' = w.drewN m := by
  have c3 := hA.cell i (by omega)
  have g3 := ga i
  have x3 : IntKind.i64.wrap (Pm.getI a i) = Pm.getI a i := IntWalk.i64_in _ (by omega)
  have hin : (i : Int) < (n : Int) := by omega
  by_cases h : lead ≤ i
  · have hli : (i : Int) ≥ (lead : Int) := by omega
    have e0 : ((i : Int) - (lead : Int)) = ((i - lead : Nat) : Int) := by omega
    have P1 : Hid (Pm.prevI (Pm.getI r) i lead = Pm.getI r (i - lead)) := by show _ = _; rw [Pm.prevI, if_pos h]
    have P2 : Hid (Pm.prevI (Pm.getI a) i lead = Pm.getI a (i - lead)) := by show _ = _; rw [Pm.prevI, if_pos h]
    have c1 := hR.cell (i - lead) (by omega)
    have c2 := hA.cell (i - lead) (by omega)
    have g1 := gr (i - lead)
    have g2 := ga (i - lead)
    have x1 : IntKind.i64.wrap (Pm.getI r (i - lead)) = Pm.getI r (i - lead) := IntWalk.i64_in _ (by omega)
    have x2 : IntKind.i64.wrap (Pm.getI a (i - lead)) = Pm.getI a (i - lead) := IntWalk.i64_in _ (by omega)
    have hk : ((i - lead : Nat) : Int) < (n : Int) := by omega
    generalize Pm.getI r (i - lead) = X at *
    generalize Pm.getI a (i - lead) = Y at *
    generalize Pm.getI a i = Z at *
    obtain ⟨k, hkk⟩ : ∃ k, k = i - lead := ⟨_, rfl⟩
    rw [← hkk] at c1 c2 e0 hk
    have HK : Hid (_) := hkk
    clear hR hA gr ga hkk
    go_enter Tryz.func193, Tryz.ntmps193
    go_wp2
    go_quiet (fail)
    go_wp2
    go_quiet (fail)
    go_wp2
    refine bodyPost_ret (v := .tuple #[.int .i64 X, .int .i64 Z, .int .i64 Y]) (by simp [results, Tryz.results193, go_sem]) rfl ⟨?_, _, drewN_twoN _ _ _⟩
    rw [P1.out, P2.out]
  · have hli : ¬ (i : Int) ≥ (lead : Int) := by omega
    have P1 : Hid (Pm.prevI (Pm.getI r) i lead = 0) := by show _ = _; rw [Pm.prevI, if_neg h]
    have P2 : Hid (Pm.prevI (Pm.getI a) i lead = 0) := by show _ = _; rw [Pm.prevI, if_neg h]
    generalize Pm.getI a i = Z at *
    clear hR hA gr ga
    go_enter Tryz.func193, Tryz.ntmps193
    go_wp2
    go_quiet (fail)
    go_wp2
    refine bodyPost_ret (v := .tuple #[.int .i64 0, .int .i64 Z, .int .i64 0]) (by simp [results, Tryz.results193, go_sem]) rfl ⟨?_, _, rfl⟩
    rw [P1.out, P2.out]

/-- A function takes away what the filter does. -/
structure DoesT (F f : Nat) : Prop where
  does : ∀ (a b c : Int) (u : World), (0 ≤ a ∧ a < 256) → (0 ≤ b ∧ b < 256) → (0 ≤ c ∧ c < 256) → Calls Tryz.prog F #[.int .i64 a, .int .i64 b, .int .i64 c] u fun e u' => e = .returned (.int .i64 (Pm.takenI f a b c)) ∧ u' = u
  call : ∀ args w, (callFunc F args).run Tryz.prog w = .ok (.enter F args) w
set_option maxRecDepth 100000 in
theorem does0 : DoesT 188 0 := by
  refine ⟨?_, fun args w => by kernel_rfl⟩
  intro a b c u ha hb hc
  go_enter Tryz.func188, Tryz.ntmps188
  go_wp2
  go_ret
  exact ⟨rfl, rfl⟩
set_option maxRecDepth 100000 in
theorem does1 : DoesT 189 1 := by
  refine ⟨?_, fun args w => by kernel_rfl⟩
  intro a b c u ha hb hc
  go_enter Tryz.func189, Tryz.ntmps189
  go_wp2
  go_ret
  exact ⟨rfl, rfl⟩
set_option maxRecDepth 100000 in
theorem does2 : DoesT 190 2 := by
  refine ⟨?_, fun args w => by kernel_rfl⟩
  intro a b c u ha hb hc
  go_enter Tryz.func190, Tryz.ntmps190
  go_wp2
  go_ret
  exact ⟨rfl, rfl⟩
set_option maxRecDepth 100000 in
theorem does3 : DoesT 191 3 := by
  refine ⟨?_, fun args w => by kernel_rfl⟩
  intro a b c u ha hb hc
  go_enter Tryz.func191, Tryz.ntmps191
  go_wp2
  go_ret
  exact ⟨rfl, rfl⟩
set_option maxRecDepth 100000 in
set_option maxHeartbeats 1000000 in
theorem does4 : DoesT 192 4 := by
  refine ⟨?_, fun args w => by kernel_rfl⟩
  intro a b c u ha hb hc
  have hA := fun v => distP b c v (by omega) (by omega)
  have hB := fun v => distP a c v (by omega) (by omega)
  have hC := fun v => distP (a + b) (c + c) v (by omega) (by omega)
  have HN : Hid (Pm.takenI 4 a b c = if Pm.distI b c ≤ Pm.distI a c ∧ Pm.distI b c ≤ Pm.distI (a + b) (c + c) then a else if Pm.distI a c ≤ Pm.distI (a + b) (c + c) then b else c) := Pm.near_same a b c
  generalize Pm.takenI 4 a b c = R at *
  generalize Pm.distI b c = x at *
  generalize Pm.distI a c = y at *
  generalize Pm.distI (a + b) (c + c) = z at *
  by_cases h1 : x ≤ y
  · by_cases h2 : x ≤ z
    · rw [if_pos ⟨h1, h2⟩] at HN
      go_enter Tryz.func192, Tryz.ntmps192
      go_wp2_with fail
      refine (hA _).mono ?_
      rintro e w' ⟨rfl, rfl⟩
      go_wp2_with fail
      refine (hB _).mono ?_
      rintro e w' ⟨rfl, rfl⟩
      go_wp2_with fail
      refine (hC _).mono ?_
      rintro e w' ⟨rfl, rfl⟩
      go_wp2
      go_ret
      exact ⟨ret_int HN.out.symm, rfl⟩
    · rw [if_neg (fun h => h2 h.2)] at HN
      by_cases h3 : y ≤ z
      · exact absurd (Int.le_trans h1 h3) h2
      · rw [if_neg h3] at HN
        go_enter Tryz.func192, Tryz.ntmps192
        go_wp2_with fail
        refine (hA _).mono ?_
        rintro e w' ⟨rfl, rfl⟩
        go_wp2_with fail
        refine (hB _).mono ?_
        rintro e w' ⟨rfl, rfl⟩
        go_wp2_with fail
        refine (hC _).mono ?_
        rintro e w' ⟨rfl, rfl⟩
        go_wp2
        go_ret
        exact ⟨ret_int HN.out.symm, rfl⟩
  · rw [if_neg (fun h => h1 h.1)] at HN
    by_cases h3 : y ≤ z
    all_goals
      first | rw [if_pos h3] at HN | rw [if_neg h3] at HN
      go_enter Tryz.func192, Tryz.ntmps192
      go_wp2_with fail
      refine (hA _).mono ?_
      rintro e w' ⟨rfl, rfl⟩
      go_wp2_with fail
      refine (hB _).mono ?_
      rintro e w' ⟨rfl, rfl⟩
      go_wp2_with fail
      refine (hC _).mono ?_
      rintro e w' ⟨rfl, rfl⟩
      go_wp2
      go_ret
      exact ⟨ret_int HN.out.symm, rfl⟩
def takerF : Nat → Nat
  | 0 => 188
  | 1 => 189
  | 2 => 190
  | 3 => 191
  | _ => 192
theorem taker_does (f : Nat) (h : f ≤ 4) : DoesT (takerF f) f := by
  match f, h with
  | 0, _ => exact does0
  | 1, _ => exact does1
  | 2, _ => exact does2
  | 3, _ => exact does3
  | 4, _ => exact does4
/-- What taking a filter comes to. -/
inductive EndsT (f : Nat) (w : World) : Ending → World → Prop
  | no : 4 < f → EndsT f w (dies 15) w
  | ok : f ≤ 4 → EndsT f w (.returned (.func (.func (takerF f)) #[] #[])) w
set_option maxRecDepth 100000 in
set_option maxHeartbeats 1000000 in
theorem takerOfP (f : Nat) (w : World) : Calls Tryz.prog 144 #[.int .u8 (f : Nat)] w fun e w' => EndsT f w e w' := by
  rcases Nat.lt_or_ge 4 f with h | h
  · have HH : Hid (4 < f) := h
    have n0 : ((f : Int) == 0) = false := by rw [beq_eq_false_iff_ne]; omega
    have n1 : ((f : Int) == 1) = false := by rw [beq_eq_false_iff_ne]; omega
    have n2 : ((f : Int) == 2) = false := by rw [beq_eq_false_iff_ne]; omega
    have n3 : ((f : Int) == 3) = false := by rw [beq_eq_false_iff_ne]; omega
    have n4 : ((f : Int) == 4) = false := by rw [beq_eq_false_iff_ne]; omega
    clear h
    go_enter Tryz.func144, Tryz.ntmps144
    go_wp2
    exact ⟨rfl, .no HH.out⟩
  · match f, h with
    | 0, h => go_enter Tryz.func144, Tryz.ntmps144
              go_wp2
              go_ret
              exact .ok h
    | 1, h => go_enter Tryz.func144, Tryz.ntmps144
              go_wp2
              go_ret
              exact .ok h
    | 2, h => go_enter Tryz.func144, Tryz.ntmps144
              go_wp2
              go_ret
              exact .ok h
    | 3, h => go_enter Tryz.func144, Tryz.ntmps144
              go_wp2
              go_ret
              exact .ok h
    | 4, h => go_enter Tryz.func144, Tryz.ntmps144
              go_wp2
              go_ret
              exact .ok h
end Go.Proofs.YtmfijackgekioaaGreatDoor
