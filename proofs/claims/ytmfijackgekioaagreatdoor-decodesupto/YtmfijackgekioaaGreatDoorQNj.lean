import Derived.Test.YtmfijackgekioaaGreatDoorQNdNe2
import Derived.Test.YtmfijackgekioaaGreatDoorQLbLm3

/-
  A row without its filter, a sample of a row: the document. For Decodes.
-/
namespace Go.Proofs.YtmfijackgekioaaGreatDoor
open Go.RowKit Go.Maps

theorem atI_nat (l : List Int) (k : Nat) : atI l (k : Int) = Pm.getI l k := by
  unfold atI Pm.getI
  split
  · rw [List.getD_eq_getElem?_getD, List.getElem?_eq_none (by omega)]
    rfl
  · rw [Int.toNat_natCast]
theorem atI_prev (l : List Int) (i lead : Nat) : atI l ((i : Int) - (lead : Int)) = Pm.prevI (Pm.getI l) i lead := by
  unfold Pm.prevI
  by_cases h : lead ≤ i
  · rw [if_pos h, show (i : Int) - (lead : Int) = ((i - lead : Nat) : Int) by omega, atI_nat]
  · rw [if_neg h, atI, if_pos (.inl (by omega))]
theorem own_ints' {w : World} {base n : Nat} {v : Value} {zs : List Int} (h : w.ownsRow base 3 1 v n (vals zs)) : ∃ ao cap, v = .slice ao n cap ∧ Ints w ao zs ∧ zs.length = n ∧ ∀ a, ao = some a → zs ≠ [] → base ≤ a.block ∧ a.block < w.heap.size := by
  have hl : zs.length = n := by have := h.1; simp [vals] at this; omega
  rcases h.2 with ⟨e1, e2⟩ | ⟨g, cap, cur, e, hb, hg, _⟩
  · refine ⟨none, 0, by rw [e1, e2], fun j hj => by omega, hl, fun a e => by cases e⟩
  · subst e
    exact ⟨some ⟨g, 0, none⟩, cap, rfl, fun j hj => ⟨g, 0, rfl, by rw [Nat.zero_add]; exact own_cell h j hj⟩, hl, fun a e _ => by cases e; exact ⟨hb, lt_of_block hg⟩⟩
/-- What the document's reading of a row comes to. -/
inductive EndsU (f lead : Nat) (a : List Int) (x : Nat → Int) (n : Nat) (w : World) : Ending → World → Prop
  | no {w'} : 4 < f → Below w.heap.size w w' → EndsU f lead a x n w (.returned (.tuple #[.slice none 0 0, .bool false])) w'
  | ok {w' v} : f ≤ 4 → w'.ownsRow w.heap.size 3 1 v n (vals (Pm.unP f lead (Pm.getI a) x n)) → Below w.heap.size w w' → EndsU f lead a x n w (.returned (.tuple #[v, .bool true])) w'
set_option maxRecDepth 100000 in
set_option maxHeartbeats 400000 in
theorem unfilteredR (f lead : Nat) (s : ByteArray) (ao : Option Addr) (cap : Nat) (a : List Int) (w : World) (hi : Ints w ao a) (ha : ∀ b, ao = some b → a ≠ [] → b.block < w.heap.size) (ga : ∀ j, 0 ≤ Pm.getI a j ∧ Pm.getI a j < 256)
    (hs : s.size ≤ 1000000) (hs1 : 1 ≤ s.size) (hl : 1 ≤ lead ∧ lead ≤ 8) :
    Calls Tryz.prog 74 #[.int .i64 (f : Nat), .string s, .slice ao a.length cap, .int .i64 (lead : Nat)] w fun e w' => EndsU f lead a (fun i => (byteAt s i : Int)) s.size w e w' := by
  obtain ⟨i0, hi0, hz0, hz1, hz2⟩ := info_parts Tryz.info3
  generalize hB : w.heap.size = B at *
  by_cases hf : 4 < f
  · have n0 : ((f : Int) == 0) = false := by rw [beq_eq_false_iff_ne]; omega
    have n1 : ((f : Int) == 1) = false := by rw [beq_eq_false_iff_ne]; omega
    have n2 : ((f : Int) == 2) = false := by rw [beq_eq_false_iff_ne]; omega
    have n3 : ((f : Int) == 3) = false := by rw [beq_eq_false_iff_ne]; omega
    have n4 : ((f : Int) == 4) = false := by rw [beq_eq_false_iff_ne]; omega
    have hA := fun (i : Nat) u => atR none 0 [] ((i : Int) - (lead : Int)) u (fun j hj => absurd hj (Nat.not_lt_zero _))
    have hA2 := fun (i : Nat) => atR ao cap a (i : Int) w hi
    have hA3 := fun (i : Nat) => atR ao cap a ((i : Int) - (lead : Int)) w hi
    have HF : Hid (4 < f) := hf
    clear hf hi ha ga
    go_enter Tryz.func74, Tryz.ntmps74
    go_wp2
    go_loopw [10, 11] (fun ov ix wr => ∃ i : Nat, Hid (i = 0) ∧ ov = .slice none 0 0 ∧ ix = .int .i64 i ∧ wr = w) (fun _ _ _ => 1)
    case atStart => exact ⟨0, rfl, rfl, rfl, rfl⟩
    case round =>
      obtain ⟨i, Hi, rfl, rfl, rfl⟩ := hrel
      have hi1 : (i : Int) < (s.size : Int) := by have := Hi.out; omega
      have hi2 : i ≤ 1000000 := by omega
      have hA1 := hA i wr
      have hA22 := hA2 i
      have hA33 := hA3 i
      clear hA hA2 hA3
      go_wp2_with fail
      refine hA1.mono ?_
      rintro e w' ⟨rfl, rfl⟩
      go_wp2_with fail
      refine hA22.mono ?_
      rintro e w' ⟨rfl, rfl⟩
      go_wp2_with fail
      refine hA33.mono ?_
      rintro e w' ⟨rfl, rfl⟩
      go_wp2
      exact bodyPost_ret (v := .tuple #[.slice none 0 0, .bool false]) (by simp [results, Tryz.results74, go_sem]) rfl (.no HF.out (Below.refl _ _))
  · have hf4 : f ≤ 4 := by omega
    have HF : Hid (f ≤ 4) := hf4
    have HI : Hid (Ints w ao a) := hi
    have HA : Hid (∀ b, ao = some b → a ≠ [] → b.block < B) := ha
    clear hi ha
    go_enter Tryz.func74, Tryz.ntmps74
    go_wp2
    go_loopw [10, 11] (fun ov ix wr => ∃ i : Nat, i ≤ s.size ∧ ix = .int .i64 i ∧ wr.ownsRow B 3 1 ov i (vals (Pm.unP f lead (Pm.getI a) (fun i => (byteAt s i : Int)) i)) ∧ Below B w wr) (fun _ ix _ => s.size - (intOf ix).toNat)
    case atStart => exact ⟨0, Nat.zero_le _, rfl, World.ownsRow_nil _ _ _ _, Below.refl _ _⟩
    case round =>
      obtain ⟨i, hik, rfl, hown, hbl⟩ := hrel
      obtain ⟨oa, oc, rfl, hoi, hol, hoa⟩ := own_ints' hown
      by_cases hlt : i < s.size
      · have hlt' : (i : Int) < (s.size : Int) := by omega
        have hir : Ints wr ao a := HI.out.below hbl HA.out
        have hA1 := atR oa oc _ ((i : Int) - (lead : Int)) wr hoi
        have hA2 := atR ao cap a (i : Int) wr hir
        have hA3 := atR ao cap a ((i : Int) - (lead : Int)) wr hir
        rw [hol] at hA1
        rw [atI_prev] at hA1 hA3
        rw [atI_nat] at hA2
        have p1 := Pm.prev_range (fun j => Pm.unP_getI f lead (Pm.getI a) (fun i => (byteAt s i : Int)) i j) i lead
        have p2 := ga i
        have p3 := Pm.prev_range ga i lead
        have hnr := fun u => nearR _ _ _ u p1 p2 p3
        have htr := Pm.taken_range f p1 p2 p3
        have HU : Hid (Pm.unP f lead (Pm.getI a) (fun i => (byteAt s i : Int)) (i + 1) = Pm.unP f lead (Pm.getI a) (fun i => (byteAt s i : Int)) i ++ [((byteAt s i : Int) + Pm.takenI f (Pm.prevI (Pm.getI (Pm.unP f lead (Pm.getI a) (fun i => (byteAt s i : Int)) i)) i lead) (Pm.getI a i) (Pm.prevI (Pm.getI a) i lead)) % 256]) := rfl
        have bx := byteAt_lt s i
        have be := byteAt_eq s i hlt
        have xi : IntKind.i64.wrap (byteAt s i : Int) = (byteAt s i : Int) := IntWalk.i64_in _ (by omega)
        obtain ⟨U', hU'⟩ : ∃ U', U' = Pm.unP f lead (Pm.getI a) (fun i => (byteAt s i : Int)) (i + 1) := ⟨_, rfl⟩
        rw [← hU'] at HU
        have HUU : Hid (U' = Pm.unP f lead (Pm.getI a) (fun i => (byteAt s i : Int)) (i + 1)) := hU'
        clear hU'
        generalize Pm.prevI (Pm.getI (Pm.unP f lead (Pm.getI a) (fun i => (byteAt s i : Int)) i)) i lead = P1 at *
        generalize Pm.unP f lead (Pm.getI a) (fun i => (byteAt s i : Int)) i = U at *
        generalize Pm.prevI (Pm.getI a) i lead = P3 at *
        generalize Pm.getI a i = P2 at *
        have ht : ∃ T, T = Pm.takenI f P1 P2 P3 := ⟨_, rfl⟩
        obtain ⟨T, hT⟩ := ht
        rw [← hT] at htr HU
        have HT : Hid (T = Pm.takenI f P1 P2 P3) := hT
        clear hT hoi hoa hir
        have hfc : f = 0 ∨ f = 1 ∨ f = 2 ∨ f = 3 ∨ f = 4 := by omega
        rcases hfc with hfe | hfe | hfe | hfe | hfe
        · have n0 : ((f : Int) == 0) = true := beq_iff_eq.2 (by omega)
          have hT := HT.out
          rw [hfe] at hT
          simp only [Pm.takenI] at hT
          clear hfe
          subst hT
          go_wp2_with fail
          refine hA1.mono ?_
          rintro e w' ⟨rfl, hw⟩
          subst w'
          go_wp2_with fail
          refine hA2.mono ?_
          rintro e w' ⟨rfl, hw⟩
          subst w'
          go_wp2_with fail
          refine hA3.mono ?_
          rintro e w' ⟨rfl, hw⟩
          subst w'
          clear hA1 hA2 hA3
          go_wp2_with (first | (go_at_call 109; refine (hnr _).mono ?_; rintro e w' ⟨rfl, hw⟩; subst w') | (at_builtin; refine wpList_append_own _ rfl _ _ 24 rfl B 3 i0 (.int .i64 0) 1 8 Tryz.underlying24 hi0 hz0 hz1 hz2 rfl (by decide) _ _ _ rfl (hown.alloc _) ⟨wr.heap.size, 0, none⟩ 1 1 [_] rfl rfl (cell_one_new _ _ _) (by intro u hu; simp at hu; subst hu; rfl) (by unfold maxLen; omega) (by omega) (by have := hbl.size; simp; omega) ?_; intro v' w2 hown' hgrow _))
          have R2 : w2.ownsRow B 3 1 v' (i + 1) (vals U') ∧ Below B w w2 := by
            refine ⟨?_, (hbl.alloc (by have := hbl.size; omega) _).grown hgrow (by have := hbl.size; simp; omega) (fun b hb => (hown.lt b hb).1)⟩
            rw [HU.out]
            simpa [vals] using hown'
          clear hown' hgrow hown hbl
          (try go_wp2)
          go_roundw
          case rel => exact ⟨i + 1, by omega, by go_num, by rw [← HUU.out]; exact R2.1, R2.2⟩
          case measure => simp [intOf]; omega
        · have n0 : ((f : Int) == 0) = false := by rw [beq_eq_false_iff_ne]; omega
          have n1 : ((f : Int) == 1) = true := beq_iff_eq.2 (by omega)
          have hT := HT.out
          rw [hfe] at hT
          simp only [Pm.takenI] at hT
          clear hfe
          subst hT
          go_wp2_with fail
          refine hA1.mono ?_
          rintro e w' ⟨rfl, hw⟩
          subst w'
          go_wp2_with fail
          refine hA2.mono ?_
          rintro e w' ⟨rfl, hw⟩
          subst w'
          go_wp2_with fail
          refine hA3.mono ?_
          rintro e w' ⟨rfl, hw⟩
          subst w'
          clear hA1 hA2 hA3
          go_wp2_with (first | (go_at_call 109; refine (hnr _).mono ?_; rintro e w' ⟨rfl, hw⟩; subst w') | (at_builtin; refine wpList_append_own _ rfl _ _ 24 rfl B 3 i0 (.int .i64 0) 1 8 Tryz.underlying24 hi0 hz0 hz1 hz2 rfl (by decide) _ _ _ rfl (hown.alloc _) ⟨wr.heap.size, 0, none⟩ 1 1 [_] rfl rfl (cell_one_new _ _ _) (by intro u hu; simp at hu; subst hu; rfl) (by unfold maxLen; omega) (by omega) (by have := hbl.size; simp; omega) ?_; intro v' w2 hown' hgrow _))
          have R2 : w2.ownsRow B 3 1 v' (i + 1) (vals U') ∧ Below B w w2 := by
            refine ⟨?_, (hbl.alloc (by have := hbl.size; omega) _).grown hgrow (by have := hbl.size; simp; omega) (fun b hb => (hown.lt b hb).1)⟩
            rw [HU.out]
            simpa [vals] using hown'
          clear hown' hgrow hown hbl
          (try go_wp2)
          go_roundw
          case rel => exact ⟨i + 1, by omega, by go_num, by rw [← HUU.out]; exact R2.1, R2.2⟩
          case measure => simp [intOf]; omega
        · have n0 : ((f : Int) == 0) = false := by rw [beq_eq_false_iff_ne]; omega
          have n1 : ((f : Int) == 1) = false := by rw [beq_eq_false_iff_ne]; omega
          have n2 : ((f : Int) == 2) = true := beq_iff_eq.2 (by omega)
          have hT := HT.out
          rw [hfe] at hT
          simp only [Pm.takenI] at hT
          clear hfe
          subst hT
          go_wp2_with fail
          refine hA1.mono ?_
          rintro e w' ⟨rfl, hw⟩
          subst w'
          go_wp2_with fail
          refine hA2.mono ?_
          rintro e w' ⟨rfl, hw⟩
          subst w'
          go_wp2_with fail
          refine hA3.mono ?_
          rintro e w' ⟨rfl, hw⟩
          subst w'
          clear hA1 hA2 hA3
          go_wp2_with (first | (go_at_call 109; refine (hnr _).mono ?_; rintro e w' ⟨rfl, hw⟩; subst w') | (at_builtin; refine wpList_append_own _ rfl _ _ 24 rfl B 3 i0 (.int .i64 0) 1 8 Tryz.underlying24 hi0 hz0 hz1 hz2 rfl (by decide) _ _ _ rfl (hown.alloc _) ⟨wr.heap.size, 0, none⟩ 1 1 [_] rfl rfl (cell_one_new _ _ _) (by intro u hu; simp at hu; subst hu; rfl) (by unfold maxLen; omega) (by omega) (by have := hbl.size; simp; omega) ?_; intro v' w2 hown' hgrow _))
          have R2 : w2.ownsRow B 3 1 v' (i + 1) (vals U') ∧ Below B w w2 := by
            refine ⟨?_, (hbl.alloc (by have := hbl.size; omega) _).grown hgrow (by have := hbl.size; simp; omega) (fun b hb => (hown.lt b hb).1)⟩
            rw [HU.out]
            simpa [vals] using hown'
          clear hown' hgrow hown hbl
          (try go_wp2)
          go_roundw
          case rel => exact ⟨i + 1, by omega, by go_num, by rw [← HUU.out]; exact R2.1, R2.2⟩
          case measure => simp [intOf]; omega
        · have n0 : ((f : Int) == 0) = false := by rw [beq_eq_false_iff_ne]; omega
          have n1 : ((f : Int) == 1) = false := by rw [beq_eq_false_iff_ne]; omega
          have n2 : ((f : Int) == 2) = false := by rw [beq_eq_false_iff_ne]; omega
          have n3 : ((f : Int) == 3) = true := beq_iff_eq.2 (by omega)
          have hT := HT.out
          rw [hfe] at hT
          simp only [Pm.takenI] at hT
          clear hfe
          subst hT
          go_wp2_with fail
          refine hA1.mono ?_
          rintro e w' ⟨rfl, hw⟩
          subst w'
          go_wp2_with fail
          refine hA2.mono ?_
          rintro e w' ⟨rfl, hw⟩
          subst w'
          go_wp2_with fail
          refine hA3.mono ?_
          rintro e w' ⟨rfl, hw⟩
          subst w'
          clear hA1 hA2 hA3
          go_wp2_with (first | (go_at_call 109; refine (hnr _).mono ?_; rintro e w' ⟨rfl, hw⟩; subst w') | (at_builtin; refine wpList_append_own _ rfl _ _ 24 rfl B 3 i0 (.int .i64 0) 1 8 Tryz.underlying24 hi0 hz0 hz1 hz2 rfl (by decide) _ _ _ rfl (hown.alloc _) ⟨wr.heap.size, 0, none⟩ 1 1 [_] rfl rfl (cell_one_new _ _ _) (by intro u hu; simp at hu; subst hu; rfl) (by unfold maxLen; omega) (by omega) (by have := hbl.size; simp; omega) ?_; intro v' w2 hown' hgrow _))
          have R2 : w2.ownsRow B 3 1 v' (i + 1) (vals U') ∧ Below B w w2 := by
            refine ⟨?_, (hbl.alloc (by have := hbl.size; omega) _).grown hgrow (by have := hbl.size; simp; omega) (fun b hb => (hown.lt b hb).1)⟩
            rw [HU.out]
            simpa [vals] using hown'
          clear hown' hgrow hown hbl
          (try go_wp2)
          go_roundw
          case rel => exact ⟨i + 1, by omega, by go_num, by rw [← HUU.out]; exact R2.1, R2.2⟩
          case measure => simp [intOf]; omega
        · have n0 : ((f : Int) == 0) = false := by rw [beq_eq_false_iff_ne]; omega
          have n1 : ((f : Int) == 1) = false := by rw [beq_eq_false_iff_ne]; omega
          have n2 : ((f : Int) == 2) = false := by rw [beq_eq_false_iff_ne]; omega
          have n3 : ((f : Int) == 3) = false := by rw [beq_eq_false_iff_ne]; omega
          have n4 : ((f : Int) == 4) = true := beq_iff_eq.2 (by omega)
          have hT := HT.out
          rw [hfe] at hT
          simp only [Pm.takenI] at hT
          clear hfe
          subst hT
          go_wp2_with fail
          refine hA1.mono ?_
          rintro e w' ⟨rfl, hw⟩
          subst w'
          go_wp2_with fail
          refine hA2.mono ?_
          rintro e w' ⟨rfl, hw⟩
          subst w'
          go_wp2_with fail
          refine hA3.mono ?_
          rintro e w' ⟨rfl, hw⟩
          subst w'
          clear hA1 hA2 hA3
          go_wp2_with (first | (go_at_call 109; refine (hnr _).mono ?_; rintro e w' ⟨rfl, hw⟩; subst w') | (at_builtin; refine wpList_append_own _ rfl _ _ 24 rfl B 3 i0 (.int .i64 0) 1 8 Tryz.underlying24 hi0 hz0 hz1 hz2 rfl (by decide) _ _ _ rfl (hown.alloc _) ⟨wr.heap.size, 0, none⟩ 1 1 [_] rfl rfl (cell_one_new _ _ _) (by intro u hu; simp at hu; subst hu; rfl) (by unfold maxLen; omega) (by omega) (by have := hbl.size; simp; omega) ?_; intro v' w2 hown' hgrow _))
          have R2 : w2.ownsRow B 3 1 v' (i + 1) (vals U') ∧ Below B w w2 := by
            refine ⟨?_, (hbl.alloc (by have := hbl.size; omega) _).grown hgrow (by have := hbl.size; simp; omega) (fun b hb => (hown.lt b hb).1)⟩
            rw [HU.out]
            simpa [vals] using hown'
          clear hown' hgrow hown hbl
          (try go_wp2)
          go_roundw
          case rel => exact ⟨i + 1, by omega, by go_num, by rw [← HUU.out]; exact R2.1, R2.2⟩
          case measure => simp [intOf]; omega
      · have hie : i = s.size := by omega
        subst hie
        have h4 : (f : Int) ≤ 4 := by omega
        have HE : Hid (_ ∧ _) := ⟨hown, hbl⟩
        clear hoi hoa hown hbl
        go_wp2
        exact bodyPost_ret (v := .tuple #[.slice oa s.size oc, .bool true]) (by simp [results, Tryz.results74, go_sem]) rfl (.ok HF.out (by rw [hB]; exact HE.out.1) (by rw [hB]; exact HE.out.2))
end Go.Proofs.YtmfijackgekioaaGreatDoor
