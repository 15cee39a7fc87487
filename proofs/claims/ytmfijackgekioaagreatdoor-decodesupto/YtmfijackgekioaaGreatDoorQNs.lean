import Derived.Test.YtmfijackgekioaaGreatDoorQNgNr9
import Derived.Test.YtmfijackgekioaaGreatDoorQLhLj3

/-
  The samples of a picture, all of them: the program. For Decodes.
-/
namespace Go.Proofs.YtmfijackgekioaaGreatDoor
open Go.RowKit Go.Maps

/-- What the samples come to. -/
inductive EndsS (m : Pm.Pic) (T : ByteArray) (on : Bool) (kd : Int) (pl : Nat) (w : World) : Ending → World → Prop
  | filt {w'} : Pm.pict m (byteAt T) on = none → Below w.heap.size w w' → EndsS m T on kd pl w (dies 15) w'
  | idx {w' l} : Pm.pict m (byteAt T) on = some l → kd = 3 → Pm.allB l ((pl : Int) / 3) = false → Below w.heap.size w w' → EndsS m T on kd pl w (dies 16) w'
  | ok {w' l G} : Pm.pict m (byteAt T) on = some l → (kd = 3 → Pm.allB l ((pl : Int) / 3) = true) → Lst w' G l → w.heap.size ≤ G → Below w.heap.size w w' → EndsS m T on kd pl w (.returned (.slice (some ⟨G, 0, none⟩) (m.W * m.H * m.n) (m.W * m.H * m.n))) w'
set_option maxRecDepth 100000 in
set_option maxHeartbeats 1000000 in
theorem samplesP (W H n dp : Nat) (kd : Int) (ps : Bool) (pa : Option Addr) (pl pc : Nat) (sv : Value) (T : ByteArray) (w : World) (tt : TypeId) (fr : Nat × Nat) (hTb : w.heap[0]? = some (.cells tab42 tt fr))
    (hol : Pm.raw W H ((n * dp : Nat) : Int) ps = (T.size : Int)) (hT : T.size ≤ 5000000) (hpl : pl ≤ 1000000000)
    (hch : Pm.chan kd dp = (n : Int)) (hn : 1 ≤ n ∧ n ≤ 4) (hW : 1 ≤ W ∧ W ≤ 5000) (hH : 1 ≤ H ∧ H ≤ 5000) :
    Calls Tryz.prog 91 #[img W H kd dp ps (.slice pa pl pc) sv, .string T] w fun e w' => EndsS ⟨W, H, n, dp⟩ T ps kd pl w e w' := by
  have hcs := fun u => chan28 kd dp u
  rw [hch] at hcs
  obtain ⟨N, hN⟩ : ∃ N, N = W * H * n := ⟨_, rfl⟩
  have hNb : N ≤ 100000000 := by
    rw [hN]
    have : W * H * n ≤ 5000 * 5000 * 4 := Nat.mul_le_mul (Nat.mul_le_mul hW.2 hH.2) hn.2
    omega
  obtain ⟨A, hA⟩ : ∃ A, A = W * H := ⟨_, rfl⟩
  have eA : (W : Int) * (H : Int) = (A : Int) := by rw [hA]; push_cast; rfl
  have hAb : A ≤ 25000000 := by
    rw [hA]
    have : W * H ≤ 5000 * 5000 := Nat.mul_le_mul hW.2 hH.2
    omega
  have wA : IntKind.i64.wrap (A : Int) = (A : Int) := IntWalk.i64_in _ (by omega)
  have eN : (A : Int) * (n : Int) = (N : Int) := by rw [hN, hA]; push_cast; rfl
  have wN : IntKind.i64.wrap (N : Int) = (N : Int) := IntWalk.i64_in _ (by omega)
  obtain ⟨Z, hZ⟩ : ∃ Z : List Value, Z = List.replicate N (.int .i64 0) := ⟨_, rfl⟩
  have hmk := fun u => make_m N (by omega) Z hZ u
  have HZ : Hid (Z = vals (List.replicate N 0)) := by show _ = _; rw [hZ, vals_replicate]
  have HN : Hid (N = W * H * n) := hN
  have HH : Hid (_ ∧ _) := ⟨hTb, hol⟩
  have q := four_boxes w (.cells (imgCells W H kd dp ps (.slice pa pl pc) sv) 30) (.cells #[.int .i64 (n : Nat)] 3) (.cells Z.toArray 3) (.cells #[.slice (some ⟨w.heap.size + 1 + 1, 0, none⟩) N N] 24)
  have HQ : Hid (_) := q
  clear hN hA hZ hTb hol q
  go_enter Tryz.func91, Tryz.ntmps91
  go_wp2_with fail
  refine (hcs _).mono ?_
  rintro e w' ⟨rfl, rfl⟩
  go_wp2_with fail
  have zv : ((((w.alloc (.cells (imgCells W H kd dp ps (.slice pa pl pc) sv) 30)).alloc (.cells #[.int .i64 (n : Nat)] 3)).alloc (.cells Z.toArray 3)).alloc (.cells #[.slice (some ⟨w.heap.size + 1 + 1, 0, none⟩) N N] 24)).heap.size = w.heap.size + 4 := by simp
  have HQ2 := HQ.out
  clear HQ
  revert HQ2 zv
  dsimp only [imgCells]
  generalize World.alloc _ (.cells #[.slice (some ⟨w.heap.size + 1 + 1, 0, none⟩) N N] 24) = v0
  intro zv HQ2
  obtain ⟨k0, q0, q1, q2, q3⟩ := HQ2
  rw [HZ.out] at q2
  have S0 : SEnv v0 w.heap.size (w.heap.size + 1 + 1 + 1) (w.heap.size + 1) (w.heap.size + 1 + 1) N W H n kd dp ps (.slice pa pl pc) sv := ⟨q0, q3, q1⟩
  have hTb0 := (k0.block _ (lt_of_block HH.out.1)).trans HH.out.1
  have hrow := eachRowP W H n dp kd ps (.slice pa pl pc) sv T w.heap.size (w.heap.size + 1 + 1 + 1) (w.heap.size + 1) (w.heap.size + 1 + 1) N v0 tt fr hTb0 S0 ⟨by omega, by omega, by omega⟩ q2 HH.out.2 hT HN.out hch hn hW hH
  have HS : Hid (_ ∧ _) := ⟨S0, k0⟩
  clear S0 k0 q0 q1 q2 q3 hTb0
  refine hrow.mono ?_
  rintro e w1 ⟨bR, hbR, u, hu, he⟩
  have hbel : Kp (fun k => k = w.heap.size + 1 + 1 ∨ k = bR) u w1 → Below w.heap.size w w1 := fun kp => (HS.out.2.trans (hu.mono (by omega))).trans (kp.below (by have := hu.size; omega) (fun k _ e => by omega))
  have HBel : Hid (_) := hbel
  have HU : Hid (_) := hu
  clear hbel hrow
  cases he with
  | no h1 k1 =>
    have HE : Hid (_ ∧ _) := ⟨h1, HBel.out k1⟩
    clear h1 k1 HBel
    go_wp2
    exact ⟨rfl, .filt HE.out.1 HE.out.2⟩
  | @ok _ l h1 l1 k1 =>
    have hfl := Pm.pict_fine _ _ _ _ h1
    have hll : l.length = N := by rw [hfl.1, HN.out]
    have S1 := (HS.out.1.below hu).kept (w' := w1) (fun j hj => k1.block j (by have := hu.size; omega) (by omega))
    obtain ⟨m0, m1, m2, m3, m4, m5, m6⟩ := cells7 S1.m
    have ms := S1.s.cell
    have HE : Hid (_ ∧ _ ∧ _) := ⟨h1, l1, HBel.out k1⟩
    have hab := fun e => allBelow51 (some ⟨w.heap.size + 1 + 1, 0, none⟩) N l e w1 (by rw [hll]; unfold maxLen; omega) l1.ints
    rw [hll] at hab
    have HNN : Hid (N = W * H * n) := HN.out
    clear h1 l1 k1 HBel hfl S1 hll hu
    by_cases h3 : kd = 3
    · subst h3
      have habb := hab ((pl : Int) / 3)
      have HAB : Hid (∃ b, b = Pm.allB l ((pl : Int) / 3)) := ⟨_, rfl⟩
      obtain ⟨b, hb⟩ := HAB.out
      rw [← hb] at habb
      have HB : Hid (b = Pm.allB l ((pl : Int) / 3)) := hb
      clear hb hab HAB
      cases b
      · go_wp2_with fail
        refine habb.mono ?_
        rintro e w' ⟨rfl, rfl⟩
        go_wp2
        exact ⟨rfl, .idx HE.out.1 rfl HB.out.symm HE.out.2.2⟩
      · go_wp2_with fail
        refine habb.mono ?_
        rintro e w' ⟨rfl, rfl⟩
        go_wp2
        go_ret
        rw [HNN.out]
        exact .ok HE.out.1 (fun _ => HB.out.symm) HE.out.2.1 (by omega) HE.out.2.2
    · have h3' : (kd == 3) = false := beq_eq_false_iff_ne.2 h3
      go_wp2
      go_ret
      rw [HNN.out]
      exact .ok HE.out.1 (fun e => absurd e h3) HE.out.2.1 (by omega) HE.out.2.2
end Go.Proofs.YtmfijackgekioaaGreatDoor
