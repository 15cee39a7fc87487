import Derived.Test.YtmfijackgekioaaGreatDoorQLg
import Derived.Test.YtmfijackgekioaaGreatDoorQWaWs5

/-
  The palette of a file: the program. For Decodes.
-/
namespace Go.Proofs.YtmfijackgekioaaGreatDoor
open Go.RowKit Go.Maps

/-- So many numbers are three each for 1 to m colours. -/
def coloursB (n m : Int) : Bool := decide (n % 3 = 0) && (decide (1 ≤ n / 3) && decide (n / 3 ≤ m))
/-- May the palette be there, or not? -/
def palOk (kd dp : Int) : Option ByteArray → Bool
  | none => !(kd == 3)
  | some p => if kd = 0 ∨ kd = 4 then false else if kd = 3 then coloursB p.size (Pm.two dp) else coloursB p.size 256

theorem cells4 {w : World} {T : Nat} {a b c d : Value} {t : TypeId} (h : w.heap[T]? = some (.cells #[a, b, c, d] t (0, 0))) :
    w.cell? ⟨T, 0, none⟩ = some a ∧ w.cell? ⟨T, 1, none⟩ = some b ∧ w.cell? ⟨T, 2, none⟩ = some c ∧ w.cell? ⟨T, 3, none⟩ = some d ∧ (∀ j, w.frozen? ⟨T, j, none⟩ = false) ∧ T < w.heap.size :=
  ⟨cell_of_row _ _ _ _ _ _ h, cell_of_row _ _ _ _ _ _ h, cell_of_row _ _ _ _ _ _ h, cell_of_row _ _ _ _ _ _ h, fun j => frozen_of_row w T j _ _ h, lt_of_block h⟩

set_option maxRecDepth 100000 in
set_option maxHeartbeats 1000000 in
theorem palFitsP (kd dp : Int) (P : Parts) (w : World) (hd : 1 ≤ dp ∧ dp ≤ 16) (hs : ∀ p, P.pal = some p → p.size ≤ 1000000000) :
    Calls Tryz.prog 129 #[.int .i64 kd, .int .i64 dp, partsV P] w fun e w' => e = .returned (.bool (palOk kd dp P.pal)) ∧ Below w.heap.size w w' := by
  obtain ⟨hdB, P0, Dt⟩ := P
  cases P0 with
  | none =>
    go_enter Tryz.func129, Tryz.ntmps129
    go_wp2
    go_ret
    exact ⟨rfl, below_alloc _ _⟩
  | some p =>
    have hps := hs p rfl
    have hr := Pm.two_range dp hd
    have hw := wrap_two dp hd
    have hw2 : IntKind.i64.wrap (2 ^ dp.toNat) = Pm.two dp := IntWalk.i64_in (Pm.two dp) (by omega)
    have HN : 0 ≤ (p.size : Int) ∧ (p.size : Int) ≤ 9223372036854775807 := by omega
    by_cases h0 : kd = 0
    · subst h0
      go_enter Tryz.func129, Tryz.ntmps129
      go_wp2
      go_ret
      exact ⟨rfl, below_alloc _ _⟩
    · have e0 : (kd == 0) = false := beq_eq_false_iff_ne.2 h0
      by_cases h4 : kd = 4
      · subst h4
        go_enter Tryz.func129, Tryz.ntmps129
        go_wp2
        go_ret
        exact ⟨rfl, below_alloc _ _⟩
      · have e4 : (kd == 4) = false := beq_eq_false_iff_ne.2 h4
        by_cases h3 : kd = 3
        · subst h3
          have kc := fun u => colours25 (p.size : Int) (Pm.two dp) u HN (coloursB p.size (Pm.two dp)) rfl
          have kd := fun u => colours25 (p.size : Int) (IntKind.i64.wrap (2 ^ dp.toNat)) u HN (coloursB p.size (Pm.two dp)) (by rw [hw2]; rfl)
          have HE : Hid (palOk 3 dp (some p) = coloursB p.size (Pm.two dp)) := rfl
          generalize coloursB p.size (Pm.two dp) = cB at *
          go_enter Tryz.func129, Tryz.ntmps129
          go_wp2
          go_quiet ((go_at_call 95; first | exact Calls.quiet_of_same (kc _) | exact Calls.quiet_of_same (kd _)))
          go_wp2
          go_ret
          exact ⟨ret_bool HE.out.symm, below_drewN (below_alloc _ _) _⟩
        · have e3 : (kd == 3) = false := beq_eq_false_iff_ne.2 h3
          have kc := fun u => colours25 (p.size : Int) 256 u HN (coloursB p.size 256) rfl
          have HE : Hid (palOk kd dp (some p) = coloursB p.size 256) := by show _ = _; unfold palOk; dsimp only; rw [if_neg (by omega), if_neg h3]
          generalize coloursB p.size 256 = cB at *
          go_enter Tryz.func129, Tryz.ntmps129
          go_wp2_with (go_at_call 95; refine (kc _).mono ?_; rintro e w' ⟨rfl, rfl⟩)
          go_ret
          exact ⟨ret_bool HE.out.symm, below_alloc _ _⟩
end Go.Proofs.YtmfijackgekioaaGreatDoor

/-
  The palette of a file, read: the program. For Decodes.
-/
namespace Go.Proofs.YtmfijackgekioaaGreatDoor
open Go.RowKit Go.Maps

theorem make_m (n : Nat) (hn : n ≤ 1000000000) (Z : List Value) (hZ : Z = List.replicate n (.int .i64 0)) (u : World) :
    (Instr.makeSlice 24 (.int .i64 (n : Int)) (.int .i64 (n : Int))).run Tryz.prog u =
      .ok (.slice (some ⟨u.heap.size, 0, none⟩) n n) (u.alloc (.cells Z.toArray 3)) := by
  obtain ⟨i0, hi, hz0, hz1, hz2⟩ := info_parts Tryz.info3
  have h := run_make (P := Tryz.prog) u 24 3 i0 (.int .i64 0) Tryz.underlying24 hi hz0 .i64 .i64 (n : Int) (n : Int) (by omega) (Int.le_refl _) (by rw [hz2]; omega) (by omega)
  have e2 : (madeCells #[Value.int .i64 0] n) = Z.toArray := by
    rw [hZ, ← toList_madeCells_one]
  simpa [hz1, Value.cells, e2] using h

/-- The palette's numbers. -/
def palL (p : ByteArray) : List Int := (List.range p.size).map fun j => (byteAt p j : Int)

/-- What reading the palette comes to. -/
inductive EndsL (kd dp : Int) (P : Parts) (w : World) : Ending → World → Prop
  | no {w'} : palOk kd dp P.pal = false → Below w.heap.size w w' → EndsL kd dp P w (dies 3) w'
  | none {w'} : palOk kd dp P.pal = true → kd ≠ 3 → Below w.heap.size w w' → EndsL kd dp P w (.returned (.slice .none 0 0)) w'
  | ok {w' p G} : palOk kd dp P.pal = true → kd = 3 → P.pal = some p → Lst w' G (palL p) → w.heap.size ≤ G → Below w.heap.size w w' → EndsL kd dp P w (.returned (.slice (some ⟨G, 0, .none⟩) p.size p.size)) w'

set_option maxRecDepth 100000 in
set_option maxHeartbeats 1000000 in
theorem readPaletteP (kd dp : Int) (P : Parts) (w : World) (hd : 1 ≤ dp ∧ dp ≤ 16) (hs : ∀ p, P.pal = some p → p.size ≤ 1000000000) :
    Calls Tryz.prog 90 #[.int .i64 kd, .int .i64 dp, partsV P] w fun e w' => EndsL kd dp P w e w' := by
  have hf := fun u => palFitsP kd dp P u hd hs
  have k0 := below_alloc w (.cells #[.string P.head, .bool P.pal.isSome, .string (P.pal.getD ⟨#[]⟩), .string P.data] 116)
  have q0 := blk_new w (.cells #[.string P.head, .bool P.pal.isSome, .string (P.pal.getD ⟨#[]⟩), .string P.data] 116)
  have HS : Hid (∀ p, P.pal = some p → p.size ≤ 1000000000) := hs
  have HP : Hid (palOk kd dp P.pal = palOk kd dp P.pal) := rfl
  clear hs hd
  generalize hok : palOk kd dp P.pal = ok at hf
  have HOK : Hid (palOk kd dp P.pal = ok) := hok
  have HK0 : Hid (_) := k0
  have HQ0 : Hid (_) := q0
  clear hok HP k0 q0
  go_enter Tryz.func90, Tryz.ntmps90
  go_wp2_with fail
  refine (hf _).mono ?_
  rintro e w1 ⟨rfl, hb1⟩
  have B1 : Below w.heap.size w w1 := HK0.out.trans (hb1.mono (by simp))
  have Q1 := (hb1.block _ (by simp)).trans HQ0.out
  clear hf hb1 HK0 HQ0
  cases ok
  · go_wp2
    exact ⟨rfl, .no HOK.out B1⟩
  · by_cases h3 : kd = 3
    · subst h3
      obtain ⟨hdB, P0, Dt⟩ := P
      cases P0 with
      | none => exact absurd (show (!((3 : Int) == 3)) = true from HOK.out) (by decide)
      | some p =>
        have hps := HS.out p rfl
        have Q2 : w1.heap[w.heap.size]? = some (.cells #[.string hdB, .bool true, .string p, .string Dt] 116 (0, 0)) := Q1
        obtain ⟨y0, y1, y2, y3, yf, yl⟩ := cells4 Q2
        obtain ⟨Z, hZ⟩ : ∃ Z : List Value, Z = List.replicate p.size (.int .i64 0) := ⟨_, rfl⟩
        have hmk := fun u => make_m p.size hps Z hZ u
        have HZ : Hid (Z = vals (part p.size 0 (fun j => (byteAt p j : Int)))) := by show _ = _; rw [hZ, part_zero, vals_replicate]
        have HC : Hid (w1.cell? ⟨w.heap.size, 2, none⟩ = some (.string p)) := y2
        have HB1 : Hid (Below w.heap.size w w1) := B1
        have HQ2 : Hid (_) := Q2
        clear hZ Q1 Q2 HS B1
        go_wp2
        go_loopw [8, 23] (fun _ i wr => ∃ k : Nat, k ≤ p.size ∧ i = .int .i64 k ∧ Lst wr w1.heap.size (part p.size k (fun j => (byteAt p j : Int))) ∧ Below w1.heap.size w1 wr) (fun _ i _ => p.size - (intOf i).toNat)
        case atStart => exact ⟨0, Nat.zero_le _, rfl, (blk_new w1 _).trans (by rw [HZ.out]), below_alloc _ _⟩
        case round =>
          obtain ⟨k, hk, rfl, hl, hb⟩ := hrel
          have c2 : wr.cell? ⟨w.heap.size, 2, none⟩ = some (.string p) := (hb.cell (p := ⟨w.heap.size, 2, none⟩) yl).trans HC.out
          by_cases hlt : k < p.size
          · obtain ⟨x, c1⟩ : ∃ x, wr.cell? ⟨w1.heap.size, k, none⟩ = some (.int .i64 x) := ⟨_, hl.cell k (by simp; omega)⟩
            have f1 : wr.frozen? ⟨w1.heap.size, k, none⟩ = false := frozen_of_row wr _ _ _ _ hl
            have hlk : (k : Int) < (p.size : Int) := by omega
            have gk := byteAt_eq p k hlt
            have lk := byteAt_lt p k
            have xk : IntKind.i64.wrap (byteAt p k : Int) = byteAt p k := IntWalk.i64_in _ (by omega)
            have HL : Hid (Lst (wr.setCell ⟨w1.heap.size, k, none⟩ (.int .i64 (byteAt p k))) w1.heap.size (part p.size (k + 1) (fun j => (byteAt p j : Int))) ∧ Below w1.heap.size w1 (wr.setCell ⟨w1.heap.size, k, none⟩ (.int .i64 (byteAt p k)))) := ⟨by rw [← part_set]; exact hl.set k _, hb.setCell (Nat.le_refl _) _⟩
            clear hl hb
            go_wp2
            go_roundw
            case rel => exact ⟨k + 1, by omega, by go_num, HL.out.1, HL.out.2⟩
            case measure => simp [intOf]; omega
          · have hke : k = p.size := by omega
            subst hke
            have HL : Hid (Lst wr w1.heap.size (palL p) ∧ Below w.heap.size w wr) := ⟨by rw [part_all] at hl; exact hl, HB1.out.trans (hb.mono HB1.out.size)⟩
            have hnl : ¬ (p.size : Int) < (p.size : Int) := by omega
            clear hl hb
            go_wp2
            go_ret
            exact .ok HOK.out rfl rfl HL.out.1 HB1.out.size HL.out.2
    · have e3 : (kd == 3) = false := beq_eq_false_iff_ne.2 h3
      go_wp2
      go_ret
      exact .none HOK.out h3 B1
end Go.Proofs.YtmfijackgekioaaGreatDoor

/-
  The document's chunks: letters, the head. For Decodes.
-/
namespace Go.Proofs.YtmfijackgekioaaGreatDoor
open Go.RowKit Go.Maps

set_option maxRecDepth 100000 in
set_option maxHeartbeats 400000 in
theorem letter70 (c : Nat) (w : World) :
    Calls Tryz.prog 70 #[.int .u8 c] w fun e w' => e = .returned (.bool (letterN c)) ∧ w' = w := by
  go_enter Tryz.func70, Tryz.ntmps70
  go_wp2
  all_goals go_ret
  all_goals refine ⟨ret_bool ?_, rfl⟩
  all_goals (unfold letterN; rw [Bool.eq_iff_iff]; simp_all; try omega)
end Go.Proofs.YtmfijackgekioaaGreatDoor
