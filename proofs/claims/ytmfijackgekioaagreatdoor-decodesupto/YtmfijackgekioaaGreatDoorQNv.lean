import Derived.Test.YtmfijackgekioaaGreatDoorQNkNu2
import Derived.Test.YtmfijackgekioaaGreatDoorQPmNy7
import Derived.Test.YtmfijackgekioaaGreatDoorQOaOc3

/-
  A picture's samples out of its rows: the document. For Decodes.
-/
namespace Go.Proofs.YtmfijackgekioaaGreatDoor
open Go.RowKit Go.Maps

/-- What the document's samples come to. -/
inductive EndsX (m : Pm.Pic) (T : ByteArray) (on : Bool) (w : World) : Ending → World → Prop
  | no {w'} : Pm.pict m (byteAt T) on = none → Below w.heap.size w w' → EndsX m T on w (.returned (.tuple #[.slice none 0 0, .int .i64 15])) w'
  | ok {w' l G} : Pm.pict m (byteAt T) on = some l → Lst w' G l → w.heap.size ≤ G → Below w.heap.size w w' → EndsX m T on w (.returned (.tuple #[.slice (some ⟨G, 0, none⟩) l.length l.length, .int .i64 0])) w'
/-- A list of numbers as a value. -/
structure IntL (w : World) (B : Nat) (v : Value) (l : List Int) : Prop where
  ex : ∃ ao cap, v = .slice ao l.length cap ∧ Ints w ao l ∧ ∀ a, ao = some a → l ≠ [] → B ≤ a.block ∧ a.block < w.heap.size
theorem own_intL {w : World} {base n : Nat} {v : Value} {zs : List Int} (h : w.ownsRow base 3 1 v n (vals zs)) : IntL w base v zs := by
  obtain ⟨ao, cap, e, hi, hl, ha⟩ := own_ints' h
  exact ⟨ao, cap, by rw [e, hl], hi, ha⟩
theorem IntL.kp {w w' : World} {B G : Nat} {v : Value} {l : List Int} (h : IntL w B v l) (k : Kp (· = G) w w') (hG : G < B) : IntL w' B v l := by
  obtain ⟨ao, cap, e, hi, ha⟩ := h.ex
  refine ⟨ao, cap, e, fun j hj => ?_, fun a ea hne => ⟨(ha a ea hne).1, Nat.lt_of_lt_of_le (ha a ea hne).2 k.size⟩⟩
  obtain ⟨b, off, eb, hc⟩ := hi j hj
  have hb := ha ⟨b, off, none⟩ eb (ne_of_lt hj)
  exact ⟨b, off, eb, (k.cell (p := ⟨b, off + j, none⟩) hb.2 (by dsimp only at hb ⊢; omega)).trans hc⟩
theorem IntL.mono {w : World} {B B' : Nat} {v : Value} {l : List Int} (h : IntL w B v l) (hB : B' ≤ B) : IntL w B' v l := by
  obtain ⟨ao, cap, e, hi, ha⟩ := h.ex
  exact ⟨ao, cap, e, hi, fun a ea hne => ⟨Nat.le_trans hB (ha a ea hne).1, (ha a ea hne).2⟩⟩
theorem IntL.below {w w' : World} {B : Nat} {v : Value} {l : List Int} (h : IntL w B v l) (k : Below w.heap.size w w') : IntL w' B v l := by
  obtain ⟨ao, cap, e, hi, ha⟩ := h.ex
  exact ⟨ao, cap, e, hi.below k (fun a ea hne => (ha a ea hne).2), fun a ea hne => ⟨(ha a ea hne).1, Nat.lt_of_lt_of_le (ha a ea hne).2 k.size⟩⟩
theorem unP_congr (f lead : Nat) (a x y : Nat → Int) : ∀ n, (∀ i, i < n → x i = y i) → Pm.unP f lead a x n = Pm.unP f lead a y n
  | 0, _ => rfl
  | n + 1, h => by rw [Pm.unP, Pm.unP, unP_congr f lead a x y n (fun i hi => h i (by omega)), h n (by omega)]
/-- Between two rows of the document. -/
structure PInv (m : Pm.Pic) (T : ByteArray) (P : Pm.Ps) (o : Nat) (l : List Int) (G : Nat) (w2 wr : World) (av : Value) (j : Nat) (s : Pm.RS) (al : List Int) : Prop where
  at_ : Pm.rowsP m (byteAt T) P o l j = some s
  ah : IntL wr (G + 1) av al
  ab : Pm.getI al = s.above
  ls : Lst wr G s.out
  kp : Kp (· = G) w2 wr
/-- What is known of a pass with columns. -/
structure PassK (W H n D : Nat) (ps : Bool) (i : Nat) (pq : Int) (P : Pm.Ps) (C R size : Nat) : Prop where
  cols : Pm.colsOf pq (min 8 H) W = Pm.stepsL P.c0 P.cs C
  lines : Pm.linesOf pq (min 8 W) H = Pm.stepsL P.r0 P.rs R
  c : P.C = C
  r : P.R = R
  inn : P.In W H
  sz : size = Pm.rowLen C (n * D)
theorem passK (W H n D : Nat) (ps : Bool) (i : Nat) (hi : i < Pm.pn ps) (hp : 0 < Pm.nC (Pm.pq ps i) (min 8 H) W) : PassK W H n D ps i (Pm.pq ps i) (Pm.psRef ⟨W, H, n, D⟩ ps i) (Pm.nC (Pm.pq ps i) (min 8 H) W) (Pm.nR (Pm.pq ps i) (min 8 W) H) (Pm.rowLen (Pm.nC (Pm.pq ps i) (min 8 H) W) (n * D)) := by
  obtain ⟨a1, a2⟩ := Pm.cols_ref ⟨W, H, n, D⟩ ps i hi hp
  obtain ⟨b1, b2⟩ := Pm.psRef_C ⟨W, H, n, D⟩ ps i hi hp
  refine ⟨?_, ?_, b1.symm, b2.symm, Pm.psRef_in _ _ _, rfl⟩
  · rw [b1]; exact a1
  · rw [b2]; exact a2
set_option maxRecDepth 100000 in
set_option maxHeartbeats 4000000 in
theorem pictureR (W H n D : Nat) (kd : Int) (ps : Bool) (pv sv : Value) (T : ByteArray) (w : World) (hol : Pm.raw W H ((n * D : Nat) : Int) ps = (T.size : Int)) (_hT : T.size ≤ 5000000)
    (hch : Pm.chan kd D = (n : Int)) (hn : 1 ≤ n ∧ n ≤ 4) (hW : 1 ≤ W ∧ W ≤ 5000) (hH : 1 ≤ H ∧ H ≤ 5000) :
    Calls Tryz.prog 40 #[img W H kd D ps pv sv, .string T] w fun e w' => EndsX ⟨W, H, n, D⟩ T ps w e w' := by
  have hcs := fun u => chan13 kd D u
  rw [hch] at hcs
  have hdp := isn_depth kd D (by rw [hch]; omega)
  have hld := lead_range W H n D hn hdp
  obtain ⟨N, hN⟩ : ∃ N, N = W * H * n := ⟨_, rfl⟩
  have hNb : N ≤ 100000000 := by
    rw [hN]
    have : W * H * n ≤ 5000 * 5000 * 4 := Nat.mul_le_mul (Nat.mul_le_mul hW.2 hH.2) hn.2
    omega
  obtain ⟨A, hA⟩ : ∃ A, A = W * H := ⟨_, rfl⟩
  have eA : (W : Int) * (H : Int) = (A : Int) := by rw [hA]; push_cast; rfl
  have hAb : A ≤ 25000000 := by
    rw [hA]
    have : W * H ≤ 5000 * 5000 := Nat.mul_le_mul hW.2 hH.2
    omega
  have wA : IntKind.i64.wrap (A : Int) = (A : Int) := IntWalk.i64_in _ (by omega)
  have eN : (A : Int) * (n : Int) = (N : Int) := by rw [hN, hA]; push_cast; rfl
  have wN : IntKind.i64.wrap (N : Int) = (N : Int) := IntWalk.i64_in _ (by omega)
  obtain ⟨lead, hlead⟩ : ∃ l, l = Pm.Pic.lead ⟨W, H, n, D⟩ := ⟨_, rfl⟩
  rw [← hlead] at hld
  obtain ⟨bt, hbt⟩ : ∃ bt, bt = n * D := ⟨_, rfl⟩
  have hbt64 : bt ≤ 64 := by
    rw [hbt]
    have : n * D ≤ 4 * 16 := Nat.mul_le_mul hn.2 (by omega)
    omega
  have ebt : (n : Int) * (D : Int) = (bt : Int) := by rw [hbt]; push_cast; rfl
  have wbt : IntKind.i64.wrap (bt : Int) = (bt : Int) := IntWalk.i64_in _ (by omega)
  have eld : ((bt : Int) + 7) / 8 = (lead : Int) := by rw [hlead, hbt]; unfold Pm.Pic.lead Pm.Pic.bits; push_cast; rfl
  obtain ⟨Z, hZ⟩ : ∃ Z : List Value, Z = List.replicate N (.int .i64 0) := ⟨_, rfl⟩
  have hmk := fun u => make_m N (by omega) Z hZ u
  have HZ : Hid (Z = vals (List.replicate N 0)) := by show _ = _; rw [hZ, vals_replicate]
  have hpas := fun u => passes33 ps u
  have q := two_boxes w (.cells (imgCells W H kd D ps pv sv) 30) (.cells Z.toArray 3)
  have HQ : Hid (_) := q
  have HP : Hid (N = W * H * n ∧ lead = Pm.Pic.lead ⟨W, H, n, D⟩ ∧ bt = n * D) := ⟨hN, hlead, hbt⟩
  have HR : Hid (_) := hol
  clear hN hA hZ q hlead hbt hol
  go_enter Tryz.func40, Tryz.ntmps40
  go_wp2_with fail
  refine (hcs _).mono ?_
  rintro e w' ⟨rfl, rfl⟩
  go_wp2_with fail
  refine (hpas _).mono ?_
  rintro e w1 ⟨rfl, hb1, hs1, hc1⟩
  simp only [World.size_alloc] at hb1 hs1 hc1
  obtain ⟨k0, q0, q1⟩ := HQ.out
  have kw1 : Below w.heap.size w w1 := k0.trans (hb1.mono (by omega))
  have m1 := (hb1.block w.heap.size (by omega)).trans q0
  have g1 := (hb1.block (w.heap.size + 1) (by omega)).trans q1
  rw [HZ.out] at g1
  have HW1 : Hid (_ ∧ _ ∧ _) := ⟨kw1, m1, g1⟩
  have hnp : Pm.pn ps ≤ 7 := by cases ps <;> decide
  obtain ⟨np, hnpe⟩ : ∃ np, np = Pm.pn ps := ⟨_, rfl⟩
  rw [← hnpe] at hc1 hnp ⊢
  have HNP : Hid (np = Pm.pn ps) := hnpe
  have HC1 : Hid (_) := hc1
  clear HQ k0 q0 q1 kw1 m1 g1 hb1 hcs hmk HZ hpas hnpe hc1
  go_wp2
  go_loopw [1, 10] (fun rv ix wr => ∃ (i : Nat) (l : List Int), i ≤ np ∧ ix = .int .i64 i ∧ rv = .string (T.extract (Pm.offR ⟨W, H, n, D⟩ ps i) T.size) ∧ Hid (Pm.pictR ⟨W, H, n, D⟩ (byteAt T) ps i = some l) ∧ Hid (Lst wr (w.heap.size + 1) l) ∧ Kp (· = w.heap.size + 1) w1 wr) (fun _ ix _ => np - (intOf ix).toNat)
  case atStart =>
    refine ⟨0, List.replicate N 0, Nat.zero_le _, rfl, ?_, ?_, HW1.out.2.2, Kp.refl _ _⟩
    · rw [show Pm.offR ⟨W, H, n, D⟩ ps 0 = 0 by unfold Pm.offR; split; rfl; rw [Nat.zero_mul]]
      congr 1
      apply ByteArray.ext
      simp
    · show some _ = some _
      rw [HP.out.1]
  case round =>
    obtain ⟨i, l, hi, rfl, rfl, HPk, HL, hkp⟩ := hrel
    by_cases hlt : i < np
    · have hlt' : (i : Int) < (np : Int) := by omega
      have hsz := hkp.size
      have mr := (hkp.block w.heap.size (by omega) (by omega)).trans HW1.out.2.1
      have cl : wr.cell? ⟨w.heap.size + 1 + 1, i, none⟩ = some (.int .i64 (Pm.pq ps i)) := (hkp.cell (p := ⟨w.heap.size + 1 + 1, i, none⟩) hs1 (by dsimp only; omega)).trans (HC1.out i hlt)
      obtain ⟨m0, m1, m2, m3, m4, m5, m6⟩ := cells7 mr
      have hpt := fun u => pointsR W H (Pm.pq ps i) u hW hH
      have HMR : Hid (_) := mr
      have HKP : Hid (_) := hkp
      obtain ⟨pq, hpq⟩ : ∃ pq, pq = Pm.pq ps i := ⟨_, rfl⟩
      rw [← hpq] at cl hpt
      have HPQ : Hid (pq = Pm.pq ps i) := hpq
      obtain ⟨o, ho⟩ : ∃ o, o = Pm.offR ⟨W, H, n, D⟩ ps i := ⟨_, rfl⟩
      rw [← ho]
      have HO : Hid (o = Pm.offR ⟨W, H, n, D⟩ ps i) := ho
      clear mr hkp hpq ho
      go_wp2
      have hS : wr.drew.cell? ⟨w.heap.size + 1 + 1, i, none⟩ = some (.int .i64 pq) ∧ wr.drew.cell? ⟨w.heap.size, 0, none⟩ = some (.int .i64 (W : Nat)) ∧ wr.drew.cell? ⟨w.heap.size, 1, none⟩ = some (.int .i64 (H : Nat)) := ⟨cl, m0, m1⟩
      refine regionZ (by kernel_rfl) (fun u => u.cell? ⟨w.heap.size + 1 + 1, i, none⟩ = some (.int .i64 pq) ∧ u.cell? ⟨w.heap.size, 0, none⟩ = some (.int .i64 (W : Nat)) ∧ u.cell? ⟨w.heap.size, 1, none⟩ = some (.int .i64 (H : Nat))) 99 ?_
      refine anyZ_takeT (i := 0) (t := 48) (v := ?_) (T := ?_) ?ht rfl rfl (by kernel_rfl) (by kernel_rfl) (by kernel_rfl) (by kernel_rfl) (fun _ _ _ h => h) (by kernel_rfl) ?hy hS ?_
      case hy => intro w hSw; (try dsimp only at hSw); go_simp; try with_reducible rfl
      case ht => go_simp; try with_reducible rfl
      refine anyZ_takeT (i := 1) (t := 49) (v := ?_) (T := ?_) ?ht rfl rfl (by kernel_rfl) (by kernel_rfl) (by kernel_rfl) (by kernel_rfl) (fun _ _ _ h => h) (by kernel_rfl) ?hy hS ?_
      case hy => intro w hSw; (try dsimp only at hSw); go_simp; try with_reducible rfl
      case ht => go_simp; try with_reducible rfl
      refine anyZ_takeT (i := 2) (t := 50) (v := ?_) (T := ?_) ?ht rfl rfl (by kernel_rfl) (by kernel_rfl) (by kernel_rfl) (by kernel_rfl) (fun _ _ _ h => h) (by kernel_rfl) ?hy hS ?_
      case hy => intro w hSw; (try dsimp only at hSw); go_simp; try with_reducible rfl
      case ht => go_simp; try with_reducible rfl
      refine anyZ_takeT (i := 3) (t := 51) (v := ?_) (T := ?_) ?ht rfl rfl (by kernel_rfl) (by kernel_rfl) (by kernel_rfl) (by kernel_rfl) (fun _ _ _ h => h) (by kernel_rfl) ?hy hS ?_
      case hy => intro w hSw; (try dsimp only at hSw); go_simp; try with_reducible rfl
      case ht => go_simp; try with_reducible rfl
      refine anyZ_takeT (i := 4) (t := 52) (v := ?_) (T := ?_) ?ht rfl rfl (by kernel_rfl) (by kernel_rfl) (by kernel_rfl) (by kernel_rfl) (fun _ _ _ h => h) (by kernel_rfl) ?hy hS ?_
      case hy => intro w hSw; (try dsimp only at hSw); go_simp; try with_reducible rfl
      case ht => go_simp; try with_reducible rfl
      refine anyZ_takeT (i := 5) (t := 53) (v := ?_) (T := ?_) ?ht rfl rfl (by kernel_rfl) (by kernel_rfl) (by kernel_rfl) (by kernel_rfl) (fun _ _ _ h => h) (by kernel_rfl) ?hy hS ?_
      case hy => intro w hSw; (try dsimp only at hSw); go_simp; try with_reducible rfl
      case ht => go_simp; try with_reducible rfl
      refine anyZ_takeT (i := 6) (t := 54) (v := ?_) (T := ?_) ?ht rfl rfl (by kernel_rfl) (by kernel_rfl) (by kernel_rfl) (by kernel_rfl) (fun _ _ _ h => h) (by kernel_rfl) ?hy hS ?_
      case hy => intro w hSw; (try dsimp only at hSw); go_simp; try with_reducible rfl
      case ht => go_simp; try with_reducible rfl
      refine anyZ_takeT (i := 7) (t := 55) (v := ?_) (T := ?_) ?ht rfl rfl (by kernel_rfl) (by kernel_rfl) (by kernel_rfl) (by kernel_rfl) (fun _ _ _ h => h) (by kernel_rfl) ?hy hS ?_
      case hy => intro w hSw; (try dsimp only at hSw); go_simp; try with_reducible rfl
      case ht => go_simp; try with_reducible rfl
      refine anyZ_one (i := 8) (by kernel_rfl) rfl (fun K hK => ?_)
      go_simp
      refine (hpt _).mono ?_
      rintro e w2 ⟨v1, v2, rfl, ho1, ho2, b2⟩
      have b2' : Below wr.heap.size wr w2 := (Below.refl _ wr).drew.trans b2
      have hS2 : w2.cell? ⟨w.heap.size + 1 + 1, i, none⟩ = some (.int .i64 pq) ∧ w2.cell? ⟨w.heap.size, 0, none⟩ = some (.int .i64 (W : Nat)) ∧ w2.cell? ⟨w.heap.size, 1, none⟩ = some (.int .i64 (H : Nat)) := ⟨(b2'.cell (p := ⟨w.heap.size + 1 + 1, i, none⟩) (by dsimp only; omega)).trans cl, (b2'.cell (p := ⟨w.heap.size, 0, none⟩) (by dsimp only; omega)).trans m0, (b2'.cell (p := ⟨w.heap.size, 1, none⟩) (by dsimp only; omega)).trans m1⟩
      refine hK _ _ (fun _ => hS2) ?_
      clear hK K hpt hS cl m0 m1 m2 m3 m4 m5 m6
      have hwd : w.heap.size + 1 + 1 ≤ wr.drew.heap.size := by show _ ≤ wr.heap.size; omega
      have i1 := (own_intL ho1).mono hwd
      have i2 := (own_intL ho2).mono hwd
      clear hwd
      obtain ⟨ao1, cp1, e1, _⟩ := i1.ex
      obtain ⟨ao2, cp2, e2, _⟩ := i2.ex
      have HI12 : Hid (_ ∧ _ ∧ _) := ⟨i1, i2, b2'⟩
      rw [Pm.colsOf_len] at e1
      rw [Pm.linesOf_len] at e2
      clear ho1 ho2 b2 b2' i1 i2
      subst e1 e2
      refine anyZ_takeT (i := 9) (t := 47) (v := ?_) (T := ?_) ?ht rfl rfl (by kernel_rfl) (by kernel_rfl) (by kernel_rfl) (by kernel_rfl) (fun _ _ _ h => h) (by kernel_rfl) ?hy hS2 ?_
      case hy => intro w hSw; (try dsimp only at hSw); go_simp; try with_reducible rfl
      case ht => go_simp; try with_reducible rfl
      refine anyZ_takeT (i := 10) (t := 57) (v := ?_) (T := ?_) ?ht rfl rfl (by kernel_rfl) (by kernel_rfl) (by kernel_rfl) (by kernel_rfl) (fun _ _ _ h => h) (by kernel_rfl) ?hy hS2 ?_
      case hy => intro w hSw; (try dsimp only at hSw); go_simp; try with_reducible rfl
      case ht => go_simp; try with_reducible rfl
      refine anyZ_takeT (i := 11) (t := 58) (v := ?_) (T := ?_) ?ht rfl rfl (by kernel_rfl) (by kernel_rfl) (by kernel_rfl) (by kernel_rfl) (fun _ _ _ h => h) (by kernel_rfl) ?hy hS2 ?_
      case hy => intro w hSw; (try dsimp only at hSw); go_simp; try with_reducible rfl
      case ht => go_simp; try with_reducible rfl
      refine anyZ_takeT (i := 12) (t := 11) (v := ?_) (T := ?_) ?ht rfl rfl (by kernel_rfl) (by kernel_rfl) (by kernel_rfl) (by kernel_rfl) (fun _ _ _ h => h) (by kernel_rfl) ?hy hS2 ?_
      case hy => intro w hSw; (try dsimp only at hSw); go_simp; try with_reducible rfl
      case ht => go_simp; try with_reducible rfl
      refine anyZ_takeT (i := 13) (t := 12) (v := ?_) (T := ?_) ?ht rfl rfl (by kernel_rfl) (by kernel_rfl) (by kernel_rfl) (by kernel_rfl) (fun _ _ _ h => h) (by kernel_rfl) ?hy hS2 ?_
      case hy => intro w hSw; (try dsimp only at hSw); go_simp; try with_reducible rfl
      case ht => go_simp; try with_reducible rfl
      refine anyZ_done (by kernel_rfl) ?_ _
      have hnC := Pm.nC_le pq (min 8 H) W
      have hnR := Pm.nR_le pq (min 8 W) H
      have hPK := fun (hp : 0 < Pm.nC pq (min 8 H) W) => passK W H n D ps i (by rw [← HNP.out]; exact hlt) (by rw [← HPQ.out]; exact hp)
      rw [← HPQ.out] at hPK
      have HPN : Hid (Pm.pictR ⟨W, H, n, D⟩ (byteAt T) ps (i + 1) = if 0 < Pm.nC pq (min 8 H) W then (Pm.rowsP ⟨W, H, n, D⟩ (byteAt T) (Pm.psRef ⟨W, H, n, D⟩ ps i) o l (Pm.psRef ⟨W, H, n, D⟩ ps i).R).map Pm.RS.out else some l) := by
        show (Pm.pictR _ _ _ i).bind _ = _
        rw [HPk.out]
        show Pm.passNextR _ _ _ _ _ = _
        unfold Pm.passNextR
        rw [← HPQ.out, ← HO.out]
      have HON : Hid (Pm.offR ⟨W, H, n, D⟩ ps (i + 1) = o + if 0 < Pm.nC pq (min 8 H) W then (Pm.psRef ⟨W, H, n, D⟩ ps i).R * (1 + Pm.rowLen (Pm.psRef ⟨W, H, n, D⟩ ps i).C (n * D)) else 0) := by
        show _ = _
        rw [Pm.offR_next ⟨W, H, n, D⟩ ps i (by rw [← HNP.out]; exact hlt) hW.1, ← HPQ.out, ← HO.out]
        rfl
      have HOE : Hid (Pm.offR ⟨W, H, n, D⟩ ps (i + 1) ≤ T.size) := by
        show _ ≤ _
        have h1 := Pm.offR_mono ⟨W, H, n, D⟩ ps hW.1 (i + 1) (np - (i + 1)) (by rw [← HNP.out]; omega)
        rw [show i + 1 + (np - (i + 1)) = np by omega, HNP.out] at h1
        have h2 := Pm.offR_end ⟨W, H, n, D⟩ ps
        have h3 : Pm.raw W H ((Pm.Pic.bits ⟨W, H, n, D⟩ : Nat) : Int) ps = (T.size : Int) := HR.out
        rw [h3] at h2
        omega
      generalize hPe : Pm.psRef ⟨W, H, n, D⟩ ps i = P at *
      obtain ⟨hi1, hi2, b2⟩ := HI12.out
      have sz2 := b2.size
      have m2 := (b2.block w.heap.size (by omega)).trans HMR.out
      obtain ⟨y0, y1, y2, y3, y4, y5, y6⟩ := cells7 m2
      have kp2 : Kp (· = w.heap.size + 1) w1 w2 := HKP.out.trans (Kp.ofBelow b2)
      have HL2 : Hid (Lst w2 (w.heap.size + 1) l) := (b2.block _ (lt_of_block HL.out)).trans HL.out
      obtain ⟨C, hC⟩ : ∃ C, C = Pm.nC pq (min 8 H) W := ⟨_, rfl⟩
      obtain ⟨R, hR⟩ : ∃ R, R = Pm.nR pq (min 8 W) H := ⟨_, rfl⟩
      rw [← hC] at hnC HPN HON hPK ⊢
      rw [← hR] at hnR hPK ⊢
      obtain ⟨cn, hcn⟩ : ∃ cn, cn = C * n := ⟨_, rfl⟩
      have ecn : (C : Int) * (n : Int) = (cn : Int) := by rw [hcn]; push_cast; rfl
      have hcnb : cn ≤ 20000 := by
        rw [hcn]
        have : C * n ≤ 5000 * 4 := Nat.mul_le_mul (by omega) hn.2
        omega
      have wcn : IntKind.i64.wrap (cn : Int) = (cn : Int) := IntWalk.i64_in _ (by omega)
      obtain ⟨cd, hcd⟩ : ∃ cd, cd = cn * D := ⟨_, rfl⟩
      have ecd : (cn : Int) * (D : Int) = (cd : Int) := by rw [hcd]; push_cast; rfl
      have hcdb : cd ≤ 320000 := by
        rw [hcd]
        have : cn * D ≤ 20000 * 16 := Nat.mul_le_mul hcnb (by omega)
        omega
      have wcd : IntKind.i64.wrap (cd : Int) = (cd : Int) := IntWalk.i64_in _ (by omega)
      obtain ⟨size, hsize⟩ : ∃ size, size = (cd + 7) / 8 := ⟨_, rfl⟩
      have esz : ((cd : Int) + 7) / 8 = (size : Int) := by omega
      have hszb : size ≤ 40001 := by omega
      have hrl : Pm.rowLen C (n * D) = size := by
        unfold Pm.rowLen
        rw [hsize, hcd, hcn, Nat.mul_assoc]
      have HCN : Hid (cn = C * n) := hcn
      have HM2 : Hid (_ ∧ _ ∧ _ ∧ _) := ⟨m2, kp2, hi1, hi2⟩
      clear HI12 HMR HKP HL m2 kp2 hi1 hi2 b2 hS2 hcn hsz
      by_cases hC0 : C = 0
      · have hs0 : size = 0 := by
          have h0 : cd = 0 := by rw [hcd, HCN.out, hC0, Nat.zero_mul, Nat.zero_mul]
          omega
        have HF : Hid (_ ∧ _ ∧ _ ∧ _) := ⟨HPN.out.trans (if_neg (by omega)), HON.out.trans (by rw [if_neg (by omega)]), HL2.out, HM2.out.2.1⟩
        have es0 : ((size : Int) == 0) = true := by rw [hs0]; rfl
        clear HPN HON hPK hs0 hC hR hcd hsize hC0 hrl
        go_wp2
        go_roundw
        case rel => exact ⟨i + 1, l, by omega, by go_num, by rw [HF.out.2.1, Nat.add_zero], HF.out.1, HF.out.2.2.1, HF.out.2.2.2⟩
        case measure => simp [intOf]; omega
      · have hCp : 0 < C := by omega
        have hs1' : 1 ≤ size := by
          have h1 : 1 * 1 ≤ cn := by rw [HCN.out]; exact Nat.mul_le_mul hCp hn.1
          have h2 : 1 * 1 ≤ cd := by rw [hcd]; exact Nat.mul_le_mul h1 (by omega)
          omega
        have es0 : ((size : Int) == 0) = false := by rw [beq_eq_false_iff_ne]; omega
        have PK := hPK hCp
        rw [hrl] at PK
        rw [if_pos hCp] at HPN HON
        have HPKK : Hid (_) := PK
        have HOE2 : Hid (o + R * (1 + size) ≤ T.size ∧ Pm.offR ⟨W, H, n, D⟩ ps (i + 1) = o + R * (1 + size)) := by
          have h1 := HON.out
          rw [PK.c, PK.r, hrl] at h1
          have h2 := HOE.out
          rw [h1] at h2
          exact ⟨h2, h1⟩
        clear hPK hC hR hcd hsize hrl PK HON HOE hC0
        go_wp2
        go_loopw [1, 14, 15] (fun rv av jx wr => ∃ (j : Nat) (s : Pm.RS) (al : List Int), j ≤ R ∧ jx = .int .i64 j ∧ rv = .string (T.extract (o + j * (1 + size)) T.size) ∧ Hid (PInv ⟨W, H, n, D⟩ T P o l (w.heap.size + 1) w2 wr av j s al)) (fun _ _ jx _ => R - (intOf jx).toNat)
        case atStart =>
          refine ⟨0, ⟨fun _ => 0, l⟩, [], Nat.zero_le _, rfl, by rw [Nat.zero_mul, Nat.add_zero], ⟨rfl, ⟨none, 0, rfl, fun j hj => absurd hj (Nat.not_lt_zero _), fun a e => by cases e⟩, by funext i; rfl, HL2.out, Kp.refl _ _⟩⟩
        case round =>
          obtain ⟨j, st, al, hj, rfl, rfl, HPI⟩ := hrel
          have HRP : Hid (_) := HPI.out.at_
          have HAL : Hid (_ ∧ _) := ⟨HPI.out.ah, HPI.out.ab⟩
          have HLS : Hid (_) := HPI.out.ls
          have hkp := HPI.out.kp
          clear HPI
          by_cases hltj : j < R
          · have hltj' : (j : Int) < (R : Int) := by omega
            have PK := HPKK.out
            have hlf := Pm.pictR_fine _ _ _ _ _ HPk.out
            have hfine := Pm.rowsP_fine _ _ _ _ _ hlf.2 _ _ HRP.out
            have hmb : Pm.rowLen P.C (Pm.Pic.bits ⟨W, H, n, D⟩) = size := by rw [PK.c]; exact PK.sz.symm
            obtain ⟨q, hq⟩ : ∃ q, q = o + j * (1 + size) := ⟨_, rfl⟩
            have hqs : q + 1 + size ≤ T.size := by
              have h1 := HOE2.out.1
              have h2 : (j + 1) * (1 + size) ≤ R * (1 + size) := Nat.mul_le_mul_right _ hltj
              rw [Nat.succ_mul] at h2
              omega
            rw [← hq]
            obtain ⟨aao, acap, aeq, aint, ablk⟩ := HAL.out.1.ex
            have hgr : ∀ i, 0 ≤ Pm.getI al i ∧ Pm.getI al i < 256 := fun i => by rw [HAL.out.2]; exact hfine.2.2 i
            have HNo : Hid (4 < byteAt T q → Pm.pictR ⟨W, H, n, D⟩ (byteAt T) ps (i + 1) = none) := fun h4 => by
              have h0 : Pm.rowsP ⟨W, H, n, D⟩ (byteAt T) P o l (j + 1) = none := by
                show (Pm.rowsP _ _ _ _ _ j).bind _ = none
                rw [HRP.out]
                show Pm.rowNext _ _ _ _ _ _ = none
                unfold Pm.rowNext
                rw [hmb, ← hq, if_pos h4]
              have h1 := Pm.rowsP_none _ _ _ _ _ (j + 1) h0 (P.R - (j + 1))
              rw [show j + 1 + (P.R - (j + 1)) = P.R by rw [PK.r]; omega] at h1
              rw [HPN.out, h1]
              rfl
            have HGo : Hid (¬ 4 < byteAt T q → Pm.rowsP ⟨W, H, n, D⟩ (byteAt T) P o l (j + 1) = some ⟨Pm.getI (Pm.unP (byteAt T q) lead (Pm.getI al) (fun i => ((byteAt T (q + 1 + i) : Nat) : Int)) size), Pm.putN P W n j (Pm.sampI (Pm.getI (Pm.unP (byteAt T q) lead (Pm.getI al) (fun i => ((byteAt T (q + 1 + i) : Nat) : Int)) size)) D) st.out (P.C * n)⟩) := fun h4 => by
              show (Pm.rowsP _ _ _ _ _ j).bind _ = _
              rw [HRP.out]
              show Pm.rowNext _ _ _ _ _ _ = _
              unfold Pm.rowNext
              rw [hmb, ← hq, if_neg h4, HAL.out.2, HP.out.2.1]
            obtain ⟨Rs, hRr⟩ : ∃ Rs, Rs = T.extract q T.size := ⟨_, rfl⟩
            have hRs : Rs.size = T.size - q := by rw [hRr]; exact tail_size T q
            have hf0 : byteAt Rs 0 = byteAt T q := by rw [hRr, byteAt_tail _ _ _ (by omega)]; rfl
            have hR0n : 0 < Rs.size := by omega
            have g0 := byteAt_eq Rs 0 hR0n
            have hR0 : (0 : Int) < (Rs.size : Int) := by omega
            have hRle : (1 : Int) + (size : Int) ≤ (Rs.size : Int) := by omega
            have ws1 : IntKind.i64.wrap (1 + (size : Int)) = 1 + (size : Int) := IntWalk.i64_in _ (by omega)
            have ws2 : (0 : Int) ≤ 1 + (size : Int) := by omega
            have ws3 : (1 : Int) ≤ 1 + (size : Int) := by omega
            have ws4 : (1 + (size : Int)).toNat = 1 + size := by omega
            have htt := tail_tail T q (1 + size) (by omega)
            rw [← hRr] at htt
            have hes : (Rs.extract 1 (1 + size)).size = size := by rw [ByteArray.size_extract]; omega
            have hun : ∀ f, Pm.unP f lead (Pm.getI al) (fun i => ((byteAt (Rs.extract 1 (1 + size)) i : Nat) : Int)) size = Pm.unP f lead (Pm.getI al) (fun i => ((byteAt T (q + 1 + i) : Nat) : Int)) size := fun f => unP_congr _ _ _ _ _ _ (fun i hi => by
              rw [byteAt_extract Rs 1 (1 + size) i (by omega) (by omega), hRr, byteAt_tail _ _ _ (by omega)]
              congr 2
              omega)
            have hcu := fun u hu (hz : ∀ b, aao = some b → al ≠ [] → b.block < u.heap.size) => unfilteredR (byteAt Rs 0) lead (Rs.extract 1 (1 + size)) aao acap al u hu hz hgr (by omega) (by omega) hld
            rw [hes] at hcu
            rw [hf0] at g0 hcu
            obtain ⟨f, hf⟩ : ∃ f, f = byteAt T q := ⟨_, rfl⟩
            rw [← hf] at g0 hcu HNo HGo
            have fl : f < 256 := by rw [hf]; exact byteAt_lt _ _
            have wfl : IntKind.i64.wrap (f : Int) = (f : Int) := IntWalk.i64_in _ (by omega)
            have HTT : Hid (Rs.extract (1 + size) Rs.size = T.extract (o + (j + 1) * (1 + size)) T.size) := by
              show _ = _
              rw [htt, hq, Nat.succ_mul]
              congr 1
              omega
            rw [← hRr]
            have HUN : Hid (_) := hun f
            have hcr := hcu wr.drew (show Ints wr.drew aao al from aint) (fun b e hne => (ablk b e hne).2)
            have HW : Hid (_ ∧ _ ∧ _ ∧ _) := ⟨hkp, HLS.out, hfine.1.trans hlf.1, HAL.out.1⟩
            subst aeq
            clear hcu aint ablk hkp hfine hlf hmb hun hf hf0 hRr htt hq hgr HAL PK hRs
            go_wp2
            refine regionZ (by kernel_rfl) (fun _ => True) 99 ?_
            have hTr : True := trivial
            refine anyZ_takeT (i := 0) (t := 77) (v := ?_) (T := ?_) ?ht rfl rfl (by kernel_rfl) (by kernel_rfl) (by kernel_rfl) (by kernel_rfl) (fun _ _ _ h => h) (by kernel_rfl) ?hy hTr ?_
            case hy => intro w hSw; (try dsimp only at hSw); go_simp; try with_reducible rfl
            case ht => go_simp; try with_reducible rfl
            refine anyZ_takeT (i := 1) (t := 78) (v := ?_) (T := ?_) ?ht rfl rfl (by kernel_rfl) (by kernel_rfl) (by kernel_rfl) (by kernel_rfl) (fun _ _ _ h => h) (by kernel_rfl) ?hy hTr ?_
            case hy => intro w hSw; (try dsimp only at hSw); go_simp; try with_reducible rfl
            case ht => go_simp; try with_reducible rfl
            refine anyZ_takeT (i := 2) (t := 79) (v := ?_) (T := ?_) ?ht rfl rfl (by kernel_rfl) (by kernel_rfl) (by kernel_rfl) (by kernel_rfl) (fun _ _ _ h => h) (by kernel_rfl) ?hy hTr ?_
            case hy => intro w hSw; (try dsimp only at hSw); go_simp; try with_reducible rfl
            case ht => go_simp; try with_reducible rfl
            refine anyZ_takeT (i := 3) (t := 80) (v := ?_) (T := ?_) ?ht rfl rfl (by kernel_rfl) (by kernel_rfl) (by kernel_rfl) (by kernel_rfl) (fun _ _ _ h => h) (by kernel_rfl) ?hy hTr ?_
            case hy => intro w hSw; (try dsimp only at hSw); go_simp; try with_reducible rfl
            case ht => go_simp; try with_reducible rfl
            refine anyZ_takeT (i := 4) (t := 81) (v := ?_) (T := ?_) ?ht rfl rfl (by kernel_rfl) (by kernel_rfl) (by kernel_rfl) (by kernel_rfl) (fun _ _ _ h => h) (by kernel_rfl) ?hy hTr ?_
            case hy => intro w hSw; (try dsimp only at hSw); go_simp; try with_reducible rfl
            case ht => go_simp; try with_reducible rfl
            refine anyZ_takeT (i := 5) (t := 82) (v := ?_) (T := ?_) ?ht rfl rfl (by kernel_rfl) (by kernel_rfl) (by kernel_rfl) (by kernel_rfl) (fun _ _ _ h => h) (by kernel_rfl) ?hy hTr ?_
            case hy => intro w hSw; (try dsimp only at hSw); go_simp; try with_reducible rfl
            case ht => go_simp; try with_reducible rfl
            refine anyZ_takeT (i := 6) (t := 83) (v := ?_) (T := ?_) ?ht rfl rfl (by kernel_rfl) (by kernel_rfl) (by kernel_rfl) (by kernel_rfl) (fun _ _ _ h => h) (by kernel_rfl) ?hy hTr ?_
            case hy => intro w hSw; (try dsimp only at hSw); go_simp; try with_reducible rfl
            case ht => go_simp; try with_reducible rfl
            refine anyZ_takeT (i := 7) (t := 84) (v := ?_) (T := ?_) ?ht rfl rfl (by kernel_rfl) (by kernel_rfl) (by kernel_rfl) (by kernel_rfl) (fun _ _ _ h => h) (by kernel_rfl) ?hy hTr ?_
            case hy => intro w hSw; (try dsimp only at hSw); go_simp; try with_reducible rfl
            case ht => go_simp; try with_reducible rfl
            refine anyZ_takeT (i := 8) (t := 85) (v := ?_) (T := ?_) ?ht rfl rfl (by kernel_rfl) (by kernel_rfl) (by kernel_rfl) (by kernel_rfl) (fun _ _ _ h => h) (by kernel_rfl) ?hy hTr ?_
            case hy => intro w hSw; (try dsimp only at hSw); go_simp; try with_reducible rfl
            case ht => go_simp; try with_reducible rfl
            refine anyZ_one (i := 9) (by kernel_rfl) rfl (fun K hK => ?_)
            go_simp
            refine hcr.mono ?_
            intro e w3 he
            clear hcr
            cases he with
            | no h4 b3 =>
              have hnone := HNo.out h4
              have HD : Hid (Pm.pict ⟨W, H, n, D⟩ (byteAt T) ps = none ∧ Below w.heap.size w w3) := by
                have h5 := Pm.pictR_none _ _ _ (i + 1) hnone (np - (i + 1))
                rw [show i + 1 + (np - (i + 1)) = np by omega, HNP.out, Pm.pictR_eq _ _ _ hW.1] at h5
                refine ⟨h5, (HW1.out.1.trans (HM2.out.2.1.below (by have := HW1.out.1.size; omega) (fun k _ e => by omega))).trans ?_⟩
                have hb3 : Below wr.heap.size wr w3 := (Below.refl _ wr).drew.trans b3
                exact (HW.out.1.below (by have := HW1.out.1.size; have := HM2.out.2.1.size; omega) (fun k _ e => by omega)).trans (hb3.mono (by have := HW1.out.1.size; have := HM2.out.2.1.size; have := HW.out.1.size; omega))
              clear h4 b3 hnone
              refine hK _ _ (fun _ => trivial) ?_
              clear hK K
              refine anyZ_takeT (i := 10) (t := 76) (v := ?_) (T := ?_) ?ht rfl rfl (by kernel_rfl) (by kernel_rfl) (by kernel_rfl) (by kernel_rfl) (fun _ _ _ h => h) (by kernel_rfl) ?hy hTr ?_
              case hy => intro w hSw; (try dsimp only at hSw); go_simp; try with_reducible rfl
              case ht => go_simp; try with_reducible rfl
              refine anyZ_takeT (i := 11) (t := 87) (v := ?_) (T := ?_) ?ht rfl rfl (by kernel_rfl) (by kernel_rfl) (by kernel_rfl) (by kernel_rfl) (fun _ _ _ h => h) (by kernel_rfl) ?hy hTr ?_
              case hy => intro w hSw; (try dsimp only at hSw); go_simp; try with_reducible rfl
              case ht => go_simp; try with_reducible rfl
              refine anyZ_takeT (i := 12) (t := 88) (v := ?_) (T := ?_) ?ht rfl rfl (by kernel_rfl) (by kernel_rfl) (by kernel_rfl) (by kernel_rfl) (fun _ _ _ h => h) (by kernel_rfl) ?hy hTr ?_
              case hy => intro w hSw; (try dsimp only at hSw); go_simp; try with_reducible rfl
              case ht => go_simp; try with_reducible rfl
              refine anyZ_takeT (i := 13) (t := 16) (v := ?_) (T := ?_) ?ht rfl rfl (by kernel_rfl) (by kernel_rfl) (by kernel_rfl) (by kernel_rfl) (fun _ _ _ h => h) (by kernel_rfl) ?hy hTr ?_
              case hy => intro w hSw; (try dsimp only at hSw); go_simp; try with_reducible rfl
              case ht => go_simp; try with_reducible rfl
              refine anyZ_takeT (i := 14) (t := 17) (v := ?_) (T := ?_) ?ht rfl rfl (by kernel_rfl) (by kernel_rfl) (by kernel_rfl) (by kernel_rfl) (fun _ _ _ h => h) (by kernel_rfl) ?hy hTr ?_
              case hy => intro w hSw; (try dsimp only at hSw); go_simp; try with_reducible rfl
              case ht => go_simp; try with_reducible rfl
              refine anyZ_done (by kernel_rfl) ?_ _
              go_wp2
              exact bodyPost_ret (v := .tuple #[.slice none 0 0, .int .i64 15]) (by simp [results, Tryz.results40, go_sem]) rfl (.no HD.out.1 HD.out.2)
            | @ok _ v h4 own3 b3 =>
              have h4' : ¬ 4 < f := by omega
              have HG2 : Hid (_) := HGo.out h4'
              rw [HUN.out] at own3
              have b3' : Below wr.heap.size wr w3 := (Below.refl _ wr).drew.trans b3
              have i3 := own_intL own3
              have i3l := Pm.unP_len f lead (Pm.getI al) (fun i => ((byteAt T (q + 1 + i) : Nat) : Int)) size
              have i3r := fun i => Pm.unP_getI f lead (Pm.getI al) (fun i => ((byteAt T (q + 1 + i) : Nat) : Int)) size i
              have szr := HW.out.1.size
              have z12 := HM2.out.2.1.size
              generalize Pm.unP f lead (Pm.getI al) (fun i => ((byteAt T (q + 1 + i) : Nat) : Int)) size = r at *
              obtain ⟨vao, vcap, ev, vint, vblk⟩ := i3.ex
              rw [i3l] at ev
              have k23 : Kp (· = w.heap.size + 1) w2 w3 := HW.out.1.trans (Kp.ofBelow b3')
              have HK3 : Hid (_ ∧ _ ∧ _) := ⟨k23, (b3'.block _ (lt_of_block HW.out.2.1)).trans HW.out.2.1, (show IntL w3 (w.heap.size + 1 + 1) v r from ⟨vao, vcap, by rw [i3l]; exact ev, vint, fun a e hne => ⟨by have h1 := (vblk a e hne).1; have h2 : wr.drew.heap.size = wr.heap.size := rfl; omega, (vblk a e hne).2⟩⟩)⟩
              clear HGo own3 b3 b3' i3 k23 vint vblk
              subst ev
              refine hK _ _ (fun _ => trivial) ?_
              clear hK K
              refine anyZ_takeT (i := 10) (t := 76) (v := ?_) (T := ?_) ?ht rfl rfl (by kernel_rfl) (by kernel_rfl) (by kernel_rfl) (by kernel_rfl) (fun _ _ _ h => h) (by kernel_rfl) ?hy hTr ?_
              case hy => intro w hSw; (try dsimp only at hSw); go_simp; try with_reducible rfl
              case ht => go_simp; try with_reducible rfl
              refine anyZ_takeT (i := 11) (t := 87) (v := ?_) (T := ?_) ?ht rfl rfl (by kernel_rfl) (by kernel_rfl) (by kernel_rfl) (by kernel_rfl) (fun _ _ _ h => h) (by kernel_rfl) ?hy hTr ?_
              case hy => intro w hSw; (try dsimp only at hSw); go_simp; try with_reducible rfl
              case ht => go_simp; try with_reducible rfl
              refine anyZ_takeT (i := 12) (t := 88) (v := ?_) (T := ?_) ?ht rfl rfl (by kernel_rfl) (by kernel_rfl) (by kernel_rfl) (by kernel_rfl) (fun _ _ _ h => h) (by kernel_rfl) ?hy hTr ?_
              case hy => intro w hSw; (try dsimp only at hSw); go_simp; try with_reducible rfl
              case ht => go_simp; try with_reducible rfl
              refine anyZ_takeT (i := 13) (t := 16) (v := ?_) (T := ?_) ?ht rfl rfl (by kernel_rfl) (by kernel_rfl) (by kernel_rfl) (by kernel_rfl) (fun _ _ _ h => h) (by kernel_rfl) ?hy hTr ?_
              case hy => intro w hSw; (try dsimp only at hSw); go_simp; try with_reducible rfl
              case ht => go_simp; try with_reducible rfl
              refine anyZ_takeT (i := 14) (t := 17) (v := ?_) (T := ?_) ?ht rfl rfl (by kernel_rfl) (by kernel_rfl) (by kernel_rfl) (by kernel_rfl) (fun _ _ _ h => h) (by kernel_rfl) ?hy hTr ?_
              case hy => intro w hSw; (try dsimp only at hSw); go_simp; try with_reducible rfl
              case ht => go_simp; try with_reducible rfl
              refine anyZ_done (by kernel_rfl) ?_ _
              go_wp2
              go_loopw [18] (fun kx wk => ∃ k : Nat, k ≤ cn ∧ kx = .int .i64 k ∧ Hid (Lst wk (w.heap.size + 1) (Pm.putN P W n j (Pm.sampI (Pm.getI r) D) st.out k)) ∧ Kp (· = w.heap.size + 1) w3 wk) (fun kx _ => cn - (intOf kx).toNat)
              case atStart => exact ⟨0, Nat.zero_le _, rfl, HK3.out.2.1, Kp.refl _ _⟩
              case round =>
                obtain ⟨k, hk, rfl, HLk, hkk⟩ := hrel
                by_cases hltk : k < cn
                · have hltk' : (k : Int) < (cn : Int) := by omega
                  have PK := HPKK.out
                  obtain ⟨m2, kp2, hi1, hi2⟩ := HM2.out
                  have kall : Kp (· = w.heap.size + 1) w2 wr := HK3.out.1.trans hkk
                  have mk := (kall.block w.heap.size (lt_of_block m2) (by omega)).trans m2
                  have ic := hi1.kp kall (by omega)
                  have il := hi2.kp kall (by omega)
                  have ir := HK3.out.2.2.kp hkk (by omega)
                  obtain ⟨c1, cc1, ce, cint, cblk⟩ := ic.ex
                  obtain ⟨l1, lc1, le, lint, lblk⟩ := il.ex
                  obtain ⟨r1, rc1, re, rint, rblk⟩ := ir.ex
                  obtain ⟨z0, z1, z2, z3, z4, z5, z6⟩ := cells7 mk
                  obtain ⟨kq, hkq⟩ : ∃ kq, kq = k / n := ⟨_, rfl⟩
                  obtain ⟨kr, hkr⟩ : ∃ kr, kr = k % n := ⟨_, rfl⟩
                  have hkqC : kq < C := by rw [hkq, Nat.div_lt_iff_lt_mul (by omega), ← HCN.out]; exact hltk
                  have hkrn : kr < n := by rw [hkr]; exact Nat.mod_lt _ (by omega)
                  have ekq : (k : Int) / (n : Int) = (kq : Int) := by rw [hkq]; push_cast; rfl
                  have ekr : (k : Int) % (n : Int) = (kr : Int) := by rw [hkr]; push_cast; rfl
                  have ekq' : Int.tdiv (k : Int) (n : Int) = (kq : Int) := by rw [Int.tdiv_eq_ediv_of_nonneg (by omega)]; exact ekq
                  have ekr' : Int.tmod (k : Int) (n : Int) = (kr : Int) := by rw [Int.tmod_eq_emod_of_nonneg (by omega)]; exact ekr
                  have nz : ((n : Int) == 0) = false := by rw [beq_eq_false_iff_ne]; omega
                  have nz' : ¬ (n : Int) = 0 := by omega
                  have nzn : n ≠ 0 := by omega
                  have hcl : (Pm.colsOf pq (min 8 H) W).length = C := by rw [PK.cols]; simp [Pm.stepsL]
                  have hll : (Pm.linesOf pq (min 8 W) H).length = R := by rw [PK.lines]; simp [Pm.stepsL]
                  obtain ⟨cb, co, ceq, ccell⟩ := ints_get cint kq (by rw [hcl]; exact hkqC)
                  obtain ⟨lb, lo, leq, lcell⟩ := ints_get lint j (by rw [hll]; exact hltj)
                  rw [PK.cols, Pm.stepsL_get _ _ _ _ hkqC] at ccell
                  rw [PK.lines, Pm.stepsL_get _ _ _ _ hltj] at lcell
                  rw [hcl] at ce
                  rw [hll] at le
                  rw [i3l] at re
                  injection ce with ce1 _ ce3
                  injection le with le1 _ le3
                  injection re with re1 _ re3
                  have hidx := Pm.Ps.idx_lt PK.inn (j := j) (k := k) (n := n) (by rw [PK.r]; exact hltj) (by rw [PK.c, ← HCN.out]; exact hltk)
                  have hide : P.idx W n j k = ((P.r0 + j * P.rs) * W + (P.c0 + kq * P.cs)) * n + kr := by unfold Pm.Ps.idx; rw [← hkq, ← hkr]
                  have hV1 : P.r0 + j * P.rs < H := PK.inn.row j (by rw [PK.r]; exact hltj)
                  have hV2 : P.c0 + kq * P.cs < W := PK.inn.col kq (by rw [PK.c]; exact hkqC)
                  have hsi := Pm.samp_in C n D k hdp (by rw [← HCN.out]; exact hltk)
                  rw [← PK.sz] at hsi
                  obtain ⟨V1, hV1e⟩ : ∃ V1, V1 = P.r0 + j * P.rs := ⟨_, rfl⟩
                  obtain ⟨V2, hV2e⟩ : ∃ V2, V2 = P.c0 + kq * P.cs := ⟨_, rfl⟩
                  rw [← hV1e] at lcell hide hV1
                  rw [← hV2e] at ccell hide hV2
                  obtain ⟨B1, hB1⟩ : ∃ B1, B1 = V1 * W := ⟨_, rfl⟩
                  have eB1 : (V1 : Int) * (W : Int) = (B1 : Int) := by rw [hB1]; push_cast; rfl
                  have bB1 : B1 ≤ 25000000 := by
                    rw [hB1]
                    have : V1 * W ≤ 5000 * 5000 := Nat.mul_le_mul (by omega) hW.2
                    omega
                  obtain ⟨B2, hB2⟩ : ∃ B2, B2 = (B1 + V2) * n := ⟨_, rfl⟩
                  have eB2 : ((B1 : Int) + (V2 : Int)) * (n : Int) = (B2 : Int) := by rw [hB2]; push_cast; rfl
                  have bB2 : B2 ≤ 200000000 := by
                    rw [hB2]
                    have : (B1 + V2) * n ≤ 25005000 * 4 := Nat.mul_le_mul (by omega) hn.2
                    omega
                  obtain ⟨ix, hix⟩ : ∃ ix, ix = B2 + kr := ⟨_, rfl⟩
                  have hixe : P.idx W n j k = ix := by rw [hide, hix, hB2, hB1]
                  rw [hixe, ← HP.out.1] at hidx
                  have eix : (B2 : Int) + (kr : Int) = (ix : Int) := by omega
                  have wB1 : IntKind.i64.wrap (B1 : Int) = (B1 : Int) := IntWalk.i64_in _ (by omega)
                  have wBV : IntKind.i64.wrap ((B1 : Int) + (V2 : Int)) = (B1 : Int) + (V2 : Int) := IntWalk.i64_in _ (by omega)
                  have wB2 : IntKind.i64.wrap (B2 : Int) = (B2 : Int) := IntWalk.i64_in _ (by omega)
                  have wix : IntKind.i64.wrap (ix : Int) = (ix : Int) := IntWalk.i64_in _ (by omega)
                  have wkq : IntKind.i64.wrap (kq : Int) = (kq : Int) := IntWalk.i64_in _ (by omega)
                  have wkr : IntKind.i64.wrap (kr : Int) = (kr : Int) := IntWalk.i64_in _ (by omega)
                  have lix : (ix : Int) < (N : Int) := by omega
                  have lkq : (kq : Int) < (C : Int) := by omega
                  have hLk := HLk.out
                  have hlen : (Pm.putN P W n j (Pm.sampI (Pm.getI r) D) st.out k).length = N := by rw [Pm.putN_len, HW.out.2.2.1, HP.out.1]
                  obtain ⟨old, gc⟩ : ∃ x, wr.cell? ⟨w.heap.size + 1, ix, none⟩ = some (.int .i64 x) := ⟨_, hLk.cell ix (by rw [hlen]; exact hidx)⟩
                  have gf : wr.frozen? ⟨w.heap.size + 1, ix, none⟩ = false := frozen_of_row wr _ _ _ _ hLk
                  have hsa := fun u hu => sampleR r1 rc1 size k D r u hu i3l i3r hdp hsi (by omega) (by omega)
                  have HSet : Hid (∀ u : World, Lst u (w.heap.size + 1) (Pm.putN P W n j (Pm.sampI (Pm.getI r) D) st.out k) → Lst (u.setCell ⟨w.heap.size + 1, ix, none⟩ (.int .i64 (Pm.sampI (Pm.getI r) D k))) (w.heap.size + 1) (Pm.putN P W n j (Pm.sampI (Pm.getI r) D) st.out (k + 1))) := fun u hu => by
                    show Lst _ _ ((Pm.putN P W n j (Pm.sampI (Pm.getI r) D) st.out k).set (P.idx W n j k) _)
                    rw [hixe]
                    exact hu.set ix _
                  have HLL : Hid (_ ∧ _) := ⟨hLk, hkk⟩
                  obtain ⟨V, hV⟩ : ∃ V, V = Pm.sampI (Pm.getI r) D k := ⟨_, rfl⟩
                  rw [← hV] at hsa HSet
                  have HRI : Hid (Ints wr r1 r) := rint
                  have hsa1 := hsa wr.drew (show Ints wr.drew r1 r from rint)
                  rw [← re1, ← re3] at hsa1
                  subst ceq leq
                  subst ce1 le1
                  clear ce3 le3 PK m2 kp2 hi1 hi2 kall mk ic il ir cint cblk lint lblk rint rblk hcl hll hide hsi hV1e hV2e hB1 hB2 hix hixe hLk hlen hkk HLk hV hkq hkr hsa z1 z2 z4 z5 z6 hidx re1 re3
                  go_wp2
                  have hS : wr.drew.cell? ⟨lb, lo + j, none⟩ = some (.int .i64 (V1 : Nat)) ∧ wr.drew.cell? ⟨w.heap.size, 0, none⟩ = some (.int .i64 (W : Nat)) ∧ wr.drew.cell? ⟨cb, co + kq, none⟩ = some (.int .i64 (V2 : Nat)) ∧ wr.drew.cell? ⟨w.heap.size, 3, none⟩ = some (.int .i64 (D : Nat)) := ⟨lcell, z0, ccell, z3⟩
                  refine regionZ (by kernel_rfl) (fun u => u.cell? ⟨lb, lo + j, none⟩ = some (.int .i64 (V1 : Nat)) ∧ u.cell? ⟨w.heap.size, 0, none⟩ = some (.int .i64 (W : Nat)) ∧ u.cell? ⟨cb, co + kq, none⟩ = some (.int .i64 (V2 : Nat)) ∧ u.cell? ⟨w.heap.size, 3, none⟩ = some (.int .i64 (D : Nat))) 27 ?_
                  refine anyZ_takeT (i := 0) (t := 104) (v := ?_) (T := ?_) ?ht rfl rfl (by kernel_rfl) (by kernel_rfl) (by kernel_rfl) (by kernel_rfl) (fun _ _ _ h => h) (by kernel_rfl) ?hy hS ?_
                  case hy => intro w hSw; (try dsimp only at hSw); go_simp; try with_reducible rfl
                  case ht => go_simp; try with_reducible rfl
                  refine anyZ_takeT (i := 1) (t := 105) (v := ?_) (T := ?_) ?ht rfl rfl (by kernel_rfl) (by kernel_rfl) (by kernel_rfl) (by kernel_rfl) (fun _ _ _ h => h) (by kernel_rfl) ?hy hS ?_
                  case hy => intro w hSw; (try dsimp only at hSw); go_simp; try with_reducible rfl
                  case ht => go_simp; try with_reducible rfl
                  refine anyZ_takeT (i := 2) (t := 106) (v := ?_) (T := ?_) ?ht rfl rfl (by kernel_rfl) (by kernel_rfl) (by kernel_rfl) (by kernel_rfl) (fun _ _ _ h => h) (by kernel_rfl) ?hy hS ?_
                  case hy => intro w hSw; (try dsimp only at hSw); go_simp; try with_reducible rfl
                  case ht => go_simp; try with_reducible rfl
                  refine anyZ_takeT (i := 3) (t := 107) (v := ?_) (T := ?_) ?ht rfl rfl (by kernel_rfl) (by kernel_rfl) (by kernel_rfl) (by kernel_rfl) (fun _ _ _ h => h) (by kernel_rfl) ?hy hS ?_
                  case hy => intro w hSw; (try dsimp only at hSw); go_simp; try with_reducible rfl
                  case ht => go_simp; try with_reducible rfl
                  refine anyZ_takeT (i := 4) (t := 108) (v := ?_) (T := ?_) ?ht rfl rfl (by kernel_rfl) (by kernel_rfl) (by kernel_rfl) (by kernel_rfl) (fun _ _ _ h => h) (by kernel_rfl) ?hy hS ?_
                  case hy => intro w hSw; (try dsimp only at hSw); go_simp; try with_reducible rfl
                  case ht => go_simp; try with_reducible rfl
                  refine anyZ_takeT (i := 5) (t := 109) (v := ?_) (T := ?_) ?ht rfl rfl (by kernel_rfl) (by kernel_rfl) (by kernel_rfl) (by kernel_rfl) (fun _ _ _ h => h) (by kernel_rfl) ?hy hS ?_
                  case hy => intro w hSw; (try dsimp only at hSw); go_simp; try with_reducible rfl
                  case ht => go_simp; try with_reducible rfl
                  refine anyZ_takeT (i := 6) (t := 110) (v := ?_) (T := ?_) ?ht rfl rfl (by kernel_rfl) (by kernel_rfl) (by kernel_rfl) (by kernel_rfl) (fun _ _ _ h => h) (by kernel_rfl) ?hy hS ?_
                  case hy => intro w hSw; (try dsimp only at hSw); go_simp; try with_reducible rfl
                  case ht => go_simp; try with_reducible rfl
                  refine anyZ_takeT (i := 7) (t := 111) (v := ?_) (T := ?_) ?ht rfl rfl (by kernel_rfl) (by kernel_rfl) (by kernel_rfl) (by kernel_rfl) (fun _ _ _ h => h) (by kernel_rfl) ?hy hS ?_
                  case hy => intro w hSw; (try dsimp only at hSw); go_simp; try with_reducible rfl
                  case ht => go_simp; try with_reducible rfl
                  refine anyZ_takeT (i := 8) (t := 112) (v := ?_) (T := ?_) ?ht rfl rfl (by kernel_rfl) (by kernel_rfl) (by kernel_rfl) (by kernel_rfl) (fun _ _ _ h => h) (by kernel_rfl) ?hy hS ?_
                  case hy => intro w hSw; (try dsimp only at hSw); go_simp; try with_reducible rfl
                  case ht => go_simp; try with_reducible rfl
                  refine anyZ_takeT (i := 9) (t := 113) (v := ?_) (T := ?_) ?ht rfl rfl (by kernel_rfl) (by kernel_rfl) (by kernel_rfl) (by kernel_rfl) (fun _ _ _ h => h) (by kernel_rfl) ?hy hS ?_
                  case hy => intro w hSw; (try dsimp only at hSw); go_simp; try with_reducible rfl
                  case ht => go_simp; try with_reducible rfl
                  refine anyZ_takeT (i := 10) (t := 114) (v := ?_) (T := ?_) ?ht rfl rfl (by kernel_rfl) (by kernel_rfl) (by kernel_rfl) (by kernel_rfl) (fun _ _ _ h => h) (by kernel_rfl) ?hy hS ?_
                  case hy => intro w hSw; (try dsimp only at hSw); go_simp; try with_reducible rfl
                  case ht => go_simp; try with_reducible rfl
                  refine anyZ_takeT (i := 11) (t := 115) (v := ?_) (T := ?_) ?ht rfl rfl (by kernel_rfl) (by kernel_rfl) (by kernel_rfl) (by kernel_rfl) (fun _ _ _ h => h) (by kernel_rfl) ?hy hS ?_
                  case hy => intro w hSw; (try dsimp only at hSw); go_simp; try with_reducible rfl
                  case ht => go_simp; try with_reducible rfl
                  refine anyZ_takeT (i := 12) (t := 116) (v := ?_) (T := ?_) ?ht rfl rfl (by kernel_rfl) (by kernel_rfl) (by kernel_rfl) (by kernel_rfl) (fun _ _ _ h => h) (by kernel_rfl) ?hy hS ?_
                  case hy => intro w hSw; (try dsimp only at hSw); go_simp; try with_reducible rfl
                  case ht => go_simp; try with_reducible rfl
                  refine anyZ_takeT (i := 13) (t := 117) (v := ?_) (T := ?_) ?ht rfl rfl (by kernel_rfl) (by kernel_rfl) (by kernel_rfl) (by kernel_rfl) (fun _ _ _ h => h) (by kernel_rfl) ?hy hS ?_
                  case hy => intro w hSw; (try dsimp only at hSw); go_simp; try with_reducible rfl
                  case ht => go_simp; try with_reducible rfl
                  refine anyZ_takeT (i := 14) (t := 118) (v := ?_) (T := ?_) ?ht rfl rfl (by kernel_rfl) (by kernel_rfl) (by kernel_rfl) (by kernel_rfl) (fun _ _ _ h => h) (by kernel_rfl) ?hy hS ?_
                  case hy => intro w hSw; (try dsimp only at hSw); go_simp; try with_reducible rfl
                  case ht => go_simp; try with_reducible rfl
                  refine anyZ_takeT (i := 15) (t := 119) (v := ?_) (T := ?_) ?ht rfl rfl (by kernel_rfl) (by kernel_rfl) (by kernel_rfl) (by kernel_rfl) (fun _ _ _ h => h) (by kernel_rfl) ?hy hS ?_
                  case hy => intro w hSw; (try dsimp only at hSw); go_simp; try with_reducible rfl
                  case ht => go_simp; try with_reducible rfl
                  refine anyZ_takeT (i := 16) (t := 120) (v := ?_) (T := ?_) ?ht rfl rfl (by kernel_rfl) (by kernel_rfl) (by kernel_rfl) (by kernel_rfl) (fun _ _ _ h => h) (by kernel_rfl) ?hy hS ?_
                  case hy => intro w hSw; (try dsimp only at hSw); go_simp; try with_reducible rfl
                  case ht => go_simp; try with_reducible rfl
                  refine anyZ_takeT (i := 17) (t := 121) (v := ?_) (T := ?_) ?ht rfl rfl (by kernel_rfl) (by kernel_rfl) (by kernel_rfl) (by kernel_rfl) (fun _ _ _ h => h) (by kernel_rfl) ?hy hS ?_
                  case hy => intro w hSw; (try dsimp only at hSw); go_simp; try with_reducible rfl
                  case ht => go_simp; try with_reducible rfl
                  refine anyZ_takeT (i := 18) (t := 122) (v := ?_) (T := ?_) ?ht rfl rfl (by kernel_rfl) (by kernel_rfl) (by kernel_rfl) (by kernel_rfl) (fun _ _ _ h => h) (by kernel_rfl) ?hy hS ?_
                  case hy => intro w hSw; (try dsimp only at hSw); go_simp; try with_reducible rfl
                  case ht => go_simp; try with_reducible rfl
                  refine anyZ_takeT (i := 19) (t := 123) (v := ?_) (T := ?_) ?ht rfl rfl (by kernel_rfl) (by kernel_rfl) (by kernel_rfl) (by kernel_rfl) (fun _ _ _ h => h) (by kernel_rfl) ?hy hS ?_
                  case hy => intro w hSw; (try dsimp only at hSw); go_simp; try with_reducible rfl
                  case ht => go_simp; try with_reducible rfl
                  refine anyZ_takeT (i := 20) (t := 124) (v := ?_) (T := ?_) ?ht rfl rfl (by kernel_rfl) (by kernel_rfl) (by kernel_rfl) (by kernel_rfl) (fun _ _ _ h => h) (by kernel_rfl) ?hy hS ?_
                  case hy => intro w hSw; (try dsimp only at hSw); go_simp; try with_reducible rfl
                  case ht => go_simp; try with_reducible rfl
                  refine anyZ_takeT (i := 21) (t := 125) (v := ?_) (T := ?_) ?ht rfl rfl (by kernel_rfl) (by kernel_rfl) (by kernel_rfl) (by kernel_rfl) (fun _ _ _ h => h) (by kernel_rfl) ?hy hS ?_
                  case hy => intro w hSw; (try dsimp only at hSw); go_simp; try with_reducible rfl
                  case ht => go_simp; try with_reducible rfl
                  refine anyZ_takeT (i := 22) (t := 126) (v := ?_) (T := ?_) ?ht rfl rfl (by kernel_rfl) (by kernel_rfl) (by kernel_rfl) (by kernel_rfl) (fun _ _ _ h => h) (by kernel_rfl) ?hy hS ?_
                  case hy => intro w hSw; (try dsimp only at hSw); go_simp; try with_reducible rfl
                  case ht => go_simp; try with_reducible rfl
                  refine anyZ_takeT (i := 23) (t := 127) (v := ?_) (T := ?_) ?ht rfl rfl (by kernel_rfl) (by kernel_rfl) (by kernel_rfl) (by kernel_rfl) (fun _ _ _ h => h) (by kernel_rfl) ?hy hS ?_
                  case hy => intro w hSw; (try dsimp only at hSw); go_simp; try with_reducible rfl
                  case ht => go_simp; try with_reducible rfl
                  refine anyZ_takeT (i := 24) (t := 128) (v := ?_) (T := ?_) ?ht rfl rfl (by kernel_rfl) (by kernel_rfl) (by kernel_rfl) (by kernel_rfl) (fun _ _ _ h => h) (by kernel_rfl) ?hy hS ?_
                  case hy => intro w hSw; (try dsimp only at hSw); go_simp; try with_reducible rfl
                  case ht => go_simp; try with_reducible rfl
                  refine anyZ_one (i := 25) (by kernel_rfl) rfl (fun K hK => ?_)
                  go_simp
                  refine hsa1.mono ?_
                  rintro e v1 ⟨rfl, mm, hv1⟩
                  have hS2 : v1.cell? ⟨lb, lo + j, none⟩ = some (.int .i64 (V1 : Nat)) ∧ v1.cell? ⟨w.heap.size, 0, none⟩ = some (.int .i64 (W : Nat)) ∧ v1.cell? ⟨cb, co + kq, none⟩ = some (.int .i64 (V2 : Nat)) ∧ v1.cell? ⟨w.heap.size, 3, none⟩ = some (.int .i64 (D : Nat)) := by rw [hv1]; exact hS
                  have gc2 : v1.cell? ⟨w.heap.size + 1, ix, none⟩ = some (.int .i64 old) := by rw [hv1]; exact gc
                  have gf2 : v1.frozen? ⟨w.heap.size + 1, ix, none⟩ = false := by rw [hv1]; exact gf
                  have HQ : Hid (_ ∧ _) := ⟨HSet.out v1 (by rw [hv1]; exact HLL.out.1), (show Kp (· = w.heap.size + 1) w3 v1 by rw [hv1]; exact HLL.out.2.drew.drewN mm).setCell (p := ⟨w.heap.size + 1, ix, none⟩) (.inl rfl) (.int .i64 V)⟩
                  clear hv1 hsa1 HSet HLL gc gf
                  refine hK _ _ (fun _ => hS2) ?_
                  clear hK K
                  refine anyZ_takeT (i := 26) (t := 130) (v := ?_) (T := ?_) ?ht rfl rfl (by kernel_rfl) (by kernel_rfl) (by kernel_rfl) (by kernel_rfl) (fun _ _ _ h => h) (by kernel_rfl) ?hy hS2 ?_
                  case hy => intro w hSw; (try dsimp only at hSw); go_simp; try with_reducible rfl
                  case ht => go_simp; try with_reducible rfl
                  refine anyZ_one (i := 27) (by kernel_rfl) rfl (fun K hK => ?_)
                  go_simp
                  refine hK _ _ (fun h => absurd rfl h) ?_
                  clear hK K
                  refine anyZ_done (by kernel_rfl) ?_ _
                  clear hS hS2 gc2 gf2 lcell ccell z0 z3
                  go_wp2
                  go_roundw
                  case rel => exact ⟨k + 1, by omega, by go_num, HQ.out.1, HQ.out.2⟩
                  case measure => simp [intOf]; omega
                · have hke : k = cn := by omega
                  have hnlt : ¬ (k : Int) < (cn : Int) := by omega
                  have HF : Hid (PInv ⟨W, H, n, D⟩ T P o l (w.heap.size + 1) w2 wr (.slice vao size vcap) (j + 1) ⟨Pm.getI r, Pm.putN P W n j (Pm.sampI (Pm.getI r) D) st.out cn⟩ r) := by
                    refine ⟨?_, HK3.out.2.2.kp hkk (by omega), rfl, ?_, HK3.out.1.trans hkk⟩
                    · rw [HG2.out, HPKK.out.c, ← HCN.out]
                    · have := HLk.out
                      rw [hke] at this
                      exact this
                  clear HLk hkk HK3 HG2 hke
                  go_wp2
                  go_roundw
                  case rel =>
                    refine ⟨_, _, _, _, _, ?_, rfl, rfl, rfl, rfl, rfl⟩
                    exact ⟨j + 1, by omega, by push_cast; rfl, by rw [HTT.out], _, _, HF⟩
                  case measure => simp [intOf]; omega
          · have hje : j = R := by omega
            subst hje
            have HF : Hid (Pm.pictR ⟨W, H, n, D⟩ (byteAt T) ps (i + 1) = some st.out ∧ Lst wr (w.heap.size + 1) st.out ∧ Kp (· = w.heap.size + 1) w1 wr) := by
              refine ⟨?_, HLS.out, HM2.out.2.1.trans hkp⟩
              rw [HPN.out, HPKK.out.r, HRP.out]
              rfl
            obtain ⟨aao, acap, aeq, _⟩ := HAL.out.1.ex
            subst aeq
            have hnlt : ¬ (j : Int) < (j : Int) := by omega
            clear HAL HLS hkp HRP HPN
            go_wp2
            go_roundw
            case rel => exact ⟨i + 1, st.out, by omega, by go_num, by rw [HOE2.out.2], HF.out.1, HF.out.2.1, HF.out.2.2⟩
            case measure => simp [intOf]; omega
    · have hie : i = np := by omega
      subst hie
      have hfl := (Pm.pictR_fine _ _ _ _ _ HPk.out).1
      have hlN : l.length = N := by rw [hfl, HP.out.1]
      have HF : Hid (Pm.pict ⟨W, H, n, D⟩ (byteAt T) ps = some l ∧ Lst wr (w.heap.size + 1) l ∧ Below w.heap.size w wr) := by
        refine ⟨?_, HL.out, HW1.out.1.trans (hkp.below HW1.out.1.size (fun k _ e => by omega))⟩
        have := HPk.out
        rw [HNP.out, Pm.pictR_eq _ _ _ hW.1] at this
        exact this
      have HLN : Hid (_) := hlN
      have hnlt : ¬ (i : Int) < (i : Int) := by omega
      clear HPk HL hkp hfl hlN
      go_wp2
      refine bodyPost_ret (v := .tuple #[.slice (some ⟨w.heap.size + 1, 0, none⟩) l.length l.length, .int .i64 0]) (by rw [HLN.out]; simp [results, Tryz.results40, go_sem]) rfl (.ok HF.out.1 HF.out.2.1 (by omega) HF.out.2.2)
end Go.Proofs.YtmfijackgekioaaGreatDoor
