import Derived.Test.YtmfijackgekioaaGreatQGeGk7
import Derived.BigQuiet

/-
  The longest copy that the finder finds: the program. For Deflates.
-/
namespace Go.Proofs.YtmfijackgekioaaGreat
open Go.RowKit Go.Maps

theorem five_boxes (w : World) (o0 o1 o2 o3 o4 : Obj) : Below w.heap.size w (((((w.alloc o0).alloc o1).alloc o2).alloc o3).alloc o4) ∧ (((((w.alloc o0).alloc o1).alloc o2).alloc o3).alloc o4).heap[w.heap.size]? = some o0 ∧ (((((w.alloc o0).alloc o1).alloc o2).alloc o3).alloc o4).heap[w.heap.size + 1]? = some o1 ∧ (((((w.alloc o0).alloc o1).alloc o2).alloc o3).alloc o4).heap[w.heap.size + 1 + 1]? = some o2 ∧ (((((w.alloc o0).alloc o1).alloc o2).alloc o3).alloc o4).heap[w.heap.size + 1 + 1 + 1]? = some o3 ∧ (((((w.alloc o0).alloc o1).alloc o2).alloc o3).alloc o4).heap[w.heap.size + 1 + 1 + 1 + 1]? = some o4 := by
  have a1 := blk_new (w.alloc o0) o1
  have a2 := blk_new ((w.alloc o0).alloc o1) o2
  have a3 := blk_new (((w.alloc o0).alloc o1).alloc o2) o3
  have a4 := blk_new ((((w.alloc o0).alloc o1).alloc o2).alloc o3) o4
  simp only [World.size_alloc] at a1 a2 a3 a4
  exact ⟨(((((Below.refl _ _).alloc (Nat.le_refl _) _).alloc (by simp) _).alloc (by simp; omega) _).alloc (by simp; omega) _).alloc (by simp; omega) _, (blk_old (blk_old (blk_old (blk_old (blk_new w o0) _) _) _) _), (blk_old (blk_old (blk_old a1 _) _) _), (blk_old (blk_old a2 _) _), (blk_old a3 _), a4⟩

/-- No shorter than what the period finds. -/
def More (T : List UInt8) (per p most l : Nat) : Prop := per ≤ p → per ≤ 32768 → ∀ m, m ≤ most → 3 ≤ m → (∀ k, k < m → T.getD (p + k) 0 = T.getD (p + k - per) 0) → m ≤ l
def BestP (T : List UInt8) (per p most l d : Nat) : Prop := BestOk T p most l d ∧ More T per p most l

theorem quiet_drew {P : Program} {f : FuncId} {args : Array Value} {w : World} {x : Nat} {v : Value} (h : Calls P f args (w.drewN x) fun e w' => e = .returned v ∧ ∃ n, w' = (w.drewN x).drewN n) : Calls P f args (w.drewN x) fun e w'' => e = .returned v ∧ ∃ n, w'' = w.drewN n :=
  h.mono fun _ _ ⟨he, n, hn⟩ => ⟨he, x + n, by rw [hn]; simp⟩

set_option maxRecDepth 100000 in
set_option maxHeartbeats 8000000 in
theorem longest87 (F M G en per N end_ : Nat) (T : ByteArray) (w : World) (h : Fd w F M G en per T N) (hNe : N ≤ end_) (he : end_ ≤ T.size) (hT : T.size ≤ 4500000) (hper : 0 < T.size → 1 ≤ per) (hpT : per ≤ 4500000) :
    Calls Tryz.prog 88 #[.pointer (some ⟨F, 0, none⟩), .int .i64 N, .int .i64 end_] w fun e w' => ∃ l d : Nat, e = .returned (.agg #[.int .i64 l, .int .i64 d]) ∧ BestP T.data.toList per N (min (end_ - N) 258) l d ∧ Below w.heap.size w w' := by
  have HH : Hid (Fd w F M G en per T N) := h
  have HT : Hid (N ≤ end_ ∧ end_ ≤ T.size ∧ T.size ≤ 4500000) := ⟨hNe, he, hT⟩
  have HPER : Hid (0 < T.size → 1 ≤ per) := hper
  obtain ⟨x, w1⟩ : ∃ x, IntKind.i64.wrap ((end_ : Int) - (N : Int)) = x := ⟨_, rfl⟩
  have hxe : x = ((end_ - N : Nat) : Int) := by rw [← w1]; exact (IntWalk.i64_in _ (by omega)).trans (by omega)
  obtain ⟨m, hm⟩ : ∃ m, min (end_ - N) 258 = m := ⟨_, rfl⟩
  have HM : Hid (min (end_ - N) 258 = m) := hm
  have hmi : min x 258 = (m : Int) := by omega
  obtain ⟨mn, hmn⟩ : ∃ mn, min (N : Int) 32768 = mn := ⟨_, rfl⟩
  have HMN : Hid (mn = min (N : Int) 32768) := hmn.symm
  obtain ⟨pi, hpi⟩ : ∃ pi, IntKind.i64.wrap ((N : Int) - 32768) = pi := ⟨_, rfl⟩
  have hpe : pi = (N : Int) - 32768 := by rw [← hpi]; exact IntWalk.i64_in _ (by omega)
  obtain ⟨mx, hmx⟩ : ∃ mx, max pi 0 = mx := ⟨_, rfl⟩
  have HMX : Hid (mx = max ((N : Int) - 32768) 0) := by show _ = _; rw [← hmx, hpe]
  have HPN : Hid (per ≤ N → IntKind.i64.wrap ((N : Int) - (per : Int)) = ((N - per : Nat) : Int)) := fun hh => (IntWalk.i64_in _ (by omega)).trans (by omega)
  rw [hm]
  have hcall := call104
  clear h hNe he hT hm hxe hpe hper hpT
  by_cases hm3 : (m : Int) < 3
  · obtain ⟨k0, _⟩ := five_boxes w (.cells #[.pointer (some ⟨F, 0, none⟩)] 97) (.cells #[.int .i64 (N : Nat)] 3) (.cells #[.int .i64 1, .int .i64 0] 101) (.cells #[.int .i64 1, .int .i64 0] 101) (.cells #[.int .i64 (m : Nat)] 3)
    go_enter Tryz.func88, Tryz.ntmps88
    go_wp2
    refine bodyPost_ret (v := .agg #[.int .i64 ((1 : Nat) : Int), .int .i64 ((0 : Nat) : Int)]) ?_ rfl ⟨1, 0, rfl, ⟨.inl ⟨rfl, rfl⟩, fun _ _ x h1 h2 => by omega⟩, k0⟩
    simp [results, Tryz.results88, go_sem]
  · obtain ⟨k0, q0, q1, q2, q3, q4⟩ := five_boxes w (.cells #[.pointer (some ⟨F, 0, none⟩)] 97) (.cells #[.int .i64 (N : Nat)] 3) (.cells #[.int .i64 0, .int .i64 0] 101) (.cells #[.int .i64 1, .int .i64 0] 101) (.cells #[.int .i64 (m : Nat)] 3)
    go_enter Tryz.func88, Tryz.ntmps88
    go_wp2_with fail
    generalize hwa : (((((w.alloc (.cells #[.pointer (some ⟨F, 0, none⟩)] 97)).alloc (.cells #[.int .i64 (N : Nat)] 3)).alloc (.cells #[.int .i64 0, .int .i64 0] 101)).alloc (.cells #[.int .i64 1, .int .i64 0] 101)).alloc (.cells #[.int .i64 (m : Nat)] 3)) = wa at *
    have TR0 : Tries wa (w.heap.size) (w.heap.size + 1) (w.heap.size + 1 + 1 + 1 + 1) (w.heap.size + 1 + 1 + 1) F N m 1 0 := ⟨q0, q1, q4, q3, by omega, by omega, by omega⟩
    have FD0 : Fd wa F M G en per T N := HH.out.below k0
    have HBO : Hid (BestOk T.data.toList N m 1 0) := .inl ⟨rfl, rfl⟩
    have cf0 := TR0.f.cell
    have cf1 := FD0.box.cells.2.2.2
    have cf2 := TR0.p.cell
    have HFD0 : Hid (Fd wa F M G en per T N) := FD0
    have HRE0 : Hid (wa.heap[w.heap.size + 1 + 1]? = some (.cells #[.int .i64 0, .int .i64 0] 101 (0, 0))) := q2
    clear q0 q1 q2 q3 q4 FD0 hwa
    go_quiet (fail)
    have HFDu : Hid (Fd (wa.drewN nq) F M G en per T N) := HFD0.out.kept (fun j _ => rfl)
    have TRu : Tries (wa.drewN nq) (w.heap.size) (w.heap.size + 1) (w.heap.size + 1 + 1 + 1 + 1) (w.heap.size + 1 + 1 + 1) F N m 1 0 := TR0.drewN nq
    have REu : Hid ((wa.drewN nq).heap[w.heap.size + 1 + 1]? = some (.cells #[.int .i64 0, .int .i64 0] 101 (0, 0))) := HRE0.out
    have BLu : Below w.heap.size w (wa.drewN nq) := below_drewN k0 nq
    generalize wa.drewN nq = u at *
    clear cf0 cf1 cf2 HFD0 HRE0 TR0 k0
    obtain ⟨l, d, TRu, HBO⟩ : ∃ l d : Nat, Tries u (w.heap.size) (w.heap.size + 1) (w.heap.size + 1 + 1 + 1 + 1) (w.heap.size + 1 + 1 + 1) F N m l d ∧ Hid (BestOk T.data.toList N m l d) := ⟨1, 0, TRu, HBO⟩
    by_cases hpn : (per : Int) ≤ mn
    · have hpw : IntKind.i64.wrap ((N : Int) - (per : Int)) = ((N - per : Nat) : Int) := HPN.out (by have := HMN.out; omega)
      have htry := try104 (w.heap.size) (w.heap.size + 1) (w.heap.size + 1 + 1 + 1 + 1) (w.heap.size + 1 + 1 + 1) F M en per N m l d (N - per) (some ⟨G, 0, none⟩) T u.drew (TRu.drewN 1) HFDu.out.box HT.out.2.2 (by have := HT.out; have := HM.out; have := HPER.out (by omega); have := HMN.out; omega) (by have := HMN.out; omega) (by have := HT.out; have := HM.out; omega) HBO.out
      have hS : u.drew.cell? ⟨w.heap.size, 0, none⟩ = some (.pointer (some ⟨F, 0, none⟩)) ∧ u.drew.cell? ⟨F, 3, none⟩ = some (.int .i64 (per : Nat)) ∧ u.drew.cell? ⟨w.heap.size + 1, 0, none⟩ = some (.int .i64 (N : Nat)) := ⟨TRu.f.cell, HFDu.out.box.cells.2.2.2, TRu.p.cell⟩
      have hlF := HFDu.out.lt
      have TRv : Tries u.drew (w.heap.size) (w.heap.size + 1) (w.heap.size + 1 + 1 + 1 + 1) (w.heap.size + 1 + 1 + 1) F N m l d := TRu.drewN 1
      have FDv : Fd u.drew F M G en per T N := HFDu.out.kept (fun j _ => rfl)
      have REv : u.drew.heap[w.heap.size + 1 + 1]? = some (.cells #[.int .i64 0, .int .i64 0] 101 (0, 0)) := REu.out
      have BLv : Below w.heap.size w u.drew := BLu.drew
      clear TRu HFDu REu BLu HBO
      have HBB : Hid (N - per + per = N) := by show _ = _; have := HMN.out; omega
      generalize N - per = bb at *
      go_wp2_with fail
      refine regionZ (by kernel_rfl) (fun u => u.cell? ⟨w.heap.size, 0, none⟩ = some (.pointer (some ⟨F, 0, none⟩)) ∧ u.cell? ⟨F, 3, none⟩ = some (.int .i64 (per : Nat)) ∧ u.cell? ⟨w.heap.size + 1, 0, none⟩ = some (.int .i64 (N : Nat))) 999 ?_
      generalize u.drew = v at *
      refine anyZ_take (i := 0) (v := ?_) rfl (by kernel_rfl) (by kernel_rfl) (by kernel_rfl) (by kernel_rfl) (fun _ _ _ h => h) (by kernel_rfl) ?_ hS ?_
      rotate_left
      · intro w hSw; (try dsimp only at hSw); go_simp; try with_reducible rfl
      try simp only [Act.put]
      refine anyZ_take (i := 1) (v := ?_) rfl (by kernel_rfl) (by kernel_rfl) (by kernel_rfl) (by kernel_rfl) (fun _ _ _ h => h) (by kernel_rfl) ?_ hS ?_
      rotate_left
      · intro w hSw; (try dsimp only at hSw); go_simp; try with_reducible rfl
      try simp only [Act.put]
      refine anyZ_take (i := 2) (v := ?_) rfl (by kernel_rfl) (by kernel_rfl) (by kernel_rfl) (by kernel_rfl) (fun _ _ _ h => h) (by kernel_rfl) ?_ hS ?_
      rotate_left
      · intro w hSw; (try dsimp only at hSw); go_simp; try with_reducible rfl
      try simp only [Act.put]
      refine anyZ_take (i := 3) (v := ?_) rfl (by kernel_rfl) (by kernel_rfl) (by kernel_rfl) (by kernel_rfl) (fun _ _ _ h => h) (by kernel_rfl) ?_ hS ?_
      rotate_left
      · intro w hSw; (try dsimp only at hSw); go_simp; try with_reducible rfl
      try simp only [Act.put]
      refine anyZ_take (i := 4) (v := ?_) rfl (by kernel_rfl) (by kernel_rfl) (by kernel_rfl) (by kernel_rfl) (fun _ _ _ h => h) (by kernel_rfl) ?_ hS ?_
      rotate_left
      · intro w hSw; (try dsimp only at hSw); go_simp; try with_reducible rfl
      try simp only [Act.put]
      refine anyZ_take (i := 5) (v := ?_) rfl (by kernel_rfl) (by kernel_rfl) (by kernel_rfl) (by kernel_rfl) (fun _ _ _ h => h) (by kernel_rfl) ?_ hS ?_
      rotate_left
      · intro w hSw; (try dsimp only at hSw); go_simp; try with_reducible rfl
      try simp only [Act.put]
      refine anyZ_take (i := 6) (v := ?_) rfl (by kernel_rfl) (by kernel_rfl) (by kernel_rfl) (by kernel_rfl) (fun _ _ _ h => h) (by kernel_rfl) ?_ hS ?_
      rotate_left
      · intro w hSw; (try dsimp only at hSw); go_simp; try with_reducible rfl
      try simp only [Act.put]
      refine anyZ_one (i := 7) (by kernel_rfl) rfl (fun K hK => ?_)
      go_simp
      refine htry.mono ?_
      rintro e u ⟨rfl, l, d, hbo, TRu, hmo, kp⟩
      have hFlt := HH.out.lt
      have fdu : Fd u F M G en per T N := FDv.kept (fun j hj => kp.block j (by have := BLv.size; rcases hj with rfl | rfl | rfl <;> omega) (fun e => by rcases hj with rfl | rfl | rfl <;> omega))
      have HFDu : Hid (Fd u F M G en per T N) := fdu
      have HBO : Hid (BestP T.data.toList per N m l d) := ⟨hbo, fun h1 h2 x h3 h4 h5 => hmo.2 x h3 h4 (fun k hk => by rw [h5 k hk, show N + k - per = bb + k by have := HBB.out; omega])⟩
      clear hmo HBB
      have REu : Hid (u.heap[w.heap.size + 1 + 1]? = some (.cells #[.int .i64 0, .int .i64 0] 101 (0, 0))) := (kp.block _ (lt_of_block REv) (by omega)).trans REv
      have BLu : Below w.heap.size w u := BLv.trans (kp.below BLv.size (fun k _ e => by omega))
      refine hK _ _ (fun _ => ⟨TRu.f.cell, fdu.box.cells.2.2.2, TRu.p.cell⟩) ?_
      clear hK K fdu hbo FDv REv BLv kp htry hS TRv
      refine anyZ_done (by kernel_rfl) ?_ _
      have HFD2 := HFDu.out
      obtain ⟨D, q, hM, hq, hk⟩ := HFD2.map
      obtain ⟨e0, e1, e2, e3⟩ := HFD2.box.cells
      have t0 := TRu.f.cell
      have t1 := TRu.p.cell
      have hTT := HT.out
      have hxm := HM.out
      have hfb := fun n => firstBytes106 F M en per (some ⟨G, 0, none⟩) T N (u.drewN n) HFD2.box (by omega) hTT.2.2
      have hkey := key32 (fbN T N) (fbN_lt T N)
      obtain ⟨cv, hb, hcv, hlk⟩ : ∃ (cv : Int) (hb : Bool), (hb = true → 0 ≤ cv ∧ cv < (N : Int) ∧ (N : Int) ≤ cv + 32768) ∧ ∀ n, (Instr.lookup 115 (.map (some M)) (.int .u32 (fbN T N : Nat)) true).run Tryz.prog (u.drewN n) = .ok (.tuple #[.int .i64 cv, .bool hb]) (u.drewN n) := by
        obtain ⟨cv, _, hat, _⟩ := hM.lookup_int keyed32 Tryz.underlying115 Tryz.underlying3 (zero3 u) hkey
        refine ⟨cv, Maps.has D (k32 (fbN T N)), fun hh => ?_, fun n => ?_⟩
        · obtain ⟨v, hv1, hv2, hv3, _⟩ := hk.val _ (fbN_lt T N) hh
          rw [hv1] at hat
          simp only [DataW.lit.injEq, Lit.int.injEq, true_and] at hat
          omega
        · obtain ⟨v, ps, hrun, hv⟩ := World.ownsMap.look_ok (w := u.drewN n) hM keyed32 Tryz.underlying115 (zero3 _) (plainElem_int Tryz.underlying3 (by decide)) hkey
          obtain ⟨c, rfl, hc, hwc⟩ := plainElem_int_inv Tryz.underlying3 hv
          rw [hat] at hc
          simp only [Prod.mk.injEq, DataW.lit.injEq, Lit.int.injEq, true_and] at hc
          rw [hrun, hc.1]
      clear hTT hxm hM hq hk HFD2 hkey
      generalize fbN T N = kx at *
      have HCV : Hid (hb = true → 0 ≤ cv ∧ cv < (N : Int) ∧ (N : Int) ≤ cv + 32768) := hcv
      clear hcv
      go_wp2_with fail
      go_quiet ((go_at_call 110; exact quiet_drew (hfb _)))
      have TRq : Hid (Tries (u.drewN nq) (w.heap.size) (w.heap.size + 1) (w.heap.size + 1 + 1 + 1 + 1) (w.heap.size + 1 + 1 + 1) F N m l d) := TRu.drewN nq
      have FDq : Hid (Fd (u.drewN nq) F M G en per T N) := HFDu.out.kept (fun j _ => rfl)
      have REq : Hid ((u.drewN nq).heap[w.heap.size + 1 + 1]? = some (.cells #[.int .i64 0, .int .i64 0] 101 (0, 0))) := REu.out
      have BLq : Below w.heap.size w (u.drewN nq) := below_drewN BLu nq
      generalize u.drewN nq = uq at *
      clear hlk hfb e0 e1 e2 e3 t0 t1 TRu HFDu REu BLu
      go_wp2
      go_loopw [10, 11, 12] (fun bv okv lv wr => ∃ (b : Int) (ok : Bool) (lf l d : Nat), bv = .int .i64 b ∧ okv = .bool ok ∧ lv = .int .i64 lf ∧ lf ≤ 48 ∧ Hid (ok = true → 0 ≤ b ∧ b < (N : Int) ∧ (N : Int) ≤ b + 32768) ∧ Hid (Tries wr (w.heap.size) (w.heap.size + 1) (w.heap.size + 1 + 1 + 1 + 1) (w.heap.size + 1 + 1 + 1) F N m l d) ∧ Hid (BestP T.data.toList per N m l d) ∧ Hid (Fd wr F M G en per T N) ∧ Hid (wr.heap[w.heap.size + 1 + 1]? = some (.cells #[.int .i64 0, .int .i64 0] 101 (0, 0))) ∧ Below w.heap.size w wr) (fun _ _ lv _ => (intOf lv).toNat)
      case atStart => exact ⟨cv, hb, 48, l, d, rfl, rfl, rfl, Nat.le_refl _, HCV, TRq, HBO, FDq, REq, BLq⟩
      case round =>
        clear TRq HBO FDq REq BLq HCV
        obtain ⟨b, ok, lf, l, d, rfl, rfl, rfl, hlf, HBV, HTR, HBO, HFD, HRES, hbl⟩ := hrel
        cases ok
        · obtain ⟨z0, z1, zf, zl⟩ := cells2 (HTR.out).b
          obtain ⟨r0, r1, rf, rl⟩ := cells2 HRES.out
          clear HFD HTR
          go_wp2
          refine bodyPost_ret (v := .agg #[.int .i64 (l : Nat), .int .i64 (d : Nat)]) ?_ rfl ⟨l, d, rfl, HBO.out, (hbl.setCell (p := ⟨w.heap.size + 1 + 1, 0, none⟩) (by dsimp only; omega) _).setCell (p := ⟨w.heap.size + 1 + 1, 1, none⟩) (by dsimp only; omega) _⟩
          simp [results, Tryz.results88, go_sem, r0, r1]
        · by_cases hl0 : 0 < lf
          · obtain ⟨z0, z1, zf, zl⟩ := cells2 (HTR.out).b
            have m0 := HTR.out.m.cell
            have hl0i : (lf : Int) > 0 := by omega
            by_cases hlm : l < m
            · obtain ⟨b, rfl⟩ : ∃ b' : Nat, b = (b' : Int) := ⟨b.toNat, by have := HBV.out rfl; omega⟩
              have hlmi : (l : Int) < (m : Int) := by omega
              have hbv := HBV.out rfl
              have hTT := HT.out
              have hxm := HM.out
              have htry := try104 (w.heap.size) (w.heap.size + 1) (w.heap.size + 1 + 1 + 1 + 1) (w.heap.size + 1 + 1 + 1) F M en per N m l d b (some ⟨G, 0, none⟩) T wr HTR.out HFD.out.box hTT.2.2 (by omega) (by omega) (by omega) HBO.out.1
              obtain ⟨r, hr⟩ : ∃ r, b % 32768 = r := ⟨_, rfl⟩
              have hrem : (b : Int).tmod 32768 = (r : Int) := by rw [Int.tmod_eq_emod_of_nonneg (by omega)]; omega
              have hren : r < en := by have := HFD.out.sz; omega
              have HXX : Hid (∀ x : Int, (x < (N : Int) ∨ x = 0) → mx ≤ x → 0 ≤ x ∧ x < (N : Int) ∧ (N : Int) ≤ x + 32768) := fun x h1 h2 => by have := HMX.out; omega
              clear hTT hxm hr hbv
              go_wp2_with fail
              refine htry.mono ?_
              rintro e w2 ⟨rfl, l2, d2, hbo2, tr2, hmo2, kp2⟩
              have hFlt := HH.out.lt
              have fd2 := HFD.out.kept (w' := w2) (fun j hj => kp2.block j (by have := hbl.size; rcases hj with rfl | rfl | rfl <;> omega) (fun e => by rcases hj with rfl | rfl | rfl <;> omega))
              have res2 : w2.heap[w.heap.size + 1 + 1]? = some (.cells #[.int .i64 0, .int .i64 0] 101 (0, 0)) := (kp2.block _ (lt_of_block HRES.out) (by omega)).trans HRES.out
              have bl2 : Below w.heap.size w w2 := hbl.trans (kp2.below hbl.size (fun k _ e => by omega))
              obtain ⟨f0, f1, f2, f3⟩ := fd2.box.cells
              obtain ⟨es, hes1, hes2, hes3⟩ := fd2.ear
              have ce := hes1.at_ r (by omega)
              have hesr := hes3 r
              have t0 := tr2.f.cell
              have t1 := tr2.p.cell
              have HTR2 : Hid (Tries w2 (w.heap.size) (w.heap.size + 1) (w.heap.size + 1 + 1 + 1 + 1) (w.heap.size + 1 + 1 + 1) F N m l2 d2) := tr2
              have HFD2 : Hid (Fd w2 F M G en per T N) := fd2
              have HBO2 : Hid (BestP T.data.toList per N m l2 d2) := ⟨hbo2, fun h1 h2 x h3 h4 h5 => Nat.le_trans (HBO.out.2 h1 h2 x h3 h4 h5) hmo2.1⟩
              clear hmo2
              have HRES2 : Hid (w2.heap[w.heap.size + 1 + 1]? = some (.cells #[.int .i64 0, .int .i64 0] 101 (0, 0))) := res2
              have HX2 := HXX.out (es.getD r 0) hesr.2
              have HX3 : Hid (mx ≤ es.getD r 0 → 0 ≤ es.getD r 0 ∧ es.getD r 0 < (N : Int) ∧ (N : Int) ≤ es.getD r 0 + 32768) := HX2
              have hreni : (r : Int) < (en : Int) := by omega
              generalize es.getD r 0 = xe at *
              clear z0 z1 zf zl m0 htry tr2 fd2 hbo2 res2 kp2 hes1 hes2 hes3 HBV HTR HBO HFD HRES hbl HXX HX2 hesr
              go_wp2
              go_roundw
              case rel => exact ⟨xe, _, lf - 1, l2, d2, rfl, rfl, by go_num, by omega, fun hh => HX3.out (by simpa using hh), HTR2, HBO2, HFD2, HRES2, bl2⟩
              case measure => simp [intOf]; omega
            · have hlmi : ¬ (l : Int) < (m : Int) := by omega
              obtain ⟨z0, z1, zf, zl⟩ := cells2 (HTR.out).b
              obtain ⟨r0, r1, rf, rl⟩ := cells2 HRES.out
              clear HFD HTR
              go_wp2
              refine bodyPost_ret (v := .agg #[.int .i64 (l : Nat), .int .i64 (d : Nat)]) ?_ rfl ⟨l, d, rfl, HBO.out, (hbl.setCell (p := ⟨w.heap.size + 1 + 1, 0, none⟩) (by dsimp only; omega) _).setCell (p := ⟨w.heap.size + 1 + 1, 1, none⟩) (by dsimp only; omega) _⟩
              simp [results, Tryz.results88, go_sem, r0, r1]
          · have hl0i : ¬ (lf : Int) > 0 := by omega
            obtain ⟨z0, z1, zf, zl⟩ := cells2 (HTR.out).b
            obtain ⟨r0, r1, rf, rl⟩ := cells2 HRES.out
            clear HFD HTR
            go_wp2
            refine bodyPost_ret (v := .agg #[.int .i64 (l : Nat), .int .i64 (d : Nat)]) ?_ rfl ⟨l, d, rfl, HBO.out, (hbl.setCell (p := ⟨w.heap.size + 1 + 1, 0, none⟩) (by dsimp only; omega) _).setCell (p := ⟨w.heap.size + 1 + 1, 1, none⟩) (by dsimp only; omega) _⟩
            simp [results, Tryz.results88, go_sem, r0, r1]
    · have HBO : Hid (BestP T.data.toList per N m l d) := ⟨HBO.out, fun h1 h2 => absurd (show (per : Int) ≤ mn by have := HMN.out; omega) hpn⟩
      have HFD2 := HFDu.out
      obtain ⟨D, q, hM, hq, hk⟩ := HFD2.map
      obtain ⟨e0, e1, e2, e3⟩ := HFD2.box.cells
      have t0 := TRu.f.cell
      have t1 := TRu.p.cell
      have hTT := HT.out
      have hxm := HM.out
      have hfb := fun n => firstBytes106 F M en per (some ⟨G, 0, none⟩) T N (u.drewN n) HFD2.box (by omega) hTT.2.2
      have hkey := key32 (fbN T N) (fbN_lt T N)
      obtain ⟨cv, hb, hcv, hlk⟩ : ∃ (cv : Int) (hb : Bool), (hb = true → 0 ≤ cv ∧ cv < (N : Int) ∧ (N : Int) ≤ cv + 32768) ∧ ∀ n, (Instr.lookup 115 (.map (some M)) (.int .u32 (fbN T N : Nat)) true).run Tryz.prog (u.drewN n) = .ok (.tuple #[.int .i64 cv, .bool hb]) (u.drewN n) := by
        obtain ⟨cv, _, hat, _⟩ := hM.lookup_int keyed32 Tryz.underlying115 Tryz.underlying3 (zero3 u) hkey
        refine ⟨cv, Maps.has D (k32 (fbN T N)), fun hh => ?_, fun n => ?_⟩
        · obtain ⟨v, hv1, hv2, hv3, _⟩ := hk.val _ (fbN_lt T N) hh
          rw [hv1] at hat
          simp only [DataW.lit.injEq, Lit.int.injEq, true_and] at hat
          omega
        · obtain ⟨v, ps, hrun, hv⟩ := World.ownsMap.look_ok (w := u.drewN n) hM keyed32 Tryz.underlying115 (zero3 _) (plainElem_int Tryz.underlying3 (by decide)) hkey
          obtain ⟨c, rfl, hc, hwc⟩ := plainElem_int_inv Tryz.underlying3 hv
          rw [hat] at hc
          simp only [Prod.mk.injEq, DataW.lit.injEq, Lit.int.injEq, true_and] at hc
          rw [hrun, hc.1]
      clear hTT hxm hM hq hk HFD2 hkey
      generalize fbN T N = kx at *
      have HCV : Hid (hb = true → 0 ≤ cv ∧ cv < (N : Int) ∧ (N : Int) ≤ cv + 32768) := hcv
      clear hcv
      go_wp2_with fail
      go_quiet ((go_at_call 110; exact quiet_drew (hfb _)))
      have TRq : Hid (Tries (u.drewN nq) (w.heap.size) (w.heap.size + 1) (w.heap.size + 1 + 1 + 1 + 1) (w.heap.size + 1 + 1 + 1) F N m l d) := TRu.drewN nq
      have FDq : Hid (Fd (u.drewN nq) F M G en per T N) := HFDu.out.kept (fun j _ => rfl)
      have REq : Hid ((u.drewN nq).heap[w.heap.size + 1 + 1]? = some (.cells #[.int .i64 0, .int .i64 0] 101 (0, 0))) := REu.out
      have BLq : Below w.heap.size w (u.drewN nq) := below_drewN BLu nq
      generalize u.drewN nq = uq at *
      clear hlk hfb e0 e1 e2 e3 t0 t1 TRu HFDu REu BLu
      go_wp2
      go_loopw [10, 11, 12] (fun bv okv lv wr => ∃ (b : Int) (ok : Bool) (lf l d : Nat), bv = .int .i64 b ∧ okv = .bool ok ∧ lv = .int .i64 lf ∧ lf ≤ 48 ∧ Hid (ok = true → 0 ≤ b ∧ b < (N : Int) ∧ (N : Int) ≤ b + 32768) ∧ Hid (Tries wr (w.heap.size) (w.heap.size + 1) (w.heap.size + 1 + 1 + 1 + 1) (w.heap.size + 1 + 1 + 1) F N m l d) ∧ Hid (BestP T.data.toList per N m l d) ∧ Hid (Fd wr F M G en per T N) ∧ Hid (wr.heap[w.heap.size + 1 + 1]? = some (.cells #[.int .i64 0, .int .i64 0] 101 (0, 0))) ∧ Below w.heap.size w wr) (fun _ _ lv _ => (intOf lv).toNat)
      case atStart => exact ⟨cv, hb, 48, l, d, rfl, rfl, rfl, Nat.le_refl _, HCV, TRq, HBO, FDq, REq, BLq⟩
      case round =>
        clear TRq HBO FDq REq BLq HCV
        obtain ⟨b, ok, lf, l, d, rfl, rfl, rfl, hlf, HBV, HTR, HBO, HFD, HRES, hbl⟩ := hrel
        cases ok
        · obtain ⟨z0, z1, zf, zl⟩ := cells2 (HTR.out).b
          obtain ⟨r0, r1, rf, rl⟩ := cells2 HRES.out
          clear HFD HTR
          go_wp2
          refine bodyPost_ret (v := .agg #[.int .i64 (l : Nat), .int .i64 (d : Nat)]) ?_ rfl ⟨l, d, rfl, HBO.out, (hbl.setCell (p := ⟨w.heap.size + 1 + 1, 0, none⟩) (by dsimp only; omega) _).setCell (p := ⟨w.heap.size + 1 + 1, 1, none⟩) (by dsimp only; omega) _⟩
          simp [results, Tryz.results88, go_sem, r0, r1]
        · by_cases hl0 : 0 < lf
          · obtain ⟨z0, z1, zf, zl⟩ := cells2 (HTR.out).b
            have m0 := HTR.out.m.cell
            have hl0i : (lf : Int) > 0 := by omega
            by_cases hlm : l < m
            · obtain ⟨b, rfl⟩ : ∃ b' : Nat, b = (b' : Int) := ⟨b.toNat, by have := HBV.out rfl; omega⟩
              have hlmi : (l : Int) < (m : Int) := by omega
              have hbv := HBV.out rfl
              have hTT := HT.out
              have hxm := HM.out
              have htry := try104 (w.heap.size) (w.heap.size + 1) (w.heap.size + 1 + 1 + 1 + 1) (w.heap.size + 1 + 1 + 1) F M en per N m l d b (some ⟨G, 0, none⟩) T wr HTR.out HFD.out.box hTT.2.2 (by omega) (by omega) (by omega) HBO.out.1
              obtain ⟨r, hr⟩ : ∃ r, b % 32768 = r := ⟨_, rfl⟩
              have hrem : (b : Int).tmod 32768 = (r : Int) := by rw [Int.tmod_eq_emod_of_nonneg (by omega)]; omega
              have hren : r < en := by have := HFD.out.sz; omega
              have HXX : Hid (∀ x : Int, (x < (N : Int) ∨ x = 0) → mx ≤ x → 0 ≤ x ∧ x < (N : Int) ∧ (N : Int) ≤ x + 32768) := fun x h1 h2 => by have := HMX.out; omega
              clear hTT hxm hr hbv
              go_wp2_with fail
              refine htry.mono ?_
              rintro e w2 ⟨rfl, l2, d2, hbo2, tr2, hmo2, kp2⟩
              have hFlt := HH.out.lt
              have fd2 := HFD.out.kept (w' := w2) (fun j hj => kp2.block j (by have := hbl.size; rcases hj with rfl | rfl | rfl <;> omega) (fun e => by rcases hj with rfl | rfl | rfl <;> omega))
              have res2 : w2.heap[w.heap.size + 1 + 1]? = some (.cells #[.int .i64 0, .int .i64 0] 101 (0, 0)) := (kp2.block _ (lt_of_block HRES.out) (by omega)).trans HRES.out
              have bl2 : Below w.heap.size w w2 := hbl.trans (kp2.below hbl.size (fun k _ e => by omega))
              obtain ⟨f0, f1, f2, f3⟩ := fd2.box.cells
              obtain ⟨es, hes1, hes2, hes3⟩ := fd2.ear
              have ce := hes1.at_ r (by omega)
              have hesr := hes3 r
              have t0 := tr2.f.cell
              have t1 := tr2.p.cell
              have HTR2 : Hid (Tries w2 (w.heap.size) (w.heap.size + 1) (w.heap.size + 1 + 1 + 1 + 1) (w.heap.size + 1 + 1 + 1) F N m l2 d2) := tr2
              have HFD2 : Hid (Fd w2 F M G en per T N) := fd2
              have HBO2 : Hid (BestP T.data.toList per N m l2 d2) := ⟨hbo2, fun h1 h2 x h3 h4 h5 => Nat.le_trans (HBO.out.2 h1 h2 x h3 h4 h5) hmo2.1⟩
              clear hmo2
              have HRES2 : Hid (w2.heap[w.heap.size + 1 + 1]? = some (.cells #[.int .i64 0, .int .i64 0] 101 (0, 0))) := res2
              have HX2 := HXX.out (es.getD r 0) hesr.2
              have HX3 : Hid (mx ≤ es.getD r 0 → 0 ≤ es.getD r 0 ∧ es.getD r 0 < (N : Int) ∧ (N : Int) ≤ es.getD r 0 + 32768) := HX2
              have hreni : (r : Int) < (en : Int) := by omega
              generalize es.getD r 0 = xe at *
              clear z0 z1 zf zl m0 htry tr2 fd2 hbo2 res2 kp2 hes1 hes2 hes3 HBV HTR HBO HFD HRES hbl HXX HX2 hesr
              go_wp2
              go_roundw
              case rel => exact ⟨xe, _, lf - 1, l2, d2, rfl, rfl, by go_num, by omega, fun hh => HX3.out (by simpa using hh), HTR2, HBO2, HFD2, HRES2, bl2⟩
              case measure => simp [intOf]; omega
            · have hlmi : ¬ (l : Int) < (m : Int) := by omega
              obtain ⟨z0, z1, zf, zl⟩ := cells2 (HTR.out).b
              obtain ⟨r0, r1, rf, rl⟩ := cells2 HRES.out
              clear HFD HTR
              go_wp2
              refine bodyPost_ret (v := .agg #[.int .i64 (l : Nat), .int .i64 (d : Nat)]) ?_ rfl ⟨l, d, rfl, HBO.out, (hbl.setCell (p := ⟨w.heap.size + 1 + 1, 0, none⟩) (by dsimp only; omega) _).setCell (p := ⟨w.heap.size + 1 + 1, 1, none⟩) (by dsimp only; omega) _⟩
              simp [results, Tryz.results88, go_sem, r0, r1]
          · have hl0i : ¬ (lf : Int) > 0 := by omega
            obtain ⟨z0, z1, zf, zl⟩ := cells2 (HTR.out).b
            obtain ⟨r0, r1, rf, rl⟩ := cells2 HRES.out
            clear HFD HTR
            go_wp2
            refine bodyPost_ret (v := .agg #[.int .i64 (l : Nat), .int .i64 (d : Nat)]) ?_ rfl ⟨l, d, rfl, HBO.out, (hbl.setCell (p := ⟨w.heap.size + 1 + 1, 0, none⟩) (by dsimp only; omega) _).setCell (p := ⟨w.heap.size + 1 + 1, 1, none⟩) (by dsimp only; omega) _⟩
            simp [results, Tryz.results88, go_sem, r0, r1]
end Go.Proofs.YtmfijackgekioaaGreat
