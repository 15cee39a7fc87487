import Derived.Test.YtmfijackgekioaaGreatDoorQUuUv2
import Derived.Defers
import Derived.Recover
import Derived.Test.YtmfijackgekioaaGreatDoorQSmRo4

/-
  Unpacking by the program.
-/
namespace Go.Proofs.YtmfijackgekioaaGreatDoor
open Go.RowKit Go.Maps

theorem infF_stop (L : List Int) (limit : Int) (f : Nat) (last : Int) (st : Rf.St) (h : last ≠ 0 ∨ (st.bad || st.full) = true) : Rf.infF L limit f last st = st := by
  cases f with
  | zero => rfl
  | succ f => rw [Rf.infF, if_pos h]
theorem infF_step (L : List Int) (limit : Int) (f : Nat) (st st1 st2 : Rf.St) (a k : Int) (hb : st.bad = false) (hf : st.full = false) (h1 : Rf.take L st 1 = (a, st1)) (h2 : Rf.take L st1 2 = (k, st2)) :
    Rf.infF L limit (f + 1) 0 st = if st2.bad = true then st2 else Rf.infF L limit f a (Rf.block L limit k { st2 with kinds := st2.kinds ++ [k] }) := by
  rw [Rf.infF, if_neg (by rw [hb, hf]; simp), h1]
  simp only
  rw [h2]

/-- How Bytes ends. -/
def EndsB (w : World) (F : Rf.St) (e : Ending) (w' : World) : Prop :=
  (F.bad = false ∧ F.full = false ∧ e = .returned (.tuple #[.string ⟨F.out.toArray⟩, .int .i64 (((F.pos + 7) / 8 : Nat) : Int)]) ∧ Below w.heap.size w w' ∧ F.pos ≤ 40000000 ∧ F.out.length ≤ 11000000000) ∨ ((F.bad || F.full) = true ∧ e = dies (code F) ∧ Below w.heap.size w w')

theorem once_not {w : World} {b : Nat} (h : Once w b) : (∀ c fr, w.heap[b + 1]? ≠ some (.cells c 5 fr)) ∧ (∀ c fr, w.heap[b + 2]? ≠ some (.cells c 5 fr)) := by
  rcases h.ex with ⟨g1, g2⟩ | ⟨M1, s1, l1, M2, s2, l2, g1, g2, _⟩
  · exact ⟨fun c fr => by rw [g1]; simp, fun c fr => by rw [g2]; simp⟩
  · exact ⟨fun c fr => by rw [g1]; simp, fun c fr => by rw [g2]; simp⟩
theorem bit_test (a : Int) (h : a = 0 ∨ a = 1) : (a == 1) = decide (a ≠ 0) := by rcases h with rfl | rfl <;> rfl

set_option maxRecDepth 100000 in
set_option maxHeartbeats 16000000 in
theorem bytes22 (s : ByteArray) (limit : Int) (w : World) (hs : s.size ≤ 5000000) (hl0 : -9223372036854775808 ≤ limit) (hl1 : limit ≤ 9223372036854775807) (hfx : Alike s fixP Rf.fixD) :
    Calls Tryz.prog 85 #[.string s, .int .i64 limit] w fun e w' => EndsB w (Rf.inflate (lw s) limit) e w' := by
  obtain ⟨RES, hRES⟩ : ∃ RES, RES = Rf.inflate (lw s) limit := ⟨_, rfl⟩
  rw [← hRES]
  have HR0 : Hid (RES = Rf.infF (lw s) limit (8 * s.size + 2) 0 ⟨0, false, false, [], []⟩) := by show _ = _; rw [hRES, Rf.inflate, lw_length]
  clear hRES
  obtain ⟨lim, hlim⟩ : ∃ lim : Int, lim = max limit 0 := ⟨_, rfl⟩
  have hmx : (if (0 : Int) > limit then (0 : Int) else limit) = lim := by rw [hlim]; split <;> omega
  have hmx2 : (if limit < (0 : Int) then (0 : Int) else limit) = lim := by rw [hlim]; split <;> omega
  have HLIM : Hid (lim = max limit 0) := hlim
  obtain ⟨R, hR⟩ : ∃ R, R = w.heap.size := ⟨_, rfl⟩
  have hsk := sink34 R lim ((w.alloc (.cells #[.string s, .int .i64 0] 149)).alloc (.cells #[.slice none 0 0] 107)) (by simp; omega)
  rw [hR] at hsk
  clear hlim
  go_enter Tryz.func85, Tryz.ntmps85
  go_wp2_with fail
  refine hsk.mono ?_
  rintro e w3 ⟨rfl, hsz3, g2, g3, g5, b3⟩
  have g0 : w3.heap[w.heap.size]? = some (.cells #[.string s, .int .i64 0] 149 (0, 0)) := (b3.block _ (by omega)).trans (blk_old (blk_new w _) _)
  have g1 : w3.heap[w.heap.size + 1]? = some (.cells #[.slice none 0 0] 107 (0, 0)) := (b3.block _ (by omega)).trans (by have h9 := blk_new (w.alloc (.cells #[.string s, .int .i64 0] 149)) (.cells #[.slice none 0 0] 107); rw [World.size_alloc] at h9; exact h9)
  have B3 : Below w.heap.size w w3 := (((Below.refl _ _).alloc (Nat.le_refl _) _).alloc (by simp) _).trans (b3.mono (by omega))
  have P3 : Pg w3 s w.heap.size limit ⟨0, false, false, [], []⟩ (.slice none 0 0) := ⟨g0, g1, g2, by rw [← HLIM.out]; exact g3, g5, World.ownsRow_nil _ _ _ _, Nat.zero_le _, hs, hl1, by show (0 : Int) ≤ _; omega, rfl, rfl⟩
  clear hsk b3 g0 g1 g2 g3 g5 hmx hmx2 hR
  obtain ⟨T, hT⟩ : ∃ T, T = w.heap.size + 6 := ⟨_, rfl⟩
  have hRT : w.heap.size + 5 < T := by omega
  have hmk := make35 (w3.alloc (.cells (sinkC w.heap.size) 154))
  simp only [World.size_alloc] at hmk
  rw [hsz3, ← hT] at hmk
  go_wp2_with fail
  rw [← hT]
  refine hmk.mono ?_
  rintro e w4 ⟨rfl, O4, b4, hsz4⟩
  have P4 : Pg w4 s w.heap.size limit ⟨0, false, false, [], []⟩ (.slice none 0 0) := by
    have k4 : Kp (· = w.heap.size) w3 w4 := ⟨b4.os, b4.tape, b4.output, by omega, fun k hk _ => (b4.block k (by omega)).trans (Below.heap_alloc w3 _ k hk)⟩
    exact P3.read k4 ((b4.block _ (by omega)).trans (blk_old P3.rd _)) (Nat.zero_le _) rfl rfl rfl
  have B4 : Below w.heap.size w w4 := B3.trans ((((Below.refl w.heap.size w3).alloc (by omega) _)).trans (b4.mono (by omega)))
  have HTO : Hid (w4.heap[T]? = some (.cells (sinkC w.heap.size) 154 (0, 0))) := (b4.block _ (by omega)).trans (by rw [hT, ← hsz3]; exact blk_new w3 _)
  clear hmk b4 P3 B3 hsz4 hsz3
  have HT2 : Hid (T = w.heap.size + 6) := hT
  clear hT
  go_wp2
  go_loopw [10] (fun v wr => ∃ (f : Nat) (last : Int) (st : Rf.St) (ov : Value), (last = 0 ∨ last = 1) ∧ v = .bool (decide (last ≠ 0)) ∧ Pg wr s w.heap.size limit st ov ∧ Once wr (T + 1) ∧ Hid (wr.heap[T]? = some (.cells (sinkC w.heap.size) 154 (0, 0))) ∧ Below w.heap.size w wr ∧ Hid (RES = Rf.infF (lw s) limit f last st) ∧ 8 * s.size + 2 ≤ f + st.pos ∧ Hid (st.out.length ≤ 258 * st.pos)) (fun _ wr => 8 * s.size - posR w.heap.size wr)
  case atStart => exact ⟨8 * s.size + 2, 0, _, _, .inl rfl, rfl, P4, O4, HTO, B4, HR0, by omega, Nat.zero_le _⟩
  case round =>
    clear P4 O4 HTO B4 HR0
    obtain ⟨f, last, st, ov, h01, rfl, P1, O1, HTO, B1, HF, hfu, HO⟩ := hrel
    have hp1 := P1.hp
    obtain ⟨f, rfl⟩ : ∃ g, f = g + 1 := ⟨f - 1, by omega⟩
    rcases h01 with rfl | rfl
    · have hposW : Hid (posR w.heap.size wr = st.pos) := P1.rd.posR
      have HST := infF_step (lw s) limit f st (Rf.take (lw s) st 1).2 (Rf.take (lw s) (Rf.take (lw s) st 1).2 2).2 (Rf.take (lw s) st 1).1 (Rf.take (lw s) (Rf.take (lw s) st 1).2 2).1 P1.nb P1.nf rfl rfl
      rw [← HF.out] at HST
      have HS1 : Hid (RES = _) := HST
      have n1 := number37 1 s w.heap.size st wr P1.rd hs hp1 P1.nb (by omega)
      have g1 := Rf.take_range (lw_bits s) st 1
      have o1 := Rf.take_out (lw s) st 1
      have p1 := Rf.take_pos (lw s) st 1 (by rw [lw_length]; exact hp1)
      have tb1 := Rf.take_bad (lw s) st 1
      clear HST HF
      generalize Rf.take (lw s) st 1 = A at *
      obtain ⟨a, st1⟩ := A
      simp only at HS1 n1 g1 o1 p1 tb1
      rw [lw_length] at p1
      have hd0 : decide ((0 : Int) ≠ 0) = false := by decide
      go_wp2_with fail
      refine n1.mono ?_
      rintro e w2 (⟨q1, rfl, r2, k2⟩ | ⟨q1, rfl, k2⟩)
      case inr =>
        go_wp2
        have hb2 := take_worse (lw s) st1 2 q1
        have e1 : RES = (Rf.take (lw s) st1 2).2 := by rw [HS1.out, if_pos hb2]
        have ef : RES.full = false := by rw [e1, (Rf.take_out _ _ _).2.2, o1.2.2]; exact P1.nf
        exact ⟨rfl, .inr ⟨by rw [e1, hb2]; rfl, by rw [code_bad ef], B1.trans (k2.below (by have := P1.lt; omega) (fun k _ h => by omega))⟩⟩
      case inl =>
      have P2 : Pg w2 s w.heap.size limit st1 ov := P1.read k2 r2 p1 o1.1 q1 (o1.2.2.trans P1.nf)
      have F2 := FrP.ofKp (by have := P1.lt; omega) k2
      have O2 := O1.kept (by omega) F2
      have HTO2 : Hid (w2.heap[T]? = some (.cells (sinkC w.heap.size) 154 (0, 0))) := (k2.block _ (lt_of_block HTO.out) (by omega)).trans HTO.out
      have B2 := B1.trans F2.below
      have ps1 := tb1 q1
      have ha01 : a = 0 ∨ a = 1 := by have := g1.1; have := g1.2; omega
      have hbt := bit_test a ha01
      have ho1 := o1.1
      clear P1 O1 HTO B1 F2 k2 r2 n1 o1 tb1 g1 hd0
      have HS2 := HS1
      have n2 := number37 2 s w.heap.size st1 w2 P2.rd hs p1 q1 (by omega)
      have g2 := Rf.take_range (lw_bits s) st1 2
      have o2 := Rf.take_out (lw s) st1 2
      have p2 := Rf.take_pos (lw s) st1 2 (by rw [lw_length]; exact p1)
      have tb2 := Rf.take_bad (lw s) st1 2
      clear HS1
      generalize Rf.take (lw s) st1 2 = A at *
      obtain ⟨k, st2⟩ := A
      simp only at HS2 n2 g2 o2 p2 tb2
      rw [lw_length] at p2
      go_wp2_with fail
      refine n2.mono ?_
      rintro e w3 (⟨q2, rfl, r3, k3⟩ | ⟨q2, rfl, k3⟩)
      case inr =>
        go_wp2
        have e1 : RES = st2 := by rw [HS2.out, if_pos q2]
        have ef : RES.full = false := by rw [e1, o2.2.2]; exact P2.nf
        exact ⟨rfl, .inr ⟨by rw [e1, q2]; rfl, by rw [code_bad ef], B2.trans (k3.below (by have := P2.lt; omega) (fun k _ h => by omega))⟩⟩
      case inl =>
      rw [if_neg (by rw [q2]; decide)] at HS2
      have P3 : Pg w3 s w.heap.size limit { st2 with kinds := st2.kinds ++ [k] } ov := P2.read k3 r3 p2 o2.1 q2 (o2.2.2.trans P2.nf)
      have F3 := FrP.ofKp (by have := P2.lt; omega) k3
      have O3 := O2.kept (by omega) F3
      have HTO3 : Hid (w3.heap[T]? = some (.cells (sinkC w.heap.size) 154 (0, 0))) := (k3.block _ (lt_of_block HTO2.out) (by omega)).trans HTO2.out
      have B3 := B2.trans F3.below
      have ps2 := tb2 q2
      have hpos : st2.pos = st.pos + 3 := by have := ps2.1; have := ps1.1; omega
      have hout2 : st2.out = st.out := o2.1.trans ho1
      have HO3 : Hid (st2.out.length ≤ 258 * st2.pos) := by have := HO.out; show _ ≤ _; rw [hout2]; omega
      have hk0 : 0 ≤ k := g2.1
      have hk4 : k < 4 := by have := g2.2; omega
      have hgb := fun kk => Rf.grow_block (lw_bits s) limit kk { st2 with kinds := st2.kinds ++ [k] }
      obtain ⟨c0, c1, c2, cz, clt⟩ := tcells HTO3.out
      clear P2 O2 HTO2 B2 F3 k3 r3 n2 o2 tb2 g2 ps1 ps2 HO hout2 ho1
      rcases (show k = 0 ∨ k = 1 ∨ k = 2 ∨ k = 3 by omega) with rfl | rfl | rfl | rfl
      · have e : Rf.block (lw s) limit 0 { st2 with kinds := st2.kinds ++ [0] } = Rf.plain (lw s) limit { st2 with kinds := st2.kinds ++ [0] } := if_pos rfl
        have hg := hgb 0
        rw [e] at HS2 hg
        clear e hgb
        have HL29 : Hid (st2.out.length ≤ 10900000000) := by have := HO3.out; show _ ≤ _; omega
        go_wp2_with fail
        refine (stored38 s w.heap.size limit { st2 with kinds := st2.kinds ++ [0] } ov _ P3 HL29).mono ?_
        rintro e w5 hE
        generalize Rf.plain (lw s) limit { st2 with kinds := st2.kinds ++ [0] } = F at *
        rcases hE with ⟨f1, f2, rfl, ⟨ov5, P5⟩, F5⟩ | ⟨f1, rfl, F5⟩
        · have O5 := O3.kept (by omega) F5
          have HTO5 : Hid (w5.heap[T]? = some (.cells (sinkC w.heap.size) 154 (0, 0))) := (F5.other _ clt (by omega) (by omega) (fun c fr => by rw [HTO3.out]; simp)).trans HTO3.out
          have B5 := B3.trans F5.below
          have hg1 : st2.pos ≤ F.pos := hg.1
          have hg2 : F.out.length + 258 * st2.pos ≤ st2.out.length + 258 * F.pos := hg.2
          clear P3 O3 HTO3 B3 F5 c0 c1 c2 cz clt hg
          go_wp2
          go_roundw
          case rel => exact ⟨f, a, F, ov5, ha01, by simp, P5, O5, HTO5, B5, HS2, by omega, by have := HO3.out; show _ ≤ _; omega⟩
          case measure => rw [P5.rd.posR, hposW.out]; omega
        · go_wp2
          have e1 : RES = F := by rw [HS2.out]; exact infF_stop _ _ _ _ _ (.inr f1)
          exact ⟨rfl, .inr ⟨by rw [e1]; exact f1, by rw [e1], B3.trans F5⟩⟩
      · have e : Rf.block (lw s) limit 1 { st2 with kinds := st2.kinds ++ [1] } = Rf.symbols (lw s) limit Rf.fixS Rf.fixD { st2 with kinds := st2.kinds ++ [1] } := (if_neg (by decide)).trans (if_pos rfl)
        have hg := hgb 1
        rw [e] at HS2 hg
        clear e hgb
        have O3d : Once w3.drew (T + 1) := ⟨O3.f, O3.ex⟩
        have hon := once58 (T + 1) w3.drew O3d
        have hsy := fun M1 s1 l1 M2 s2 l2 w5 P5 T1 T2 m1 m2 => syms39 s w.heap.size limit M1 s1 l1 M2 s2 l2 Rf.fixS fixP Rf.fixD { st2 with kinds := st2.kinds ++ [1] } ov w5 P5 T1 T2 m1 m2 hfx HO3
        generalize Rf.fixS = FS at *
        generalize fixP = FP at *
        generalize Rf.fixD = FD at *
        generalize Rf.symbols (lw s) limit FS FD { st2 with kinds := st2.kinds ++ [1] } = F at *
        go_wp2
        have hS : w3.drew.cell? ⟨T, 0, none⟩ = some (needV w.heap.size) ∧ w3.drew.cell? ⟨T, 1, none⟩ = some (putV w.heap.size) ∧ w3.drew.cell? ⟨T, 2, none⟩ = some (againV w.heap.size) := ⟨c0, c1, c2⟩
        refine regionZ (by kernel_rfl) (fun w' => w'.cell? ⟨T, 0, none⟩ = some (needV w.heap.size) ∧ w'.cell? ⟨T, 1, none⟩ = some (putV w.heap.size) ∧ w'.cell? ⟨T, 2, none⟩ = some (againV w.heap.size)) 99 ?_
        refine anyZ_take (i := 0) (v := ?_) rfl (by kernel_rfl) (by kernel_rfl) (by kernel_rfl) (by kernel_rfl) (fun _ _ _ h => h) (by rfl) ?_ hS ?_
        rotate_left
        · intro w hSw; (try dsimp only at hSw); obtain ⟨hSw1, hSw2, hSw3⟩ := hSw; go_simp; try with_reducible rfl
        try simp only [Act.put]
        refine anyZ_take (i := 1) (v := ?_) rfl (by kernel_rfl) (by kernel_rfl) (by kernel_rfl) (by kernel_rfl) (fun _ _ _ h => h) (by rfl) ?_ hS ?_
        rotate_left
        · intro w hSw; (try dsimp only at hSw); obtain ⟨hSw1, hSw2, hSw3⟩ := hSw; go_simp; try with_reducible rfl
        try simp only [Act.put]
        refine anyZ_take (i := 3) (v := ?_) rfl (by kernel_rfl) (by kernel_rfl) (by kernel_rfl) (by kernel_rfl) (fun _ _ _ h => h) (by rfl) ?_ hS ?_
        rotate_left
        · intro w hSw; (try dsimp only at hSw); obtain ⟨hSw1, hSw2, hSw3⟩ := hSw; go_simp; try with_reducible rfl
        try simp only [Act.put]
        refine anyZ_one (i := 2) (by kernel_rfl) rfl (fun K hK => ?_)
        go_simp
        refine hon.mono ?_
        rintro e w5 ⟨M1, s1, l1, M2, s2, l2, rfl, T1, T2, m1, m2, O5, k5⟩
        have P5 : Pg w5 s w.heap.size limit { st2 with kinds := st2.kinds ++ [1] } ov := (P3.drewN 1).once (b := T + 1) (by omega) k5 (fun g hg9 => ⟨P3.notOwn (once_not O3).1 g hg9, P3.notOwn (once_not O3).2 g hg9⟩)
        have HTO5 : Hid (w5.heap[T]? = some (.cells (sinkC w.heap.size) 154 (0, 0))) := (k5.block T clt (by omega)).trans HTO3.out
        have B5 : Below w.heap.size w3 w5 := (below_drewN (Below.refl w.heap.size w3) 1).trans (k5.below (by have := P3.lt; show _ ≤ w3.heap.size; omega) (fun k _ h => by omega))
        have hS5 := tcells HTO5.out
        refine hK _ _ (fun _ => ⟨hS5.1, hS5.2.1, hS5.2.2.1⟩) ?_
        clear hK K
        refine anyZ_one (i := 4) (by kernel_rfl) rfl (fun K hK => ?_)
        go_simp
        refine (hsy M1 s1 l1 M2 s2 l2 w5 P5 T1 T2 (by omega) (by omega)).mono ?_
        clear hsy hon O3d T1 T2 k5
        rintro e w6 hE
        have hg1 : st2.pos ≤ F.pos := hg.1
        have hg2 : F.out.length + 258 * st2.pos ≤ st2.out.length + 258 * F.pos := hg.2
        rcases hE with ⟨f1, f2, rfl, ⟨ov6, P6⟩, F6⟩ | ⟨f1, rfl, F6⟩
        case inr =>
          have e1 : RES = F := by rw [HS2.out]; exact infF_stop _ _ _ _ _ (.inr f1)
          exact ⟨rfl, .inr ⟨by rw [e1]; exact f1, by rw [e1], (B3.trans B5).trans F6⟩⟩
        case inl =>
        have O6 := O5.kept (by omega) F6
        have HTO6 : Hid (w6.heap[T]? = some (.cells (sinkC w.heap.size) 154 (0, 0))) := (F6.other _ (lt_of_block HTO5.out) (by omega) (by omega) (fun c fr => by rw [HTO5.out]; simp)).trans HTO5.out
        have B6 := (B3.trans B5).trans F6.below
        have hS6 := tcells HTO6.out
        refine hK _ _ (fun _ => ⟨hS6.1, hS6.2.1, hS6.2.2.1⟩) ?_
        clear hK K
        refine anyZ_done (by kernel_rfl) ?_ _
        clear P3 O3 HTO3 B3 B5 P5 O5 HTO5 F6 c0 c1 c2 cz clt hg hS hS5 hS6
        go_wp2
        go_roundw
        case rel => exact ⟨f, a, F, ov6, ha01, by simp, P6, O6, HTO6, B6, HS2, by omega, by have := HO3.out; show _ ≤ _; omega⟩
        case measure => rw [P6.rd.posR, hposW.out]; omega
      · have e : Rf.block (lw s) limit 2 { st2 with kinds := st2.kinds ++ [2] } = Rf.own (lw s) limit { st2 with kinds := st2.kinds ++ [2] } := (if_neg (by decide)).trans ((if_neg (by decide)).trans (if_pos rfl))
        have hg := hgb 2
        rw [e] at HS2 hg
        clear e hgb
        have htb := tables40 s w.heap.size limit { st2 with kinds := st2.kinds ++ [2] } w3.drew P3.rd hs p2 q2 P3.nf
        generalize Rf.own (lw s) limit { st2 with kinds := st2.kinds ++ [2] } = F at *
        go_wp2
        have hS : w3.drew.cell? ⟨T, 0, none⟩ = some (needV w.heap.size) ∧ w3.drew.cell? ⟨T, 1, none⟩ = some (putV w.heap.size) ∧ w3.drew.cell? ⟨T, 2, none⟩ = some (againV w.heap.size) := ⟨c0, c1, c2⟩
        refine regionZ (by kernel_rfl) (fun w' => w'.cell? ⟨T, 0, none⟩ = some (needV w.heap.size) ∧ w'.cell? ⟨T, 1, none⟩ = some (putV w.heap.size) ∧ w'.cell? ⟨T, 2, none⟩ = some (againV w.heap.size)) 99 ?_
        refine anyZ_take (i := 0) (v := ?_) rfl (by kernel_rfl) (by kernel_rfl) (by kernel_rfl) (by kernel_rfl) (fun _ _ _ h => h) (by rfl) ?_ hS ?_
        rotate_left
        · intro w hSw; (try dsimp only at hSw); obtain ⟨hSw1, hSw2, hSw3⟩ := hSw; go_simp; try with_reducible rfl
        try simp only [Act.put]
        refine anyZ_take (i := 1) (v := ?_) rfl (by kernel_rfl) (by kernel_rfl) (by kernel_rfl) (by kernel_rfl) (fun _ _ _ h => h) (by rfl) ?_ hS ?_
        rotate_left
        · intro w hSw; (try dsimp only at hSw); obtain ⟨hSw1, hSw2, hSw3⟩ := hSw; go_simp; try with_reducible rfl
        try simp only [Act.put]
        refine anyZ_take (i := 3) (v := ?_) rfl (by kernel_rfl) (by kernel_rfl) (by kernel_rfl) (by kernel_rfl) (fun _ _ _ h => h) (by rfl) ?_ hS ?_
        rotate_left
        · intro w hSw; (try dsimp only at hSw); obtain ⟨hSw1, hSw2, hSw3⟩ := hSw; go_simp; try with_reducible rfl
        try simp only [Act.put]
        refine anyZ_one (i := 2) (by kernel_rfl) rfl (fun K hK => ?_)
        go_simp
        refine htb.mono ?_
        rintro e w5 (⟨M1, s1, l1, M2, s2, l2, ls, far, st3, eF, x1, x2, x3, x4, x5, x6, rfl, T1, T2, m1, m2, r5, k5⟩ | ⟨x1, x2, rfl, k5⟩)
        case inr =>
          have e1 : RES = F := by rw [HS2.out]; exact infF_stop _ _ _ _ _ (.inr (by rw [x1]; rfl))
          exact ⟨rfl, .inr ⟨by rw [e1, x1]; rfl, by rw [e1, code_bad x2], (B3.trans (below_drewN (Below.refl w.heap.size w3) 1)).trans (k5.below (by have := P3.lt; show _ ≤ w3.heap.size; omega) (fun k _ h => by omega))⟩⟩
        case inl =>
        have P5 : Pg w5 s w.heap.size limit st3 ov := (P3.drewN 1).read k5 r5 x4 x3 x1 x2
        have F5 : FrP w.heap.size w3 w5 := ((FrP.refl w.heap.size w3).drewN 1).trans (FrP.ofKp (by have := P3.lt; show _ ≤ w3.heap.size; omega) k5)
        have O5 := O3.kept (by omega) F5
        have HTO5 : Hid (w5.heap[T]? = some (.cells (sinkC w.heap.size) 154 (0, 0))) := (k5.block T clt (by omega)).trans HTO3.out
        have B5 : Below w.heap.size w3 w5 := F5.below
        have hS5 := tcells HTO5.out
        have x5' : st2.pos ≤ st3.pos := x5
        have x3' : st3.out = st2.out := x3
        have HO5 : Hid (st3.out.length ≤ 258 * st3.pos) := by have := HO3.out; show _ ≤ _; rw [x3']; omega
        have hlt3 := P3.lt
        have m1' : w3.heap.size ≤ M1 := m1
        have m2' : w3.heap.size ≤ M2 := m2
        refine hK _ _ (fun _ => ⟨hS5.1, hS5.2.1, hS5.2.2.1⟩) ?_
        clear hK K
        refine anyZ_one (i := 4) (by kernel_rfl) rfl (fun K hK => ?_)
        go_simp
        refine (syms39 s w.heap.size limit M1 s1 l1 M2 s2 l2 ls far far st3 ov w5 P5 T1 T2 (by omega) (by omega) (alike_self s far x6) HO5).mono ?_
        rw [← eF]
        clear htb T1 T2 k5 F5 x1 x2 x3 x3' r5
        rintro e w6 hE
        have hg1 : st2.pos ≤ F.pos := hg.1
        have hg2 : F.out.length + 258 * st2.pos ≤ st2.out.length + 258 * F.pos := hg.2
        rcases hE with ⟨f1, f2, rfl, ⟨ov6, P6⟩, F6⟩ | ⟨f1, rfl, F6⟩
        case inr =>
          have e1 : RES = F := by rw [HS2.out]; exact infF_stop _ _ _ _ _ (.inr f1)
          exact ⟨rfl, .inr ⟨by rw [e1]; exact f1, by rw [e1], (B3.trans B5).trans F6⟩⟩
        case inl =>
        have O6 := O5.kept (by omega) F6
        have HTO6 : Hid (w6.heap[T]? = some (.cells (sinkC w.heap.size) 154 (0, 0))) := (F6.other _ (lt_of_block HTO5.out) (by omega) (by omega) (fun c fr => by rw [HTO5.out]; simp)).trans HTO5.out
        have B6 := (B3.trans B5).trans F6.below
        have hS6 := tcells HTO6.out
        refine hK _ _ (fun _ => ⟨hS6.1, hS6.2.1, hS6.2.2.1⟩) ?_
        clear hK K
        refine anyZ_done (by kernel_rfl) ?_ _
        clear P3 O3 HTO3 B3 B5 P5 O5 HTO5 F6 c0 c1 c2 cz clt hg hS hS5 hS6
        go_wp2
        go_roundw
        case rel => exact ⟨f, a, F, ov6, ha01, by simp, P6, O6, HTO6, B6, HS2, by omega, by have := HO3.out; show _ ≤ _; omega⟩
        case measure => rw [P6.rd.posR, hposW.out]; omega
      · have e : Rf.block (lw s) limit 3 { st2 with kinds := st2.kinds ++ [3] } = { st2 with kinds := st2.kinds ++ [3], bad := true } := (if_neg (by decide)).trans ((if_neg (by decide)).trans (if_neg (by decide)))
        rw [e] at HS2
        go_wp2
        have e1 : RES = { st2 with kinds := st2.kinds ++ [3], bad := true } := by rw [HS2.out]; exact infF_stop _ _ _ _ _ (.inr rfl)
        exact ⟨rfl, .inr ⟨by rw [e1]; rfl, by rw [e1, code_bad (by exact P3.nf)], B3⟩⟩
    · have HE : Hid (RES = st) := by show _ = _; rw [HF.out]; exact infF_stop _ _ _ _ _ (.inl (by decide))
      have hcv := own_string P1.ho rfl
      have hw1 := P1.rd
      obtain ⟨o1, o2, o3, o4, o5⟩ := P1.cells
      have hus := used41 s w.heap.size st.pos wr.drew P1.rd (by omega)
      have hcv2 : (convert 107 9 ov).run Tryz.prog wr.drew = .ok (.string ⟨st.out.toArray⟩) wr.drew := own_string (w := wr.drew) P1.ho rfl
      have HBD : Hid (RES.pos ≤ 40000000 ∧ RES.out.length ≤ 11000000000) := by have h1 := HO.out; have h2 := P1.hp; show _ ∧ _; rw [HE.out]; exact ⟨by omega, by omega⟩
      have HE2 : Hid (RES.bad = false ∧ RES.full = false) := by show _ ∧ _; rw [HE.out]; exact ⟨P1.nb, P1.nf⟩
      go_wp2
      have hS : wr.drew.cell? ⟨w.heap.size + 1, 0, none⟩ = some ov ∧ (convert 107 9 ov).run Tryz.prog wr.drew = .ok (.string ⟨st.out.toArray⟩) wr.drew ∧ True := ⟨o1, hcv2, trivial⟩
      refine regionZ (by kernel_rfl) (fun w' => w'.cell? ⟨w.heap.size + 1, 0, none⟩ = some ov ∧ (convert 107 9 ov).run Tryz.prog w' = .ok (.string ⟨st.out.toArray⟩) w' ∧ True) 99 ?_
      refine anyZ_take (i := 0) (v := ?_) rfl (by kernel_rfl) (by kernel_rfl) (by kernel_rfl) (by kernel_rfl) (fun _ _ _ h => h) (by rfl) ?_ hS ?_
      rotate_left
      · intro w hSw; (try dsimp only at hSw); obtain ⟨hSw1, hSw2, hSw3⟩ := hSw; go_simp; try with_reducible rfl
      try simp only [Act.put]
      refine anyZ_take (i := 1) (v := ?_) rfl (by kernel_rfl) (by kernel_rfl) (by kernel_rfl) (by kernel_rfl) (fun _ _ _ h => h) (by rfl) ?_ hS ?_
      rotate_left
      · intro w hSw; (try dsimp only at hSw); obtain ⟨hSw1, hSw2, hSw3⟩ := hSw; go_simp; try with_reducible rfl
      try simp only [Act.put]
      refine anyZ_take (i := 2) (v := ?_) rfl (by kernel_rfl) (by kernel_rfl) (by kernel_rfl) (by kernel_rfl) (fun _ _ _ h => h) (by rfl) ?_ hS ?_
      rotate_left
      · intro w hSw; (try dsimp only at hSw); obtain ⟨hSw1, hSw2, hSw3⟩ := hSw; go_simp; try with_reducible rfl
      try simp only [Act.put]
      refine anyZ_one (i := 3) (by kernel_rfl) rfl (fun K hK => ?_)
      go_simp
      refine hus.mono ?_
      rintro e w5 ⟨rfl, rfl⟩
      refine hK _ _ (fun _ => hS) ?_
      clear hK K
      refine anyZ_one (i := 4) (by kernel_rfl) rfl (fun K hK => ?_)
      go_simp
      refine hK _ _ (fun _ => hS) ?_
      clear hK K
      refine anyZ_one (i := 5) (by kernel_rfl) rfl (fun K hK => ?_)
      go_simp
      refine hK _ _ (fun _ => hS) ?_
      clear hK K
      refine anyZ_done (by kernel_rfl) ?_ _
      go_wp2
      go_ret2
      exact .inl ⟨HE2.out.1, HE2.out.2, by rw [HE.out]; rfl, below_drewN B1 1, HBD.out⟩

end Go.Proofs.YtmfijackgekioaaGreatDoor

/-
  The fixed distances: the program's 30 stand for the document's 32.
-/
namespace Go.Proofs.YtmfijackgekioaaGreatDoor
open Go.RowKit

theorem fixD_at (j : Nat) : Rf.fixD.getD j 0 = if j < 32 then 5 else 0 := by rw [Rf.fixD, getD_map_range]
theorem fixP_at (j : Nat) : fixP.getD j 0 = if j < 30 then 5 else 0 := by rw [fixP, getD_map_range]
theorem fixD_code : ∀ j, j < 32 → (Rf.codes Rf.fixD).getD j 0 = ((j : Nat) : Int) := by decide +kernel
theorem fixP_code : ∀ j, j < 30 → (Rf.codes fixP).getD j 0 = ((j : Nat) : Int) := by decide +kernel
theorem fixD_len : Rf.fixD.length = 32 := by simp [Rf.fixD]
theorem fixP_len : fixP.length = 30 := by simp [fixP]
theorem fixD_none (n v : Int) (h : n ≠ 5) : Rf.find Rf.fixD (Rf.codes Rf.fixD) n v = none := by
  cases hf : Rf.find Rf.fixD (Rf.codes Rf.fixD) n v with
  | none => rfl
  | some i =>
    obtain ⟨h1, h2, _⟩ := Rf.find_some hf
    rw [fixD_len] at h1
    rw [fixD_at, if_pos h1] at h2
    exact absurd h2.symm h
theorem fixP_none (n v : Int) (h : n ≠ 5) : Rf.find fixP (Rf.codes fixP) n v = none := by
  cases hf : Rf.find fixP (Rf.codes fixP) n v with
  | none => rfl
  | some i =>
    obtain ⟨h1, h2, _⟩ := Rf.find_some hf
    rw [fixP_len] at h1
    rw [fixP_at, if_pos h1] at h2
    exact absurd h2.symm h
theorem fixD_find (v : Nat) (h : v < 32) : Rf.find Rf.fixD (Rf.codes Rf.fixD) 5 (v : Int) = some v := by
  have := Rf.find_of (ls := Rf.fixD) (n := 4) (j := v) (by omega) (by rw [fixD_len]; exact h) (by rw [fixD_at, if_pos h]; rfl)
  rw [fixD_code v h] at this
  exact this
theorem fixP_find (v : Nat) (h : v < 30) : Rf.find fixP (Rf.codes fixP) 5 (v : Int) = some v := by
  have := Rf.find_of (ls := fixP) (n := 4) (j := v) (by omega) (by rw [fixP_len]; exact h) (by rw [fixP_at, if_pos h]; rfl)
  rw [fixP_code v h] at this
  exact this
theorem fixP_over (v : Nat) (h : 30 ≤ v) : Rf.find fixP (Rf.codes fixP) 5 (v : Int) = none := by
  cases hf : Rf.find fixP (Rf.codes fixP) 5 (v : Int) with
  | none => rfl
  | some i =>
    obtain ⟨h1, _, h3⟩ := Rf.find_some hf
    rw [fixP_len] at h1
    rw [fixP_code i h1] at h3
    omega

def Rel (A B : Int × Rf.St) : Prop := (A.2.bad = false → A = B ∧ B.1 ≤ 29) ∧ (A.2.bad = true → B.2.bad = true ∨ 29 < B.1)
theorem fixed_rel {L : List Int} (hb : Rf.Bits L) : ∀ (m k : Nat) (v : Nat) (st : Rf.St), k + m = 4 → v < 2 ^ k →
    Rel (Rf.symF L fixP (Rf.codes fixP) (15 - k) k v st) (Rf.symF L Rf.fixD (Rf.codes Rf.fixD) (15 - k) k v st)
  | m, k, v, st, hk, hv => by
    have h01 := Rf.take_one hb st
    rw [show 15 - k = (14 - k) + 1 by omega, Rf.symF, Rf.symF]
    obtain ⟨t, ht⟩ : ∃ t : Nat, (Rf.take L st 1).1 = (t : Int) := ⟨(Rf.take L st 1).1.toNat, by omega⟩
    have ht1 : t ≤ 1 := by omega
    by_cases hbad : (Rf.take L st 1).2.bad = true
    · rw [if_pos hbad, if_pos hbad]
      exact ⟨fun h => by (simp only at h; rw [hbad] at h; cases h), fun _ => .inl hbad⟩
    · rw [if_neg hbad, if_neg hbad, ht]
      have hbf : (Rf.take L st 1).2.bad = false := by cases h : (Rf.take L st 1).2.bad <;> simp_all
      have ev : 2 * ((v : Nat) : Int) + (t : Int) = ((2 * v + t : Nat) : Int) := by omega
      rw [ev]
      match m, hk with
      | 0, hk =>
        have hk4 : k = 4 := by omega
        subst hk4
        have hv32 : 2 * v + t < 32 := by have : v < 16 := hv; omega
        rw [show ((4 : Nat) : Int) + 1 = 5 from rfl, fixD_find _ hv32]
        by_cases h30 : 2 * v + t < 30
        · rw [fixP_find _ h30]
          exact ⟨fun _ => ⟨rfl, by simp only; omega⟩, fun h => by simp only at h; rw [hbf] at h; cases h⟩
        · rw [fixP_over _ (by omega)]
          have hn := Rf.symF_none L fixP (Rf.codes fixP) 5 (fun j hj => by rw [fixP_at]; split <;> omega) (14 - 4) (4 + 1) ((2 * v + t : Nat) : Int) (Rf.take L st 1).2 (by omega)
          exact ⟨fun h => by (rw [hn] at h; cases h), fun _ => .inr (by simp only; omega)⟩
      | m + 1, hk =>
        rw [fixD_none _ _ (by omega), fixP_none _ _ (by omega)]
        simp only
        have := fixed_rel hb m (k + 1) (2 * v + t) (Rf.take L st 1).2 (by omega) (by rw [Nat.pow_succ]; omega)
        rw [show 15 - (k + 1) = 14 - k by omega] at this
        exact this
theorem alike_fixed (s : ByteArray) : Alike s fixP Rf.fixD := fun st _ _ => by
  have h := fixed_rel (lw_bits s) 4 0 0 st rfl (by decide)
  exact h

end Go.Proofs.YtmfijackgekioaaGreatDoor

/-
  The call's face: Inflate.
-/
namespace Go.Proofs.YtmfijackgekioaaGreatDoor
open Go.RowKit

set_option maxRecDepth 100000 in
set_option maxHeartbeats 1000000 in
theorem number_nil (o : Int) (w : World) : Calls Tryz.prog 51 #[.nilIface, .int .i64 o] w fun e w' => e = .returned (.int .i64 0) ∧ w' = w := by
  go_enter Tryz.func51, Tryz.ntmps51
  go_wp2
  go_ret
  exact ⟨rfl, rfl⟩
set_option maxRecDepth 100000 in
set_option maxHeartbeats 1000000 in
theorem number_fault (c o : Int) (w : World) : Calls Tryz.prog 51 #[.iface 113 (.int .i64 c), .int .i64 o] w fun e w' => e = .returned (.int .i64 c) ∧ w' = w := by
  have hta : ∀ w : World, (Instr.typeAssert (.iface 113 (.int .i64 c)) 20 113 true).run Tryz.prog w = .ok (.tuple #[.int .i64 c, .bool true]) w := fun _ => by kernel_rfl
  go_enter Tryz.func51, Tryz.ntmps51
  go_wp2
  go_ret
  exact ⟨rfl, rfl⟩

theorem catch_panicking (p : Addr) (x c : Int) (older : List PanicEntry) (w : World) (hc : w.cell? p = some (.int .i64 x)) (hz : w.frozen? p = false) :
    CallsD Tryz.prog 84 #[.pointer (some p)] (.panicking ({ v := .iface 113 (.int .i64 c), recovered := false } :: older)) w fun e u' w' =>
      e = .returned (.tuple #[]) ∧ u' = .panicking ({ v := .iface 113 (.int .i64 c), recovered := true } :: older) ∧ w' = w.setCell p (.int .i64 c) := by
  refine callsD_of_wpS Tryz.func84 rfl fun c₀ cs hu => ?_
  apply wpS_region
  simp [wpOpsS, go_sem, recoverD, hu, Tryz.ntmps84]
  refine (number_fault c 6 w).mono ?_
  rintro e w' ⟨rfl, rfl⟩
  simp [go_sem, hc, hz, bodyPostS, results, Tryz.results84]

theorem catch_idle (p : Addr) (x : Int) (w : World) (hc : w.cell? p = some (.int .i64 x)) (hz : w.frozen? p = false) :
    CallsD Tryz.prog 84 #[.pointer (some p)] .returning w fun e u' w' => e = .returned (.tuple #[]) ∧ u' = .returning ∧ w' = w.setCell p (.int .i64 0) := by
  refine callsD_of_wpS Tryz.func84 rfl fun c₀ cs hu => ?_
  apply wpS_region
  simp [wpOpsS, go_sem, recoverD, hu, Tryz.ntmps84]
  refine (number_nil 6 w).mono ?_
  rintro e w' ⟨rfl, rfl⟩
  simp [go_sem, hc, hz, bodyPostS, results, Tryz.results84]
  cases c₀
  simp_all

/-- What the document's unpacking answers. -/
def answer (F : Rf.St) : Value := if (F.bad || F.full) = true then .tuple #[.string ⟨#[]⟩, .int .i64 0, .int .i64 (code F)] else .tuple #[.string ⟨F.out.toArray⟩, .int .i64 (((F.pos + 7) / 8 : Nat) : Int), .int .i64 0]

set_option maxRecDepth 100000 in
set_option maxHeartbeats 2000000 in
theorem inflate11 (s : ByteArray) (limit : Int) (w : World) (hs : s.size ≤ 5000000) (hl0 : -9223372036854775808 ≤ limit) (hl1 : limit ≤ 9223372036854775807) :
    Calls Tryz.prog 45 #[.string s, .int .i64 limit] w fun e w' => e = .returned (answer (Rf.inflate (lw s) limit)) ∧ Below w.heap.size w w' := by
  have hmf : ∀ (fn : Fn) (first cap : Array Value) (w : World), (Instr.makeFunc fn first cap).run Tryz.prog w = .ok (.func fn first cap) w := fun _ _ _ _ => rfl
  have hby := bytes22 s limit (w.alloc (.cells #[.int .i64 0] 34)) hs hl0 hl1 (alike_fixed s)
  generalize Rf.inflate (lw s) limit = F at *
  go_enter_defers Tryz.func45, Tryz.ntmps45
  go_wp2_with fail
  refine hby.mono ?_
  rintro e w1 (⟨f1, f2, rfl, b1, -⟩ | ⟨f1, rfl, b1⟩)
  · rw [World.size_alloc] at b1
    have hb : w1.heap[w.heap.size]? = some (.cells #[.int .i64 0] 34 (0, 0)) := (b1.block _ (by omega)).trans (blk_new w _)
    obtain ⟨c0, cz, clt⟩ := one_cell hb
    have HB : Hid (Below w.heap.size w w1) := ((Below.refl _ _).alloc (Nat.le_refl _) _).trans (b1.mono (by omega))
    have HA : Hid (answer F = .tuple #[.string ⟨F.out.toArray⟩, .int .i64 (((F.pos + 7) / 8 : Nat) : Int), .int .i64 0]) := by show _ = _; rw [answer, f1, f2]; rfl
    have hset := one_set hb (.int .i64 0)
    obtain ⟨d0, dz, dlt⟩ := one_cell hset
    clear hby b1 hb
    go_wp2
    refine leaves_cons (f := 84) (args := #[.pointer (some ⟨w.heap.size, 0, none⟩)]) (by simp) (by simp [go_sem]) ?_
    refine (catch_idle ⟨w.heap.size, 0, none⟩ 0 _ d0 dz).mono ?_
    rintro e u' w'' ⟨rfl, rfl, rfl⟩
    have hset2 := one_set hset (.int .i64 0)
    obtain ⟨x0, xz, xlt⟩ := one_cell hset2
    simp [Leaves, settle, results, Tryz.results45, go_sem, x0]
    rw [HA.out]
    exact ⟨by rw [show ((F.pos : Int) + 7) / 8 = (((F.pos + 7) / 8 : Nat) : Int) by omega], (HB.out.setCell (p := ⟨w.heap.size, 0, none⟩) (Nat.le_refl _) _).setCell (p := ⟨w.heap.size, 0, none⟩) (Nat.le_refl _) _⟩
  · rw [World.size_alloc] at b1
    have hb : w1.heap[w.heap.size]? = some (.cells #[.int .i64 0] 34 (0, 0)) := (b1.block _ (by omega)).trans (blk_new w _)
    obtain ⟨c0, cz, clt⟩ := one_cell hb
    have HB : Hid (Below w.heap.size w w1) := ((Below.refl _ _).alloc (Nat.le_refl _) _).trans (b1.mono (by omega))
    have HA : Hid (answer F = .tuple #[.string ⟨#[]⟩, .int .i64 0, .int .i64 (code F)]) := by show _ = _; rw [answer, if_pos f1]
    generalize code F = cd at *
    clear hby b1
    go_wp2
    refine leaves_cons (f := 84) (args := #[.pointer (some ⟨w.heap.size, 0, none⟩)]) (by simp) (by simp [go_sem]) ?_
    refine (catch_panicking ⟨w.heap.size, 0, none⟩ 0 cd [] _ c0 cz).mono ?_
    rintro e u' w'' ⟨rfl, rfl, rfl⟩
    have hset2 := one_set hb (.int .i64 cd)
    obtain ⟨x0, xz, xlt⟩ := one_cell hset2
    simp [Leaves, settle, results, Tryz.results45, go_sem, x0]
    rw [HA.out]
    exact ⟨rfl, HB.out.setCell (p := ⟨w.heap.size, 0, none⟩) (Nat.le_refl _) _⟩

end Go.Proofs.YtmfijackgekioaaGreatDoor

/-
  Unwrapping: the parts beside the unpacking.
-/
namespace Go.Proofs.YtmfijackgekioaaGreatDoor
open Go.RowKit

set_option maxHeartbeats 400000 in
theorem adlerP (s : ByteArray) (w : World) (hs : s.size ≤ maxLen) :
    Calls Tryz.prog 99 #[.string s] w fun e w' => e = .returned (.int .i64 (Mx.adler s.data.toList)) ∧ w' = w := by
  unfold maxLen at hs
  go_enter Tryz.func99, Tryz.ntmps99
  go_wp2
  go_loop [3, 4, 8] (fun x y i => ∃ k : Nat, k ≤ s.size ∧ i = .int .i64 k ∧ x = .int .i64 (Mx.adS (s.data.toList.take k)) ∧ y = .int .i64 (Mx.adT (s.data.toList.take k))) (fun _ _ i => s.size - (intOf i).toNat)
  case atStart => exact ⟨0, Nat.zero_le _, rfl, rfl, rfl⟩
  case round =>
    obtain ⟨k, hk, rfl, rfl, rfl⟩ := hrel
    have h1 := Mx.adS_range (s.data.toList.take k)
    have h2 := Mx.adT_range (s.data.toList.take k)
    by_cases hlt : k < s.size
    · have hc : (s[k].toNat : Int) < 256 := by have := s[k].toNat_lt; omega
      have HS : Hid (Mx.adS (s.data.toList.take (k + 1)) = (Mx.adS (s.data.toList.take k) + s[k].toNat) % 65521) := by rw [Mx.take_snoc s k hlt]; exact Mx.adS_snoc _ _
      have HT : Hid (Mx.adT (s.data.toList.take (k + 1)) = (Mx.adT (s.data.toList.take k) + (Mx.adS (s.data.toList.take k) + s[k].toNat) % 65521) % 65521) := by rw [Mx.take_snoc s k hlt]; exact Mx.adT_snoc _ _
      go_wp2
      go_round
      case rel => exact ⟨k + 1, by omega, by go_num, by rw [HS.out], by rw [HT.out]⟩
      case measure => simp [intOf]; omega
    · go_wp2
      go_ret
      exact ⟨ret_int (by rw [List.take_of_length_le (by simp; omega)]; rfl), rfl⟩

/-- The four bytes of a number, the high one first. -/
def four (a : Int) : List UInt8 := [UInt8.ofNat (a / 16777216 % 256).toNat, UInt8.ofNat (a / 65536 % 256).toNat, UInt8.ofNat (a / 256 % 256).toNat, UInt8.ofNat (a % 256).toNat]

/-- The number that four bytes are, the high one first. -/
def fromF (T : List UInt8) : Int := (T.getD 0 0).toNat * 16777216 + (T.getD 1 0).toNat * 65536 + (T.getD 2 0).toNat * 256 + (T.getD 3 0).toNat

theorem fromF_four (T : List UInt8) (h : T.length = 4) (a : Int) (h0 : 0 ≤ a) (h1 : a < 4294967296) : fromF T = a ↔ T = four a := by
  have e8 : ∀ n : Int, 0 ≤ n → n < 256 → (((UInt8.ofNat n.toNat).toNat : Nat) : Int) = n := fun n h0 h1 => by rw [UInt8.toNat_ofNat']; omega
  match T, h with
  | [x, y, z, u], _ =>
    have hx := x.toNat_lt
    have hy := y.toNat_lt
    have hz := z.toNat_lt
    have hu := u.toNat_lt
    have ext : ∀ (p : UInt8) (n : Int), 0 ≤ n → n < 256 → ((p.toNat : Int) = n ↔ p = UInt8.ofNat n.toNat) := fun p n g0 g1 => by
      constructor
      · intro q
        apply UInt8.toNat_inj.mp
        have := e8 n g0 g1
        omega
      · intro q
        rw [q, e8 n g0 g1]
    have f0 := ext x (a / 16777216 % 256) (by omega) (by omega)
    have f1 := ext y (a / 65536 % 256) (by omega) (by omega)
    have f2 := ext z (a / 256 % 256) (by omega) (by omega)
    have f3 := ext u (a % 256) (by omega) (by omega)
    unfold fromF four
    simp only [List.getD_cons_zero, List.getD_cons_succ, List.cons.injEq, and_true]
    rw [← f0, ← f1, ← f2, ← f3]
    omega

theorem i64_or_low (x y k : Nat) (hk : k ≤ 24) (hx : x < 8589934592) (hy : y < 2 ^ k) (h : x % 2 ^ k = 0) : bits .or .i64 (x : Int) (y : Int) = ((x + y : Nat) : Int) := by
  have hp : (2 : Nat) ^ k ≤ 2 ^ 24 := Nat.pow_le_pow_right (by omega) hk
  obtain ⟨c, rfl⟩ : ∃ c, x = 2 ^ k * c := ⟨x / 2 ^ k, by have := Nat.div_add_mod x (2 ^ k); omega⟩
  have h1 := Nat.two_pow_add_eq_or_of_lt hy c
  have key : (BitVec.ofInt 64 ((2 ^ k * c : Nat) : Int) ||| BitVec.ofInt 64 (y : Int)).toNat = 2 ^ k * c + y := by
    rw [BitVec.toNat_or, BitVec.toNat_ofInt, BitVec.toNat_ofInt]
    have t1 : ((y : Int) % ((2 ^ 64 : Nat) : Int)).toNat = y := by omega
    have t2 : (((2 ^ k * c : Nat) : Int) % ((2 ^ 64 : Nat) : Int)).toNat = 2 ^ k * c := by omega
    rw [t1, t2, ← h1]
  show IntKind.i64.wrap ((BitVec.ofInt 64 ((2 ^ k * c : Nat) : Int) ||| BitVec.ofInt 64 (y : Int)).toNat : Nat) = _
  rw [key, IntKind.wrap_i64]
  omega

theorem i64_or_sum (X Y : Int) (x y k : Nat) (hk : k ≤ 24) (hx : x < 8589934592) (hy : y < 2 ^ k) (h : x % 2 ^ k = 0) (hX : X = (x : Int)) (hY : Y = (y : Int)) : bits .or .i64 X Y = X + Y := by
  rw [hX, hY, i64_or_low x y k hk hx hy h]
  omega

set_option maxRecDepth 100000 in
set_option maxHeartbeats 1000000 in
theorem fromFourP (T : ByteArray) (w : World) (h4 : 4 ≤ T.size) :
    Calls Tryz.prog 125 #[.string T] w fun e w' => e = .returned (.int .i64 (fromF T.data.toList)) ∧ ∃ m, w' = w.drewN m := by
  have gt : ∀ j (h : j < T.size), T[j].toNat = (T.data.toList.getD j 0).toNat := fun j h => by
    rw [List.getD_eq_getElem?_getD, List.getElem?_eq_getElem (by simpa using h)]
    rfl
  have g0 := gt 0 (by omega)
  have g1 := gt 1 (by omega)
  have g2 := gt 2 (by omega)
  have g3 := gt 3 (by omega)
  have b0 := (T.data.toList.getD 0 0).toNat_lt
  have b1 := (T.data.toList.getD 1 0).toNat_lt
  have b2 := (T.data.toList.getD 2 0).toNat_lt
  have b3 := (T.data.toList.getD 3 0).toNat_lt
  unfold fromF
  generalize (T.data.toList.getD 0 0).toNat = x at *
  generalize (T.data.toList.getD 1 0).toNat = y at *
  generalize (T.data.toList.getD 2 0).toNat = z at *
  generalize (T.data.toList.getD 3 0).toNat = u at *
  clear gt
  have o1 := i64_or_sum ((x : Int) * 16777216) ((y : Int) * 65536) (x * 16777216) (y * 65536) 24 (by omega) (by omega) (by omega) (by omega) (by omega) (by omega)
  have o2 := i64_or_sum ((x : Int) * 16777216 + (y : Int) * 65536) ((z : Int) * 256) (x * 16777216 + y * 65536) (z * 256) 16 (by omega) (by omega) (by omega) (by omega) (by omega) (by omega)
  have o3 := i64_or_sum ((x : Int) * 16777216 + (y : Int) * 65536 + (z : Int) * 256) (u : Int) (x * 16777216 + y * 65536 + z * 256) u 8 (by omega) (by omega) (by omega) (by omega) (by omega) rfl
  have O : Hid (_ ∧ _ ∧ _) := ⟨o1, o2, o3⟩
  clear o1 o2 o3
  go_enter Tryz.func125, Tryz.ntmps125
  go_wp2
  go_quiet (fail)
  go_wp2
  go_ret
  exact ⟨ret_int (by simp only [O.out.1, O.out.2.1, O.out.2.2]), ⟨_, rfl⟩⟩

theorem and15 (x : Nat) (h : x < 256) : bits .and .i64 (x : Int) 15 = ((x % 16 : Nat) : Int) := by
  have : ∀ x : Fin 256, bits .and .i64 ((x.val : Nat) : Int) 15 = ((x.val % 16 : Nat) : Int) := by decide +kernel
  exact this ⟨x, h⟩
theorem and32 (x : Nat) (h : x < 256) : (bits .and .i64 (x : Int) 32 = 0) ↔ x / 32 % 2 = 0 := by
  have : ∀ x : Fin 256, (bits .and .i64 ((x.val : Nat) : Int) 32 = 0) ↔ x.val / 32 % 2 = 0 := by decide +kernel
  exact this ⟨x, h⟩

/-- May these be the first two bytes? -/
def HeadOk (x y : Nat) : Prop := x % 16 = 8 ∧ x / 16 ≤ 7 ∧ y / 32 % 2 = 0 ∧ (256 * x + y) % 31 = 0
instance (x y : Nat) : Decidable (HeadOk x y) := by unfold HeadOk; infer_instance

set_option maxHeartbeats 1000000 in
theorem headP (x y : Nat) (w : World) (hx : x < 256) (hy : y < 256) :
    Calls Tryz.prog 124 #[.int .i64 x, .int .i64 y] w fun e w' => e = .returned (.bool (decide (HeadOk x y))) ∧ w' = w := by
  have h15 : Hid (bits .and .i64 (x : Int) 15 = ((x % 16 : Nat) : Int)) := and15 x hx
  have h32 : Hid ((bits .and .i64 (y : Int) 32 = 0) ↔ y / 32 % 2 = 0) := and32 y hy
  obtain ⟨d, hd⟩ : ∃ d, decide (HeadOk x y) = d := ⟨_, rfl⟩
  have HD : Hid (decide (HeadOk x y) = d) := hd
  rw [hd]
  clear hd
  go_enter Tryz.func124, Tryz.ntmps124
  go_wp2
  all_goals
    go_ret
    refine ⟨ret_bool ?_, rfl⟩
    have h15 := h15.out
    have h32 := h32.out
    rw [← HD.out, Bool.eq_iff_iff]
    rw [decide_eq_true_iff]
    unfold HeadOk
    simp only [beq_iff_eq, Bool.false_eq_true, false_iff]
    omega

end Go.Proofs.YtmfijackgekioaaGreatDoor

/-
  Unwrapping by the program: wrap.Open.
-/
namespace Go.Proofs.YtmfijackgekioaaGreatDoor
open Go.RowKit

def byteAt (s : ByteArray) (i : Nat) : Nat := (s.data.toList.getD i 0).toNat
theorem byteAt_eq (s : ByteArray) (i : Nat) (h : i < s.size) : s[i].toNat = byteAt s i := by
  unfold byteAt
  rw [List.getD_eq_getElem?_getD, List.getElem?_eq_getElem (by simpa using h)]
  rfl

theorem toList_data (T : ByteArray) : T.toList = T.data.toList := ByteArray.toList_eq T

/-- What unpacking the middle comes to. -/
def mid (s : ByteArray) (limit : Int) : Rf.St := Rf.inflate (lw (s.extract 2 s.size)) limit
/-- The number that unwrapping answers. -/
def wcode (s : ByteArray) (limit : Int) : Int :=
  if s.size < 2 ∨ ¬ HeadOk (byteAt s 0) (byteAt s 1) then 8
  else if ((mid s limit).bad || (mid s limit).full) = true then code (mid s limit)
  else if s.size ≠ ((mid s limit).pos + 7) / 8 + 6 then 8
  else if s.data.toList.drop (((mid s limit).pos + 7) / 8 + 2) ≠ four (Mx.adler (mid s limit).out) then 9 else 0
def FineW (s : ByteArray) (limit : Int) : Prop := 2 ≤ s.size → HeadOk (byteAt s 0) (byteAt s 1) → ((mid s limit).bad || (mid s limit).full) = false → (mid s limit).pos ≤ 40000000 ∧ (mid s limit).out.length ≤ 11000000000
def EndsO (s : ByteArray) (limit : Int) (w : World) (e : Ending) (w' : World) : Prop :=
  ((wcode s limit = 0 ∧ e = .returned (.string ⟨(mid s limit).out.toArray⟩)) ∨ (wcode s limit ≠ 0 ∧ e = dies (wcode s limit))) ∧ FineW s limit ∧ Below w.heap.size w w'

set_option maxRecDepth 100000 in
set_option maxHeartbeats 2000000 in
theorem open32 (s : ByteArray) (limit : Int) (w : World) (hs : s.size ≤ 5000000) (hl0 : -9223372036854775808 ≤ limit) (hl1 : limit ≤ 9223372036854775807) :
    Calls Tryz.prog 87 #[.string s, .int .i64 limit] w fun e w' => EndsO s limit w e w' := by
  by_cases h2 : s.size < 2
  · have HC : Hid (wcode s limit = 8) := by show _ = _; rw [wcode, if_pos (.inl h2)]
    have hd2 : decide ((s.size : Int) < 2) = true := decide_eq_true (by omega)
    go_enter Tryz.func87, Tryz.ntmps87
    go_wp2
    go_quiet (fail)
    go_wp2
    refine ⟨rfl, .inr ⟨by rw [HC.out]; decide, by rw [HC.out]⟩, fun h => by omega, below_drewN (Below.refl _ _) _⟩
  · have hx0 := byteAt_eq s 0 (by omega)
    have hy0 := byteAt_eq s 1 (by omega)
    have hx : byteAt s 0 < 256 := by rw [← hx0]; exact s[0].toNat_lt
    have hy : byteAt s 1 < 256 := by rw [← hy0]; exact s[1].toNat_lt
    have hh := fun w => headP (byteAt s 0) (byteAt s 1) w hx hy
    have hd2 : decide ((s.size : Int) < 2) = false := decide_eq_false (by omega)
    obtain ⟨F, hF⟩ : ∃ F, F = mid s limit := ⟨_, rfl⟩
    obtain ⟨WC, hWC⟩ : ∃ c, c = wcode s limit := ⟨_, rfl⟩
    have HNO : Hid (¬ HeadOk (byteAt s 0) (byteAt s 1) → WC = 8 ∧ FineW s limit) := fun h => ⟨by rw [hWC, wcode, if_pos (.inr h)], fun _ h' => absurd h' h⟩
    have HYES : Hid (HeadOk (byteAt s 0) (byteAt s 1) → WC = if (F.bad || F.full) = true then code F else if s.size ≠ (F.pos + 7) / 8 + 6 then 8 else if s.data.toList.drop ((F.pos + 7) / 8 + 2) ≠ four (Mx.adler F.out) then 9 else 0) := fun h => by
      rw [hWC, wcode, if_neg (by rintro (q | q) <;> contradiction), ← hF]
    have HFN : Hid (((F.bad || F.full) = false → F.pos ≤ 40000000 ∧ F.out.length ≤ 11000000000) → FineW s limit) := fun h _ _ q => by rw [← hF] at q ⊢; exact h q
    unfold EndsO
    rw [← hWC, ← hF]
    generalize FineW s limit = FN at *
    obtain ⟨P, hP⟩ : ∃ P, s.extract 2 s.size = P := ⟨_, rfl⟩
    have hby : ∀ w, Calls Tryz.prog 85 #[.string P, .int .i64 limit] w fun e w' => EndsB w F e w' := fun w => by
      rw [hF, mid, hP]
      exact bytes22 P limit w (by rw [← hP, ByteArray.size_extract]; omega) hl0 hl1 (alike_fixed _)
    obtain ⟨n, hn⟩ : ∃ n, s.size = n + 2 := ⟨s.size - 2, by omega⟩
    have hPn : P.size = n := by rw [← hP, ByteArray.size_extract]; omega
    have HPd : Hid (P.data.toList = s.data.toList.drop 2) := by
      show _ = _
      rw [← hP, ByteArray.data_extract, Array.toList_extract]
      rw [List.extract_eq_take_drop, List.take_of_length_le (by simp)]
    have HSZ : Hid (s.size = n + 2) := hn
    clear hF hWC hn
    generalize byteAt s 0 = x at *
    generalize byteAt s 1 = y at *
    by_cases hok : HeadOk x y
    · rw [decide_eq_true hok] at hh
      have HY : Hid (WC = _) := HYES.out hok
      clear HYES HNO
      go_enter Tryz.func87, Tryz.ntmps87
      go_wp2
      go_quiet ((go_at_call 124; exact Calls.quiet_of_same (hh _)))
      go_wp2_with fail
      refine (hby _).mono ?_
      rintro e w1 (⟨f1, f2, rfl, b1, fb1, fb2⟩ | ⟨f1, rfl, b1⟩)
      · have HN : Hid FN := HFN.out fun _ => ⟨fb1, fb2⟩
        rw [if_neg (by rw [f1, f2]; decide), HSZ.out] at HY
        have hom : ByteArray.size ⟨F.out.toArray⟩ ≤ maxLen := by show F.out.toArray.size ≤ _; unfold maxLen; simp; omega
        have hab := fun w => adlerP ⟨F.out.toArray⟩ w hom
        have had : Hid (0 ≤ Mx.adler F.out ∧ Mx.adler F.out < 4294967296) := by
          have h1 := Mx.adS_range F.out
          have h2 := Mx.adT_range F.out
          show _ ∧ _
          unfold Mx.adler; omega
        have HB1 : Hid (Below w.heap.size w w1) := below_drewN (Below.refl _ _) _ |>.trans b1
        obtain ⟨u, hu⟩ : ∃ u, (F.pos + 7) / 8 = u := ⟨_, rfl⟩
        rw [hu] at HY ⊢
        have hub : u ≤ 5000001 := by omega
        clear fb1 fb2 hu HFN hom
        by_cases hlen : n = u + 4
        · rw [if_neg (by omega)] at HY
          subst hlen
          have hne : (((u : Int) + 4 - (u : Int)) != 4) = false := by rw [bne_eq_false_iff_eq]; omega
          obtain ⟨T, hT⟩ : ∃ T, P.extract u (u + 4) = T := ⟨_, rfl⟩
          have HT : Hid (T.data.toList = s.data.toList.drop (u + 2)) := by
            show _ = _
            rw [← hT, ByteArray.data_extract, Array.toList_extract, List.extract_eq_take_drop, HPd.out, List.drop_drop, List.take_of_length_le (by have := HSZ.out; simp; omega), Nat.add_comm]
          rw [← HT.out] at HY
          have hT4 : T.size = 4 := by rw [← hT, ByteArray.size_extract]; omega
          have hff := fun w => fromFourP T w (by omega)
          have HQ : Hid (fromF T.data.toList = Mx.adler F.out ↔ T.data.toList = four (Mx.adler F.out)) := fromF_four _ (by simpa using hT4) _ had.out.1 had.out.2
          have hnb : u + 4 ≤ 5000000 := by have := HSZ.out; omega
          have hab : ∀ w, Calls Tryz.prog 99 #[.string ⟨F.out.toArray⟩] w fun e w' => e = .returned (.int .i64 (Mx.adler F.out)) ∧ w' = w := fun w => by
            have := hab w
            simpa using this
          generalize fromF T.data.toList = ff at *
          generalize four (Mx.adler F.out) = fo at *
          generalize Mx.adler F.out = ad at *
          obtain ⟨b, hb⟩ : ∃ b, (ff != ad) = b := ⟨_, rfl⟩
          have HBQ : Hid ((ff != ad) = b) := hb
          go_wp2_with fail
          refine (hff _).mono ?_
          rintro e w5 ⟨rfl, m5, rfl⟩
          go_wp2_with fail
          refine (hab _).mono ?_
          rintro e w6 ⟨rfl, rfl⟩
          cases b with
          | false =>
            have hq : T.data.toList = fo := HQ.out.1 (by have := HBQ.out; simpa using this)
            have HE : Hid (WC = 0) := by show _ = _; rw [HY.out, if_neg (by rw [hq]; simp)]
            go_wp2
            go_ret
            exact ⟨.inl ⟨HE.out, rfl⟩, HN.out, below_drewN HB1.out _⟩
          | true =>
            have hq : T.data.toList ≠ fo := fun q => by
              have := HBQ.out
              rw [HQ.out.2 q] at this
              simp at this
            have HE : Hid (WC = 9) := by show _ = _; rw [HY.out, if_pos hq]
            go_wp2
            refine ⟨rfl, .inr ⟨by rw [HE.out]; decide, by rw [HE.out]⟩, HN.out, below_drewN HB1.out _⟩
        · rw [if_pos (by omega)] at HY
          have hnb : n ≤ 5000000 := by have := HSZ.out; omega
          have hne : (((n : Int) - (u : Int)) != 4) = true := by rw [bne_iff_ne]; omega
          go_wp2
          refine ⟨rfl, .inr ⟨by rw [HY.out]; decide, by rw [HY.out]⟩, HN.out, HB1.out⟩
      · rw [if_pos f1] at HY
        have HN : Hid FN := HFN.out fun h => by rw [f1] at h; cases h
        have HC : Hid (code F ≠ 0) := by show _ ≠ _; unfold code; split <;> decide
        go_wp2
        refine ⟨rfl, .inr ⟨by rw [HY.out]; exact HC.out, by rw [HY.out]⟩, HN.out, (below_drewN (Below.refl _ _) _).trans b1⟩
    · rw [decide_eq_false hok] at hh
      have HY := HNO.out hok
      clear HYES HNO HFN
      obtain ⟨H1, H2⟩ := HY
      have HH : Hid (WC = 8 ∧ FN) := ⟨H1, H2⟩
      clear H1 H2
      go_enter Tryz.func87, Tryz.ntmps87
      go_wp2
      go_quiet ((go_at_call 124; exact Calls.quiet_of_same (hh _)))
      go_wp2
      refine ⟨rfl, .inr ⟨by rw [HH.out.1]; decide, by rw [HH.out.1]⟩, HH.out.2, below_drewN (Below.refl _ _) _⟩
/-- A number of four bytes at a place. -/
def fourAt (s : ByteArray) (i : Nat) : Int := byteAt s i * 16777216 + byteAt s (i + 1) * 65536 + byteAt s (i + 2) * 256 + byteAt s (i + 3)
theorem byteAt_lt (s : ByteArray) (i : Nat) : byteAt s i < 256 := UInt8.toNat_lt _
theorem drop_four (s : ByteArray) (k : Nat) (h : s.size = k + 4) : s.data.toList.drop k = [s[k], s[k + 1], s[k + 2], s[k + 3]] := by
  have hl : s.data.toList.length = k + 4 := by rw [Array.length_toList]; exact h
  rw [List.drop_eq_getElem_cons (by omega), List.drop_eq_getElem_cons (by omega), List.drop_eq_getElem_cons (by omega), List.drop_eq_getElem_cons (by omega), List.drop_of_length_le (by omega)]
  rfl
theorem four_iff (s : ByteArray) (k : Nat) (h : s.size = k + 4) (a : Int) (h0 : 0 ≤ a) (h1 : a < 4294967296) : s.data.toList.drop k = four a ↔ fourAt s k = a := by
  rw [drop_four s k h, four]
  have e0 := byteAt_eq s k (by omega)
  have e1 := byteAt_eq s (k + 1) (by omega)
  have e2 := byteAt_eq s (k + 2) (by omega)
  have e3 := byteAt_eq s (k + 3) (by omega)
  have l0 := byteAt_lt s k
  have l1 := byteAt_lt s (k + 1)
  have l2 := byteAt_lt s (k + 2)
  have l3 := byteAt_lt s (k + 3)
  have e8 : ∀ (b : UInt8) (n : Int), 0 ≤ n → n < 256 → (b = UInt8.ofNat n.toNat ↔ ((b.toNat : Nat) : Int) = n) := fun b n p0 p1 => by
    rw [← UInt8.toNat_inj, UInt8.toNat_ofNat']
    have := b.toNat_lt
    omega
  simp only [List.cons.injEq, and_true]
  rw [e8 _ _ (by omega) (by omega), e8 _ _ (by omega) (by omega), e8 _ _ (by omega) (by omega), e8 _ _ (by omega) (by omega), e0, e1, e2, e3]
  unfold fourAt
  omega

end Go.Proofs.YtmfijackgekioaaGreatDoor

/-
  Unwrapping: the call's face.
-/
namespace Go.Proofs.YtmfijackgekioaaGreatDoor
open Go.RowKit

theorem ucatch_panicking (p : Addr) (x c : Int) (older : List PanicEntry) (w : World) (hc : w.cell? p = some (.int .i64 x)) (hz : w.frozen? p = false) :
    CallsD Tryz.prog 86 #[.pointer (some p)] (.panicking ({ v := .iface 113 (.int .i64 c), recovered := false } :: older)) w fun e u' w' =>
      e = .returned (.tuple #[]) ∧ u' = .panicking ({ v := .iface 113 (.int .i64 c), recovered := true } :: older) ∧ w' = w.setCell p (.int .i64 c) := by
  refine callsD_of_wpS Tryz.func86 rfl fun c₀ cs hu => ?_
  apply wpS_region
  simp [wpOpsS, go_sem, recoverD, hu, Tryz.ntmps86]
  refine (number_fault c 6 w).mono ?_
  rintro e w' ⟨rfl, rfl⟩
  simp [go_sem, hc, hz, bodyPostS, results, Tryz.results86]

theorem ucatch_idle (p : Addr) (x : Int) (w : World) (hc : w.cell? p = some (.int .i64 x)) (hz : w.frozen? p = false) :
    CallsD Tryz.prog 86 #[.pointer (some p)] .returning w fun e u' w' => e = .returned (.tuple #[]) ∧ u' = .returning ∧ w' = w.setCell p (.int .i64 0) := by
  refine callsD_of_wpS Tryz.func86 rfl fun c₀ cs hu => ?_
  apply wpS_region
  simp [wpOpsS, go_sem, recoverD, hu, Tryz.ntmps86]
  refine (number_nil 6 w).mono ?_
  rintro e w' ⟨rfl, rfl⟩
  simp [go_sem, hc, hz, bodyPostS, results, Tryz.results86]
  cases c₀
  simp_all

/-- What unwrapping answers: the text. -/
def wtext (s : ByteArray) (limit : Int) : ByteArray := if wcode s limit = 0 then ⟨(mid s limit).out.toArray⟩ else ⟨#[]⟩

set_option maxRecDepth 100000 in
set_option maxHeartbeats 2000000 in
theorem unwrap15 (s : ByteArray) (limit : Int) (w : World) (hs : s.size ≤ 5000000) (hl0 : -9223372036854775808 ≤ limit) (hl1 : limit ≤ 9223372036854775807) :
    Calls Tryz.prog 46 #[.string s, .int .i64 limit] w fun e w' => e = .returned (.tuple #[.string (wtext s limit), .int .i64 (wcode s limit)]) ∧ FineW s limit ∧ Below w.heap.size w w' := by
  have hmf : ∀ (fn : Fn) (first cap : Array Value) (w : World), (Instr.makeFunc fn first cap).run Tryz.prog w = .ok (.func fn first cap) w := fun _ _ _ _ => rfl
  have hby := open32 s limit (w.alloc (.cells #[.int .i64 0] 34)) hs hl0 hl1
  unfold EndsO at hby
  have HT : Hid (wtext s limit = if wcode s limit = 0 then ⟨(mid s limit).out.toArray⟩ else ⟨#[]⟩) := rfl
  generalize wtext s limit = TX at *
  generalize wcode s limit = cd at *
  generalize mid s limit = F at *
  generalize FineW s limit = FN at *
  go_enter_defers Tryz.func46, Tryz.ntmps46
  go_wp2_with fail
  refine hby.mono ?_
  rintro e w1 ⟨⟨f1, rfl⟩ | ⟨f1, rfl⟩, HN, b1⟩
  · rw [World.size_alloc] at b1
    have hb : w1.heap[w.heap.size]? = some (.cells #[.int .i64 0] 34 (0, 0)) := (b1.block _ (by omega)).trans (blk_new w _)
    obtain ⟨c0, cz, clt⟩ := one_cell hb
    have HB : Hid (Below w.heap.size w w1) := ((Below.refl _ _).alloc (Nat.le_refl _) _).trans (b1.mono (by omega))
    rw [if_pos f1] at HT
    have HN : Hid FN := HN
    subst f1
    have hset := one_set hb (.int .i64 0)
    obtain ⟨d0, dz, dlt⟩ := one_cell hset
    clear hby b1 hb
    go_wp2
    refine leaves_cons (f := 86) (args := #[.pointer (some ⟨w.heap.size, 0, none⟩)]) (by simp) (by simp [go_sem]) ?_
    refine (ucatch_idle ⟨w.heap.size, 0, none⟩ 0 _ d0 dz).mono ?_
    rintro e u' w'' ⟨rfl, rfl, rfl⟩
    have hset2 := one_set hset (.int .i64 0)
    obtain ⟨x0, xz, xlt⟩ := one_cell hset2
    simp [Leaves, settle, results, Tryz.results46, go_sem, x0]
    rw [HT.out]
    exact ⟨rfl, HN.out, (HB.out.setCell (p := ⟨w.heap.size, 0, none⟩) (Nat.le_refl _) _).setCell (p := ⟨w.heap.size, 0, none⟩) (Nat.le_refl _) _⟩
  · rw [World.size_alloc] at b1
    have hb : w1.heap[w.heap.size]? = some (.cells #[.int .i64 0] 34 (0, 0)) := (b1.block _ (by omega)).trans (blk_new w _)
    obtain ⟨c0, cz, clt⟩ := one_cell hb
    have HB : Hid (Below w.heap.size w w1) := ((Below.refl _ _).alloc (Nat.le_refl _) _).trans (b1.mono (by omega))
    rw [if_neg f1] at HT
    have HN : Hid FN := HN
    clear hby b1 f1
    go_wp2
    refine leaves_cons (f := 86) (args := #[.pointer (some ⟨w.heap.size, 0, none⟩)]) (by simp) (by simp [go_sem]) ?_
    refine (ucatch_panicking ⟨w.heap.size, 0, none⟩ 0 cd [] _ c0 cz).mono ?_
    rintro e u' w'' ⟨rfl, rfl, rfl⟩
    have hset2 := one_set hb (.int .i64 cd)
    obtain ⟨x0, xz, xlt⟩ := one_cell hset2
    simp [Leaves, settle, results, Tryz.results46, go_sem, x0]
    rw [HT.out]
    exact ⟨rfl, HN.out, HB.out.setCell (p := ⟨w.heap.size, 0, none⟩) (Nat.le_refl _) _⟩

end Go.Proofs.YtmfijackgekioaaGreatDoor
