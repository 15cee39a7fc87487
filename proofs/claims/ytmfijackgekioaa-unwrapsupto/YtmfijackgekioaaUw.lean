/-
  Unpacking by the program.
-/
import Derived.Test.YtmfijackgekioaaUv
namespace Go.Proofs.Ytmfijackgekioaa
open Go.RowKit Go.Maps

theorem infF_stop (L : List Int) (limit : Int) (f : Nat) (last : Int) (st : Rf.St) (h : last ≠ 0 ∨ (st.bad || st.full) = true) : Rf.infF L limit f last st = st := by
  cases f with
  | zero => rfl
  | succ f => rw [Rf.infF, if_pos h]
theorem infF_step (L : List Int) (limit : Int) (f : Nat) (st st1 st2 : Rf.St) (a k : Int) (hb : st.bad = false) (hf : st.full = false) (h1 : Rf.take L st 1 = (a, st1)) (h2 : Rf.take L st1 2 = (k, st2)) :
    Rf.infF L limit (f + 1) 0 st = if st2.bad = true then st2 else Rf.infF L limit f a (Rf.block L limit k { st2 with kinds := st2.kinds ++ [k] }) := by
  rw [Rf.infF, if_neg (by rw [hb, hf]; simp), h1]
  simp only
  rw [h2]

/-- How Bytes ends. -/
def EndsB (w : World) (F : Rf.St) (e : Ending) (w' : World) : Prop :=
  (F.bad = false ∧ F.full = false ∧ e = .returned (.tuple #[.string ⟨F.out.toArray⟩, .int .i64 (((F.pos + 7) / 8 : Nat) : Int)]) ∧ Below w.heap.size w w' ∧ F.pos ≤ 8388608 ∧ F.out.length ≤ 3000000000) ∨ ((F.bad || F.full) = true ∧ e = dies (code F) ∧ Below w.heap.size w w')

theorem once_not {w : World} {b : Nat} (h : Once w b) : (∀ c fr, w.heap[b + 1]? ≠ some (.cells c 5 fr)) ∧ (∀ c fr, w.heap[b + 2]? ≠ some (.cells c 5 fr)) := by
  rcases h.ex with ⟨g1, g2⟩ | ⟨M1, s1, l1, M2, s2, l2, g1, g2, _⟩
  · exact ⟨fun c fr => by rw [g1]; simp, fun c fr => by rw [g2]; simp⟩
  · exact ⟨fun c fr => by rw [g1]; simp, fun c fr => by rw [g2]; simp⟩
theorem bit_test (a : Int) (h : a = 0 ∨ a = 1) : (a == 1) = decide (a ≠ 0) := by rcases h with rfl | rfl <;> rfl

set_option maxRecDepth 100000 in
set_option maxHeartbeats 16000000 in
theorem bytes22 (s : ByteArray) (limit : Int) (w : World) (hs : s.size ≤ 1048576) (hl0 : -9223372036854775808 ≤ limit) (hl1 : limit ≤ 9223372036854775807) (hfx : Alike s fixP Rf.fixD) :
    Calls Try.prog 22 #[.string s, .int .i64 limit] w fun e w' => EndsB w (Rf.inflate (lw s) limit) e w' := by
  obtain ⟨RES, hRES⟩ : ∃ RES, RES = Rf.inflate (lw s) limit := ⟨_, rfl⟩
  rw [← hRES]
  have HR0 : Hid (RES = Rf.infF (lw s) limit (8 * s.size + 2) 0 ⟨0, false, false, [], []⟩) := by show _ = _; rw [hRES, Rf.inflate, lw_length]
  clear hRES
  obtain ⟨lim, hlim⟩ : ∃ lim : Int, lim = max limit 0 := ⟨_, rfl⟩
  have hmx : (if (0 : Int) > limit then (0 : Int) else limit) = lim := by rw [hlim]; split <;> omega
  have hmx2 : (if limit < (0 : Int) then (0 : Int) else limit) = lim := by rw [hlim]; split <;> omega
  have HLIM : Hid (lim = max limit 0) := hlim
  obtain ⟨R, hR⟩ : ∃ R, R = w.heap.size := ⟨_, rfl⟩
  have hsk := sink34 R lim ((w.alloc (.cells #[.string s, .int .i64 0] 56)).alloc (.cells #[.slice none 0 0] 39)) (by simp; omega)
  rw [hR] at hsk
  clear hlim
  go_enter Try.func22, Try.ntmps22
  go_wp2_with fail
  refine hsk.mono ?_
  rintro e w3 ⟨rfl, hsz3, g2, g3, g5, b3⟩
  have g0 : w3.heap[w.heap.size]? = some (.cells #[.string s, .int .i64 0] 56 (0, 0)) := (b3.block _ (by omega)).trans (blk_old (blk_new w _) _)
  have g1 : w3.heap[w.heap.size + 1]? = some (.cells #[.slice none 0 0] 39 (0, 0)) := (b3.block _ (by omega)).trans (by have h9 := blk_new (w.alloc (.cells #[.string s, .int .i64 0] 56)) (.cells #[.slice none 0 0] 39); rw [World.size_alloc] at h9; exact h9)
  have B3 : Below w.heap.size w w3 := (((Below.refl _ _).alloc (Nat.le_refl _) _).alloc (by simp) _).trans (b3.mono (by omega))
  have P3 : Pg w3 s w.heap.size limit ⟨0, false, false, [], []⟩ (.slice none 0 0) := ⟨g0, g1, g2, by rw [← HLIM.out]; exact g3, g5, World.ownsRow_nil _ _ _ _, Nat.zero_le _, hs, hl1, by show (0 : Int) ≤ _; omega, rfl, rfl⟩
  clear hsk b3 g0 g1 g2 g3 g5 hmx hmx2 hR
  obtain ⟨T, hT⟩ : ∃ T, T = w.heap.size + 6 := ⟨_, rfl⟩
  have hRT : w.heap.size + 5 < T := by omega
  have hmk := make35 (w3.alloc (.cells (sinkC w.heap.size) 61))
  simp only [World.size_alloc] at hmk
  rw [hsz3, ← hT] at hmk
  go_wp2_with fail
  rw [← hT]
  refine hmk.mono ?_
  rintro e w4 ⟨rfl, O4, b4, hsz4⟩
  have P4 : Pg w4 s w.heap.size limit ⟨0, false, false, [], []⟩ (.slice none 0 0) := by
    have k4 : Kp (· = w.heap.size) w3 w4 := ⟨b4.os, b4.tape, b4.output, by omega, fun k hk _ => (b4.block k (by omega)).trans (Below.heap_alloc w3 _ k hk)⟩
    exact P3.read k4 ((b4.block _ (by omega)).trans (blk_old P3.rd _)) (Nat.zero_le _) rfl rfl rfl
  have B4 : Below w.heap.size w w4 := B3.trans ((((Below.refl w.heap.size w3).alloc (by omega) _)).trans (b4.mono (by omega)))
  have HTO : Hid (w4.heap[T]? = some (.cells (sinkC w.heap.size) 61 (0, 0))) := (b4.block _ (by omega)).trans (by rw [hT, ← hsz3]; exact blk_new w3 _)
  clear hmk b4 P3 B3 hsz4 hsz3
  have HT2 : Hid (T = w.heap.size + 6) := hT
  clear hT
  go_wp2
  go_loopw [10] (fun v wr => ∃ (f : Nat) (last : Int) (st : Rf.St) (ov : Value), (last = 0 ∨ last = 1) ∧ v = .bool (decide (last ≠ 0)) ∧ Pg wr s w.heap.size limit st ov ∧ Once wr (T + 1) ∧ Hid (wr.heap[T]? = some (.cells (sinkC w.heap.size) 61 (0, 0))) ∧ Below w.heap.size w wr ∧ Hid (RES = Rf.infF (lw s) limit f last st) ∧ 8 * s.size + 2 ≤ f + st.pos ∧ Hid (st.out.length ≤ 258 * st.pos)) (fun _ wr => 8 * s.size - posR w.heap.size wr)
  case atStart => exact ⟨8 * s.size + 2, 0, _, _, .inl rfl, rfl, P4, O4, HTO, B4, HR0, by omega, Nat.zero_le _⟩
  case round =>
    clear P4 O4 HTO B4 HR0
    obtain ⟨f, last, st, ov, h01, rfl, P1, O1, HTO, B1, HF, hfu, HO⟩ := hrel
    have hp1 := P1.hp
    obtain ⟨f, rfl⟩ : ∃ g, f = g + 1 := ⟨f - 1, by omega⟩
    rcases h01 with rfl | rfl
    · have hposW : Hid (posR w.heap.size wr = st.pos) := P1.rd.posR
      have HST := infF_step (lw s) limit f st (Rf.take (lw s) st 1).2 (Rf.take (lw s) (Rf.take (lw s) st 1).2 2).2 (Rf.take (lw s) st 1).1 (Rf.take (lw s) (Rf.take (lw s) st 1).2 2).1 P1.nb P1.nf rfl rfl
      rw [← HF.out] at HST
      have HS1 : Hid (RES = _) := HST
      have n1 := number37 1 s w.heap.size st wr P1.rd hs hp1 P1.nb (by omega)
      have g1 := Rf.take_range (lw_bits s) st 1
      have o1 := Rf.take_out (lw s) st 1
      have p1 := Rf.take_pos (lw s) st 1 (by rw [lw_length]; exact hp1)
      have tb1 := Rf.take_bad (lw s) st 1
      clear HST HF
      generalize Rf.take (lw s) st 1 = A at *
      obtain ⟨a, st1⟩ := A
      simp only at HS1 n1 g1 o1 p1 tb1
      rw [lw_length] at p1
      have hd0 : decide ((0 : Int) ≠ 0) = false := by decide
      go_wp2_with fail
      refine n1.mono ?_
      rintro e w2 (⟨q1, rfl, r2, k2⟩ | ⟨q1, rfl, k2⟩)
      case inr =>
        go_wp2
        have hb2 := take_worse (lw s) st1 2 q1
        have e1 : RES = (Rf.take (lw s) st1 2).2 := by rw [HS1.out, if_pos hb2]
        have ef : RES.full = false := by rw [e1, (Rf.take_out _ _ _).2.2, o1.2.2]; exact P1.nf
        exact ⟨rfl, .inr ⟨by rw [e1, hb2]; rfl, by rw [code_bad ef], B1.trans (k2.below (by have := P1.lt; omega) (fun k _ h => by omega))⟩⟩
      case inl =>
      have P2 : Pg w2 s w.heap.size limit st1 ov := P1.read k2 r2 p1 o1.1 q1 (o1.2.2.trans P1.nf)
      have F2 := FrP.ofKp (by have := P1.lt; omega) k2
      have O2 := O1.kept (by omega) F2
      have HTO2 : Hid (w2.heap[T]? = some (.cells (sinkC w.heap.size) 61 (0, 0))) := (k2.block _ (lt_of_block HTO.out) (by omega)).trans HTO.out
      have B2 := B1.trans F2.below
      have ps1 := tb1 q1
      have ha01 : a = 0 ∨ a = 1 := by have := g1.1; have := g1.2; omega
      have hbt := bit_test a ha01
      have ho1 := o1.1
      clear P1 O1 HTO B1 F2 k2 r2 n1 o1 tb1 g1 hd0
      have HS2 := HS1
      have n2 := number37 2 s w.heap.size st1 w2 P2.rd hs p1 q1 (by omega)
      have g2 := Rf.take_range (lw_bits s) st1 2
      have o2 := Rf.take_out (lw s) st1 2
      have p2 := Rf.take_pos (lw s) st1 2 (by rw [lw_length]; exact p1)
      have tb2 := Rf.take_bad (lw s) st1 2
      clear HS1
      generalize Rf.take (lw s) st1 2 = A at *
      obtain ⟨k, st2⟩ := A
      simp only at HS2 n2 g2 o2 p2 tb2
      rw [lw_length] at p2
      go_wp2_with fail
      refine n2.mono ?_
      rintro e w3 (⟨q2, rfl, r3, k3⟩ | ⟨q2, rfl, k3⟩)
      case inr =>
        go_wp2
        have e1 : RES = st2 := by rw [HS2.out, if_pos q2]
        have ef : RES.full = false := by rw [e1, o2.2.2]; exact P2.nf
        exact ⟨rfl, .inr ⟨by rw [e1, q2]; rfl, by rw [code_bad ef], B2.trans (k3.below (by have := P2.lt; omega) (fun k _ h => by omega))⟩⟩
      case inl =>
      rw [if_neg (by rw [q2]; decide)] at HS2
      have P3 : Pg w3 s w.heap.size limit { st2 with kinds := st2.kinds ++ [k] } ov := P2.read k3 r3 p2 o2.1 q2 (o2.2.2.trans P2.nf)
      have F3 := FrP.ofKp (by have := P2.lt; omega) k3
      have O3 := O2.kept (by omega) F3
      have HTO3 : Hid (w3.heap[T]? = some (.cells (sinkC w.heap.size) 61 (0, 0))) := (k3.block _ (lt_of_block HTO2.out) (by omega)).trans HTO2.out
      have B3 := B2.trans F3.below
      have ps2 := tb2 q2
      have hpos : st2.pos = st.pos + 3 := by have := ps2.1; have := ps1.1; omega
      have hout2 : st2.out = st.out := o2.1.trans ho1
      have HO3 : Hid (st2.out.length ≤ 258 * st2.pos) := by have := HO.out; show _ ≤ _; rw [hout2]; omega
      have hk0 : 0 ≤ k := g2.1
      have hk4 : k < 4 := by have := g2.2; omega
      have hgb := fun kk => Rf.grow_block (lw_bits s) limit kk { st2 with kinds := st2.kinds ++ [k] }
      obtain ⟨c0, c1, c2, cz, clt⟩ := tcells HTO3.out
      clear P2 O2 HTO2 B2 F3 k3 r3 n2 o2 tb2 g2 ps1 ps2 HO hout2 ho1
      rcases (show k = 0 ∨ k = 1 ∨ k = 2 ∨ k = 3 by omega) with rfl | rfl | rfl | rfl
      · have e : Rf.block (lw s) limit 0 { st2 with kinds := st2.kinds ++ [0] } = Rf.plain (lw s) limit { st2 with kinds := st2.kinds ++ [0] } := if_pos rfl
        have hg := hgb 0
        rw [e] at HS2 hg
        clear e hgb
        have HL29 : Hid (st2.out.length ≤ 2900000000) := by have := HO3.out; show _ ≤ _; omega
        go_wp2_with fail
        refine (stored38 s w.heap.size limit { st2 with kinds := st2.kinds ++ [0] } ov _ P3 HL29).mono ?_
        rintro e w5 hE
        generalize Rf.plain (lw s) limit { st2 with kinds := st2.kinds ++ [0] } = F at *
        rcases hE with ⟨f1, f2, rfl, ⟨ov5, P5⟩, F5⟩ | ⟨f1, rfl, F5⟩
        · have O5 := O3.kept (by omega) F5
          have HTO5 : Hid (w5.heap[T]? = some (.cells (sinkC w.heap.size) 61 (0, 0))) := (F5.other _ clt (by omega) (by omega) (fun c fr => by rw [HTO3.out]; simp)).trans HTO3.out
          have B5 := B3.trans F5.below
          have hg1 : st2.pos ≤ F.pos := hg.1
          have hg2 : F.out.length + 258 * st2.pos ≤ st2.out.length + 258 * F.pos := hg.2
          clear P3 O3 HTO3 B3 F5 c0 c1 c2 cz clt hg
          go_wp2
          go_roundw
          case rel => exact ⟨f, a, F, ov5, ha01, by simp, P5, O5, HTO5, B5, HS2, by omega, by have := HO3.out; show _ ≤ _; omega⟩
          case measure => rw [P5.rd.posR, hposW.out]; omega
        · go_wp2
          have e1 : RES = F := by rw [HS2.out]; exact infF_stop _ _ _ _ _ (.inr f1)
          exact ⟨rfl, .inr ⟨by rw [e1]; exact f1, by rw [e1], B3.trans F5⟩⟩
      · have e : Rf.block (lw s) limit 1 { st2 with kinds := st2.kinds ++ [1] } = Rf.symbols (lw s) limit Rf.fixS Rf.fixD { st2 with kinds := st2.kinds ++ [1] } := (if_neg (by decide)).trans (if_pos rfl)
        have hg := hgb 1
        rw [e] at HS2 hg
        clear e hgb
        have O3d : Once w3.drew (T + 1) := ⟨O3.f, O3.ex⟩
        have hon := once58 (T + 1) w3.drew O3d
        have hsy := fun M1 s1 l1 M2 s2 l2 w5 P5 T1 T2 m1 m2 => syms39 s w.heap.size limit M1 s1 l1 M2 s2 l2 Rf.fixS fixP Rf.fixD { st2 with kinds := st2.kinds ++ [1] } ov w5 P5 T1 T2 m1 m2 hfx HO3
        generalize Rf.fixS = FS at *
        generalize fixP = FP at *
        generalize Rf.fixD = FD at *
        generalize Rf.symbols (lw s) limit FS FD { st2 with kinds := st2.kinds ++ [1] } = F at *
        go_wp2
        have hS : w3.drew.cell? ⟨T, 0, none⟩ = some (needV w.heap.size) ∧ w3.drew.cell? ⟨T, 1, none⟩ = some (putV w.heap.size) ∧ w3.drew.cell? ⟨T, 2, none⟩ = some (againV w.heap.size) := ⟨c0, c1, c2⟩
        refine regionZ (by kernel_rfl) (fun w' => w'.cell? ⟨T, 0, none⟩ = some (needV w.heap.size) ∧ w'.cell? ⟨T, 1, none⟩ = some (putV w.heap.size) ∧ w'.cell? ⟨T, 2, none⟩ = some (againV w.heap.size)) 99 ?_
        refine anyZ_take (i := 0) (v := ?_) rfl (by kernel_rfl) (by kernel_rfl) (by kernel_rfl) (by kernel_rfl) (fun _ _ _ h => h) (by rfl) ?_ hS ?_
        rotate_left
        · intro w hSw; (try dsimp only at hSw); obtain ⟨hSw1, hSw2, hSw3⟩ := hSw; go_simp; try with_reducible rfl
        try simp only [Act.put]
        refine anyZ_take (i := 1) (v := ?_) rfl (by kernel_rfl) (by kernel_rfl) (by kernel_rfl) (by kernel_rfl) (fun _ _ _ h => h) (by rfl) ?_ hS ?_
        rotate_left
        · intro w hSw; (try dsimp only at hSw); obtain ⟨hSw1, hSw2, hSw3⟩ := hSw; go_simp; try with_reducible rfl
        try simp only [Act.put]
        refine anyZ_take (i := 3) (v := ?_) rfl (by kernel_rfl) (by kernel_rfl) (by kernel_rfl) (by kernel_rfl) (fun _ _ _ h => h) (by rfl) ?_ hS ?_
        rotate_left
        · intro w hSw; (try dsimp only at hSw); obtain ⟨hSw1, hSw2, hSw3⟩ := hSw; go_simp; try with_reducible rfl
        try simp only [Act.put]
        refine anyZ_one (i := 2) (by kernel_rfl) rfl (fun K hK => ?_)
        go_simp
        refine hon.mono ?_
        rintro e w5 ⟨M1, s1, l1, M2, s2, l2, rfl, T1, T2, m1, m2, O5, k5⟩
        have P5 : Pg w5 s w.heap.size limit { st2 with kinds := st2.kinds ++ [1] } ov := (P3.drewN 1).once (b := T + 1) (by omega) k5 (fun g hg9 => ⟨P3.notOwn (once_not O3).1 g hg9, P3.notOwn (once_not O3).2 g hg9⟩)
        have HTO5 : Hid (w5.heap[T]? = some (.cells (sinkC w.heap.size) 61 (0, 0))) := (k5.block T clt (by omega)).trans HTO3.out
        have B5 : Below w.heap.size w3 w5 := (below_drewN (Below.refl w.heap.size w3) 1).trans (k5.below (by have := P3.lt; show _ ≤ w3.heap.size; omega) (fun k _ h => by omega))
        have hS5 := tcells HTO5.out
        refine hK _ _ (fun _ => ⟨hS5.1, hS5.2.1, hS5.2.2.1⟩) ?_
        clear hK K
        refine anyZ_one (i := 4) (by kernel_rfl) rfl (fun K hK => ?_)
        go_simp
        refine (hsy M1 s1 l1 M2 s2 l2 w5 P5 T1 T2 (by omega) (by omega)).mono ?_
        clear hsy hon O3d T1 T2 k5
        rintro e w6 hE
        have hg1 : st2.pos ≤ F.pos := hg.1
        have hg2 : F.out.length + 258 * st2.pos ≤ st2.out.length + 258 * F.pos := hg.2
        rcases hE with ⟨f1, f2, rfl, ⟨ov6, P6⟩, F6⟩ | ⟨f1, rfl, F6⟩
        case inr =>
          have e1 : RES = F := by rw [HS2.out]; exact infF_stop _ _ _ _ _ (.inr f1)
          exact ⟨rfl, .inr ⟨by rw [e1]; exact f1, by rw [e1], (B3.trans B5).trans F6⟩⟩
        case inl =>
        have O6 := O5.kept (by omega) F6
        have HTO6 : Hid (w6.heap[T]? = some (.cells (sinkC w.heap.size) 61 (0, 0))) := (F6.other _ (lt_of_block HTO5.out) (by omega) (by omega) (fun c fr => by rw [HTO5.out]; simp)).trans HTO5.out
        have B6 := (B3.trans B5).trans F6.below
        have hS6 := tcells HTO6.out
        refine hK _ _ (fun _ => ⟨hS6.1, hS6.2.1, hS6.2.2.1⟩) ?_
        clear hK K
        refine anyZ_done (by kernel_rfl) ?_ _
        clear P3 O3 HTO3 B3 B5 P5 O5 HTO5 F6 c0 c1 c2 cz clt hg hS hS5 hS6
        go_wp2
        go_roundw
        case rel => exact ⟨f, a, F, ov6, ha01, by simp, P6, O6, HTO6, B6, HS2, by omega, by have := HO3.out; show _ ≤ _; omega⟩
        case measure => rw [P6.rd.posR, hposW.out]; omega
      · have e : Rf.block (lw s) limit 2 { st2 with kinds := st2.kinds ++ [2] } = Rf.own (lw s) limit { st2 with kinds := st2.kinds ++ [2] } := (if_neg (by decide)).trans ((if_neg (by decide)).trans (if_pos rfl))
        have hg := hgb 2
        rw [e] at HS2 hg
        clear e hgb
        have htb := tables40 s w.heap.size limit { st2 with kinds := st2.kinds ++ [2] } w3.drew P3.rd hs p2 q2 P3.nf
        generalize Rf.own (lw s) limit { st2 with kinds := st2.kinds ++ [2] } = F at *
        go_wp2
        have hS : w3.drew.cell? ⟨T, 0, none⟩ = some (needV w.heap.size) ∧ w3.drew.cell? ⟨T, 1, none⟩ = some (putV w.heap.size) ∧ w3.drew.cell? ⟨T, 2, none⟩ = some (againV w.heap.size) := ⟨c0, c1, c2⟩
        refine regionZ (by kernel_rfl) (fun w' => w'.cell? ⟨T, 0, none⟩ = some (needV w.heap.size) ∧ w'.cell? ⟨T, 1, none⟩ = some (putV w.heap.size) ∧ w'.cell? ⟨T, 2, none⟩ = some (againV w.heap.size)) 99 ?_
        refine anyZ_take (i := 0) (v := ?_) rfl (by kernel_rfl) (by kernel_rfl) (by kernel_rfl) (by kernel_rfl) (fun _ _ _ h => h) (by rfl) ?_ hS ?_
        rotate_left
        · intro w hSw; (try dsimp only at hSw); obtain ⟨hSw1, hSw2, hSw3⟩ := hSw; go_simp; try with_reducible rfl
        try simp only [Act.put]
        refine anyZ_take (i := 1) (v := ?_) rfl (by kernel_rfl) (by kernel_rfl) (by kernel_rfl) (by kernel_rfl) (fun _ _ _ h => h) (by rfl) ?_ hS ?_
        rotate_left
        · intro w hSw; (try dsimp only at hSw); obtain ⟨hSw1, hSw2, hSw3⟩ := hSw; go_simp; try with_reducible rfl
        try simp only [Act.put]
        refine anyZ_take (i := 3) (v := ?_) rfl (by kernel_rfl) (by kernel_rfl) (by kernel_rfl) (by kernel_rfl) (fun _ _ _ h => h) (by rfl) ?_ hS ?_
        rotate_left
        · intro w hSw; (try dsimp only at hSw); obtain ⟨hSw1, hSw2, hSw3⟩ := hSw; go_simp; try with_reducible rfl
        try simp only [Act.put]
        refine anyZ_one (i := 2) (by kernel_rfl) rfl (fun K hK => ?_)
        go_simp
        refine htb.mono ?_
        rintro e w5 (⟨M1, s1, l1, M2, s2, l2, ls, far, st3, eF, x1, x2, x3, x4, x5, x6, rfl, T1, T2, m1, m2, r5, k5⟩ | ⟨x1, x2, rfl, k5⟩)
        case inr =>
          have e1 : RES = F := by rw [HS2.out]; exact infF_stop _ _ _ _ _ (.inr (by rw [x1]; rfl))
          exact ⟨rfl, .inr ⟨by rw [e1, x1]; rfl, by rw [e1, code_bad x2], (B3.trans (below_drewN (Below.refl w.heap.size w3) 1)).trans (k5.below (by have := P3.lt; show _ ≤ w3.heap.size; omega) (fun k _ h => by omega))⟩⟩
        case inl =>
        have P5 : Pg w5 s w.heap.size limit st3 ov := (P3.drewN 1).read k5 r5 x4 x3 x1 x2
        have F5 : FrP w.heap.size w3 w5 := ((FrP.refl w.heap.size w3).drewN 1).trans (FrP.ofKp (by have := P3.lt; show _ ≤ w3.heap.size; omega) k5)
        have O5 := O3.kept (by omega) F5
        have HTO5 : Hid (w5.heap[T]? = some (.cells (sinkC w.heap.size) 61 (0, 0))) := (k5.block T clt (by omega)).trans HTO3.out
        have B5 : Below w.heap.size w3 w5 := F5.below
        have hS5 := tcells HTO5.out
        have x5' : st2.pos ≤ st3.pos := x5
        have x3' : st3.out = st2.out := x3
        have HO5 : Hid (st3.out.length ≤ 258 * st3.pos) := by have := HO3.out; show _ ≤ _; rw [x3']; omega
        have hlt3 := P3.lt
        have m1' : w3.heap.size ≤ M1 := m1
        have m2' : w3.heap.size ≤ M2 := m2
        refine hK _ _ (fun _ => ⟨hS5.1, hS5.2.1, hS5.2.2.1⟩) ?_
        clear hK K
        refine anyZ_one (i := 4) (by kernel_rfl) rfl (fun K hK => ?_)
        go_simp
        refine (syms39 s w.heap.size limit M1 s1 l1 M2 s2 l2 ls far far st3 ov w5 P5 T1 T2 (by omega) (by omega) (alike_self s far x6) HO5).mono ?_
        rw [← eF]
        clear htb T1 T2 k5 F5 x1 x2 x3 x3' r5
        rintro e w6 hE
        have hg1 : st2.pos ≤ F.pos := hg.1
        have hg2 : F.out.length + 258 * st2.pos ≤ st2.out.length + 258 * F.pos := hg.2
        rcases hE with ⟨f1, f2, rfl, ⟨ov6, P6⟩, F6⟩ | ⟨f1, rfl, F6⟩
        case inr =>
          have e1 : RES = F := by rw [HS2.out]; exact infF_stop _ _ _ _ _ (.inr f1)
          exact ⟨rfl, .inr ⟨by rw [e1]; exact f1, by rw [e1], (B3.trans B5).trans F6⟩⟩
        case inl =>
        have O6 := O5.kept (by omega) F6
        have HTO6 : Hid (w6.heap[T]? = some (.cells (sinkC w.heap.size) 61 (0, 0))) := (F6.other _ (lt_of_block HTO5.out) (by omega) (by omega) (fun c fr => by rw [HTO5.out]; simp)).trans HTO5.out
        have B6 := (B3.trans B5).trans F6.below
        have hS6 := tcells HTO6.out
        refine hK _ _ (fun _ => ⟨hS6.1, hS6.2.1, hS6.2.2.1⟩) ?_
        clear hK K
        refine anyZ_done (by kernel_rfl) ?_ _
        clear P3 O3 HTO3 B3 B5 P5 O5 HTO5 F6 c0 c1 c2 cz clt hg hS hS5 hS6
        go_wp2
        go_roundw
        case rel => exact ⟨f, a, F, ov6, ha01, by simp, P6, O6, HTO6, B6, HS2, by omega, by have := HO3.out; show _ ≤ _; omega⟩
        case measure => rw [P6.rd.posR, hposW.out]; omega
      · have e : Rf.block (lw s) limit 3 { st2 with kinds := st2.kinds ++ [3] } = { st2 with kinds := st2.kinds ++ [3], bad := true } := (if_neg (by decide)).trans ((if_neg (by decide)).trans (if_neg (by decide)))
        rw [e] at HS2
        go_wp2
        have e1 : RES = { st2 with kinds := st2.kinds ++ [3], bad := true } := by rw [HS2.out]; exact infF_stop _ _ _ _ _ (.inr rfl)
        exact ⟨rfl, .inr ⟨by rw [e1]; rfl, by rw [e1, code_bad (by exact P3.nf)], B3⟩⟩
    · have HE : Hid (RES = st) := by show _ = _; rw [HF.out]; exact infF_stop _ _ _ _ _ (.inl (by decide))
      have hcv := own_string P1.ho rfl
      have hw1 := P1.rd
      obtain ⟨o1, o2, o3, o4, o5⟩ := P1.cells
      have hus := used41 s w.heap.size st.pos wr.drew P1.rd (by omega)
      have hcv2 : (convert 39 9 ov).run Try.prog wr.drew = .ok (.string ⟨st.out.toArray⟩) wr.drew := own_string (w := wr.drew) P1.ho rfl
      have HBD : Hid (RES.pos ≤ 8388608 ∧ RES.out.length ≤ 3000000000) := by have h1 := HO.out; have h2 := P1.hp; show _ ∧ _; rw [HE.out]; exact ⟨by omega, by omega⟩
      have HE2 : Hid (RES.bad = false ∧ RES.full = false) := by show _ ∧ _; rw [HE.out]; exact ⟨P1.nb, P1.nf⟩
      go_wp2
      have hS : wr.drew.cell? ⟨w.heap.size + 1, 0, none⟩ = some ov ∧ (convert 39 9 ov).run Try.prog wr.drew = .ok (.string ⟨st.out.toArray⟩) wr.drew ∧ True := ⟨o1, hcv2, trivial⟩
      refine regionZ (by kernel_rfl) (fun w' => w'.cell? ⟨w.heap.size + 1, 0, none⟩ = some ov ∧ (convert 39 9 ov).run Try.prog w' = .ok (.string ⟨st.out.toArray⟩) w' ∧ True) 99 ?_
      refine anyZ_take (i := 0) (v := ?_) rfl (by kernel_rfl) (by kernel_rfl) (by kernel_rfl) (by kernel_rfl) (fun _ _ _ h => h) (by rfl) ?_ hS ?_
      rotate_left
      · intro w hSw; (try dsimp only at hSw); obtain ⟨hSw1, hSw2, hSw3⟩ := hSw; go_simp; try with_reducible rfl
      try simp only [Act.put]
      refine anyZ_take (i := 1) (v := ?_) rfl (by kernel_rfl) (by kernel_rfl) (by kernel_rfl) (by kernel_rfl) (fun _ _ _ h => h) (by rfl) ?_ hS ?_
      rotate_left
      · intro w hSw; (try dsimp only at hSw); obtain ⟨hSw1, hSw2, hSw3⟩ := hSw; go_simp; try with_reducible rfl
      try simp only [Act.put]
      refine anyZ_take (i := 2) (v := ?_) rfl (by kernel_rfl) (by kernel_rfl) (by kernel_rfl) (by kernel_rfl) (fun _ _ _ h => h) (by rfl) ?_ hS ?_
      rotate_left
      · intro w hSw; (try dsimp only at hSw); obtain ⟨hSw1, hSw2, hSw3⟩ := hSw; go_simp; try with_reducible rfl
      try simp only [Act.put]
      refine anyZ_one (i := 3) (by kernel_rfl) rfl (fun K hK => ?_)
      go_simp
      refine hus.mono ?_
      rintro e w5 ⟨rfl, rfl⟩
      refine hK _ _ (fun _ => hS) ?_
      clear hK K
      refine anyZ_one (i := 4) (by kernel_rfl) rfl (fun K hK => ?_)
      go_simp
      refine hK _ _ (fun _ => hS) ?_
      clear hK K
      refine anyZ_one (i := 5) (by kernel_rfl) rfl (fun K hK => ?_)
      go_simp
      refine hK _ _ (fun _ => hS) ?_
      clear hK K
      refine anyZ_done (by kernel_rfl) ?_ _
      go_wp2
      go_ret2
      exact .inl ⟨HE2.out.1, HE2.out.2, by rw [HE.out]; rfl, below_drewN B1 1, HBD.out⟩

end Go.Proofs.Ytmfijackgekioaa
