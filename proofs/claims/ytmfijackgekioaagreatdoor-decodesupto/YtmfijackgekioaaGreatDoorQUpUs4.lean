import Derived.Test.YtmfijackgekioaaGreatDoorQUiUm4
import Derived.Test.YtmfijackgekioaaGreatDoorQUo
import Derived.Test.YtmfijackgekioaaGreatDoorQRbRj3
import Derived.Laws.Tables
import Derived.Laws.Rows

/-
  Symbols up to a block's end, by the program.
-/
namespace Go.Proofs.YtmfijackgekioaaGreatDoor
open Go.RowKit Go.Maps

/-- The program's distances stand for the document's. -/
def Alike (s : ByteArray) (farP far : List Int) : Prop := ∀ st : Rf.St, st.bad = false → st.pos ≤ 8 * s.size →
  ((Rf.symbol (lw s) farP (Rf.codes farP) st).2.bad = false → Rf.symbol (lw s) farP (Rf.codes farP) st = Rf.symbol (lw s) far (Rf.codes far) st ∧ (Rf.symbol (lw s) far (Rf.codes far) st).1 ≤ 29) ∧
  ((Rf.symbol (lw s) farP (Rf.codes farP) st).2.bad = true → (Rf.symbol (lw s) far (Rf.codes far) st).2.bad = true ∨ 29 < (Rf.symbol (lw s) far (Rf.codes far) st).1)
theorem alike_self (s : ByteArray) (far : List Int) (h : far.length ≤ 30) : Alike s far far := fun st _ _ =>
  ⟨fun hb => ⟨rfl, by have := (Rf.symbol_range (lw s) far (Rf.codes far) st).2 hb; omega⟩, fun hb => .inl hb⟩

theorem copied_of (L : List Int) (limit : Int) (i : Nat) (far fcd : List Int) (st st1 st2 st3 : Rf.St) (N D : Nat) (j : Int) (h1 : Rf.lenOf L i st = (N, st1)) (h2 : Rf.symbol L far fcd st1 = (j, st2)) (h3 : Rf.distOf L j.toNat st2 = (D, st3)) :
    Rf.copied L limit i far fcd st = if st1.bad = true then st1 else if st2.bad = true ∨ 29 < j then { st2 with bad := true } else if st3.bad = true ∨ st3.out.length < D then { st3 with bad := true } else
      if (Rf.room limit st3 N).1 = true then { (Rf.room limit st3 N).2 with out := Rf.cpF D N (Rf.room limit st3 N).2.out } else (Rf.room limit st3 N).2 := by
  unfold Rf.copied
  rw [h1]
  simp only
  rw [h2]
  simp only
  rw [h3]
theorem symsF_stop (L : List Int) (limit : Int) (ls cd far fcd : List Int) (f : Nat) (st : Rf.St) (h : (st.bad || st.full) = true) : Rf.symsF L limit ls cd far fcd f st = st := by
  cases f with
  | zero => rfl
  | succ f => rw [Rf.symsF, if_pos h]
theorem symsF_step (L : List Int) (limit : Int) (ls cd far fcd : List Int) (f : Nat) (st st1 : Rf.St) (x : Int) (hb : st.bad = false) (hf : st.full = false) (h1 : Rf.symbol L ls cd st = (x, st1)) :
    Rf.symsF L limit ls cd far fcd (f + 1) st = if st1.bad = true ∨ x = 256 then st1 else if x < 256 then
      Rf.symsF L limit ls cd far fcd f (if (Rf.room limit st1 1).1 = true then { (Rf.room limit st1 1).2 with out := (Rf.room limit st1 1).2.out ++ [UInt8.ofNat x.toNat] } else (Rf.room limit st1 1).2)
      else if 285 < x then Rf.symsF L limit ls cd far fcd f { st1 with bad := true } else Rf.symsF L limit ls cd far fcd f (Rf.copied L limit (x - 257).toNat far fcd st1) := by
  rw [Rf.symsF, if_neg (by rw [hb, hf]; decide), h1]
theorem dist_range (s : ByteArray) (j : Int) (h0 : 0 ≤ j) (h1 : j ≤ 29) (st : Rf.St) (hp : st.pos ≤ 8 * s.size) : 1 ≤ (Rf.distOf (lw s) j.toNat st).1 ∧ (Rf.distOf (lw s) j.toNat st).1 ≤ 65536 := by
  rw [distOf_eq (lw s) j h0 st (by rw [lw_length]; exact hp)]
  have h := db_range j h0 h1
  have ht := Rf.take_range (lw_bits s) st (de j)
  have hpw := pow_small (de j) (by omega)
  simp only
  omega

/-- The reader's place. -/
def posR (R : Nat) (w : World) : Nat := match w.cell? ⟨R, 1, none⟩ with | some (.int _ n) => n.toNat | _ => 0
theorem Rd.posR {w : World} {R : Nat} {s : ByteArray} {p : Nat} (h : Rd w R s p) : Go.Proofs.YtmfijackgekioaaGreatDoor.posR R w = p := by unfold Go.Proofs.YtmfijackgekioaaGreatDoor.posR; rw [h.cells.2.1]; simp

/-- What stands beside: tables, boxes. -/
structure Sd (w : World) (R b : Nat) (M1 s1 l1 M2 s2 l2 : Nat) (ls farP : List Int) : Prop where
  t1 : Tab w M1 s1 l1 ls
  t2 : Tab w M2 s2 l2 farP
  m1 : R + 5 < M1
  m2 : R + 5 < M2
  hb : R + 5 < b
  bx : w.heap[b]? = some (.cells (btC M1 s1 l1 M2 s2 l2) 166 (0, 0))
  sx : w.heap[b + 1]? = some (.cells (sinkC R) 154 (0, 0))
theorem Tab.notBytes {w : World} {M sh lo : Nat} {ls : List Int} (h : Tab w M sh lo ls) (c : Array Value) (fr : Nat × Nat) : w.heap[M]? ≠ some (.cells c 5 fr) := by
  obtain ⟨q, D, ⟨es, clock, hb, _⟩, _⟩ := h
  rw [hb]; simp
theorem Tab.of {w w' : World} {M sh lo : Nat} {ls : List Int} (h : Tab w M sh lo ls) (e : w'.heap[M]? = w.heap[M]?) : Tab w' M sh lo ls := by
  obtain ⟨q, D, ⟨es, clock, hb, r⟩, h3⟩ := h
  exact ⟨q, D, ⟨es, clock, e.trans hb, r⟩, h3⟩
theorem Sd.kept {w w' : World} {R b M1 s1 l1 M2 s2 l2 : Nat} {ls farP : List Int} (h : Sd w R b M1 s1 l1 M2 s2 l2 ls farP) (F : FrP R w w') : Sd w' R b M1 s1 l1 M2 s2 l2 ls farP := by
  have m1 := h.m1
  have m2 := h.m2
  have hb := h.hb
  exact ⟨h.t1.of (F.other _ h.t1.lt (by omega) (by omega) h.t1.notBytes), h.t2.of (F.other _ h.t2.lt (by omega) (by omega) h.t2.notBytes), h.m1, h.m2, h.hb,
    (F.other _ (lt_of_block h.bx) (by omega) (by omega) (fun c fr => by rw [h.bx]; simp)).trans h.bx, (F.other _ (lt_of_block h.sx) (by omega) (by omega) (fun c fr => by rw [h.sx]; simp)).trans h.sx⟩
theorem Sd.read {w w' : World} {R b M1 s1 l1 M2 s2 l2 : Nat} {ls farP : List Int} (h : Sd w R b M1 s1 l1 M2 s2 l2 ls farP) (k : Kp (· = R) w w') : Sd w' R b M1 s1 l1 M2 s2 l2 ls farP :=
  h.kept (FrP.ofKp (by have := lt_of_block h.bx; have := h.hb; omega) k)

end Go.Proofs.YtmfijackgekioaaGreatDoor

/-
  Symbols up to a block's end, by the program: the walk.
-/
namespace Go.Proofs.YtmfijackgekioaaGreatDoor
open Go.RowKit Go.Maps

set_option maxRecDepth 100000 in
set_option maxHeartbeats 8000000 in
theorem syms39 (s : ByteArray) (R : Nat) (limit : Int) (M1 s1 l1 M2 s2 l2 : Nat) (ls farP far : List Int) (st : Rf.St) (ov : Value) (w : World) (h : Pg w s R limit st ov) (hT1 : Tab w M1 s1 l1 ls) (hT2 : Tab w M2 s2 l2 farP) (m1 : R + 5 < M1) (m2 : R + 5 < M2)
    (hal : Alike s farP far) (hout : Hid (st.out.length ≤ 258 * st.pos)) :
    Calls Tryz.prog 121 #[.pointer (some ⟨R, 0, none⟩), btV M1 s1 l1 M2 s2 l2, sinkV R] w fun e w' => Ends s R limit w (Rf.symbols (lw s) limit ls far st) e w' := by
  have hs := h.hs
  have hlt := h.lt
  obtain ⟨F, hF⟩ : ∃ F, F = Rf.symbols (lw s) limit ls far st := ⟨_, rfl⟩
  rw [← hF]
  have HF : Hid (F = Rf.symsF (lw s) limit ls (Rf.codes ls) far (Rf.codes far) (8 * s.size + 2) st) := by show _ = _; rw [hF, Rf.symbols, lw_length]
  have P0 := (h.alloc (.cells (btC M1 s1 l1 M2 s2 l2) 166)).alloc (.cells (sinkC R) 154)
  have F0 := ((FrP.refl R w).alloc (by omega) (.cells (btC M1 s1 l1 M2 s2 l2) 166)).alloc (by simp; omega) (.cells (sinkC R) 154)
  have hk0 : Kp (fun _ => False) w ((w.alloc (.cells (btC M1 s1 l1 M2 s2 l2) 166)).alloc (.cells (sinkC R) 154)) := ((Kp.refl _ w).alloc _).alloc _
  have S0 : Sd ((w.alloc (.cells (btC M1 s1 l1 M2 s2 l2) 166)).alloc (.cells (sinkC R) 154)) R w.heap.size M1 s1 l1 M2 s2 l2 ls farP :=
    ⟨hT1.kept hk0 id, hT2.kept hk0 id, m1, m2, hlt, blk_old (blk_new w _) _, by have h9 := blk_new (w.alloc (.cells (btC M1 s1 l1 M2 s2 l2) 166)) (.cells (sinkC R) 154); rw [World.size_alloc] at h9; exact h9⟩
  clear hk0 hF hT1 hT2
  go_enter Tryz.func121, Tryz.ntmps121
  go_wp2
  go_loopw [9] (fun _ wr => ∃ (f : Nat) (st' : Rf.St) (ov' : Value), Pg wr s R limit st' ov' ∧ FrP R w wr ∧ Sd wr R w.heap.size M1 s1 l1 M2 s2 l2 ls farP ∧ Hid (F = Rf.symsF (lw s) limit ls (Rf.codes ls) far (Rf.codes far) f st') ∧ 8 * s.size + 2 ≤ f + st'.pos ∧ Hid (st'.out.length ≤ 258 * st'.pos)) (fun _ wr => 8 * s.size - posR R wr)
  case atStart => exact ⟨8 * s.size + 2, st, ov, P0, F0, S0, HF, by omega, hout⟩
  case round =>
    clear P0 F0 S0 HF h hout
    obtain ⟨f, st', ov', h, F1, S1, HF, hfu, HO⟩ := hrel
    have hp := h.hp
    obtain ⟨f, rfl⟩ : ∃ g, f = g + 1 := ⟨f - 1, by omega⟩
    have hst := symsF_step (lw s) limit ls (Rf.codes ls) far (Rf.codes far) f st'
    have hrg := Rf.symbol_range (lw s) ls (Rf.codes ls) st'
    have ho1 := Rf.symbol_out (lw s) ls (Rf.codes ls) st'
    have hmp := Rf.symbol_pos (lw s) ls (Rf.codes ls) st'
    have hpl := Rf.symF_le (lw s) ls (Rf.codes ls) 15 0 0 st' (by rw [lw_length]; exact hp)
    have hrd := read65 M1 s1 l1 ls s R st' wr S1.t1 h.rd (by omega) hs hp h.nb
    have hpl' : (Rf.symbol (lw s) ls (Rf.codes ls) st').2.pos ≤ (lw s).length := hpl
    clear hpl
    generalize hX : Rf.symbol (lw s) ls (Rf.codes ls) st' = X at *
    obtain ⟨x, st1⟩ := X
    simp only at hst hrg ho1 hmp hpl' hrd
    have HST := hst st1 x h.nb h.nf rfl
    rw [← HF.out] at HST
    have HS : Hid (F = _) := HST
    rw [lw_length] at hpl'
    obtain ⟨d0, d1, d2, d3, d4, d5, dz, dlt⟩ := cells6 S1.bx
    obtain ⟨e0, e1, e2, ez, elt⟩ := tcells S1.sx
    have hposW := hidden h.rd.posR
    clear hst HST hX
    go_wp2_with fail
    refine hrd.mono ?_
    rintro e w2 (⟨q1, rfl, r2, k2⟩ | ⟨q1, rfl, k2⟩)
    case inr =>
      go_wp2
      have HE : F = st1 := by rw [HS.out, if_pos (.inl q1)]
      exact ⟨rfl, ends_bad (by rw [HE]; exact q1) (by rw [HE]; exact ho1.2.2.trans h.nf) (F1.below.trans (k2.below (by have := h.lt; omega) (fun k _ h => by omega)))⟩
    case inl =>
    have h2 : Pg w2 s R limit st1 ov' := h.read k2 r2 hpl' ho1.1 q1 (ho1.2.2.trans h.nf)
    have F2 := F1.trans (FrP.ofKp (by have := h.lt; omega) k2)
    have S2 := S1.read k2
    have hx0 := hrg.1
    have hmp1 := hmp q1
    have HO1 : Hid (st1.out.length + 258 ≤ 258 * st1.pos) := by have := HO.out; show _ ≤ _; rw [ho1.1]; omega
    obtain ⟨e0', e1', e2', ez', elt'⟩ := tcells S2.sx
    clear k2 r2 h F1 S1 HO HF hrd hmp hrg ho1 d0 d1 d2 d3 d4 d5 dz dlt e0 e1 e2 ez elt
    by_cases hx256 : x = 256
    · have HE : Hid (F = st1) := by show _ = _; rw [HS.out, if_pos (.inr hx256)]
      subst hx256
      go_wp2
      go_end0
      exact .inl ⟨by rw [HE.out]; exact q1, by rw [HE.out]; exact h2.nf, rfl, ⟨ov', by rw [HE.out]; exact h2⟩, F2⟩
    · rw [if_neg (by rw [q1]; simp; exact hx256)] at HS
      by_cases hxl : x < 256
      · rw [if_pos hxl] at HS
        obtain ⟨y, hy⟩ : ∃ y : UInt8, y = UInt8.ofNat x.toNat := ⟨_, rfl⟩
        have hyx : (y.toNat : Int) = x := by rw [hy]; simp; omega
        rw [← hy] at HS
        have wu : IntKind.u8.wrap x = (y.toNat : Int) := by rw [IntKind.wrap_u8, hyx]; omega
        have HL3 : Hid (st1.out.length ≤ 11000000000) := by have := HO1.out; show _ ≤ _; omega
        have HS1 : Hid (F = _) := HS.out
        clear hy hyx HS
        go_wp2_with fail
        refine (put56 y s R limit st1 ov' _ h2 HL3).mono ?_
        rintro e w3 (⟨q3, rfl, ⟨ov3, h3⟩, F3⟩ | ⟨q3, rfl, F3⟩)
        case inr =>
          go_wp2
          have HE : F = { st1 with full := true } := by rw [HS1.out, q3]; simp only [Bool.false_eq_true, if_false]; exact symsF_stop _ _ _ _ _ _ _ _ (by simp)
          exact ⟨rfl, .inr ⟨by rw [HE]; simp, by rw [HE]; rfl, F2.below.trans F3⟩⟩
        case inl =>
        have HS2 : Hid (F = Rf.symsF (lw s) limit ls (Rf.codes ls) far (Rf.codes far) f { st1 with out := st1.out ++ [y] }) := by show _ = _; rw [HS1.out, q3]; rfl
        have S3 := S2.kept F3
        have F4 := F2.trans F3
        clear q3 HS1 h2 F2 S2 F3 e0' e1' e2' ez' elt' wu
        go_wp2
        go_roundw
        case rel => exact ⟨f, _, ov3, h3, F4, S3, HS2, by show _ ≤ f + st1.pos; omega, by show _ ≤ _; rw [List.length_append]; have := HO1.out; simp; omega⟩
        case measure => rw [h3.rd.posR, hposW.out]; show 8 * s.size - st1.pos < _; omega
      · rw [if_neg hxl] at HS
        by_cases hxg : 285 < x
        · rw [if_pos hxg] at HS
          have HE : Hid (F = { st1 with bad := true }) := by show _ = _; rw [HS.out]; exact symsF_stop _ _ _ _ _ _ _ _ (by simp)
          go_wp2
          exact ⟨rfl, ends_bad (by rw [HE.out]) (by rw [HE.out]; exact h2.nf) F2.below⟩
        · rw [if_neg hxg] at HS
          have hx257 : 257 ≤ x := by omega
          have hxle : x ≤ 285 := by omega
          have hLo := Rf.lenOf_le (lw_bits s) (x - 257).toNat (by omega) st1
          have hLp : (Rf.lenOf (lw s) (x - 257).toNat st1).2.pos ≤ 8 * s.size ∧ (Rf.lenOf (lw s) (x - 257).toNat st1).2.full = st1.full := by
            rw [lenOf_eq (lw s) x hx257 hxle st1 (by rw [lw_length]; exact hpl')]
            have h9 := Rf.take_pos (lw s) st1 (le' x) (by rw [lw_length]; exact hpl')
            rw [lw_length] at h9
            exact ⟨h9, (Rf.take_out (lw s) st1 (le' x)).2.2⟩
          have hwl := wlen66 x s R st1 w2 hx257 hxle h2.rd hs h2.hp q1
          have hco := copied_of (lw s) limit (x - 257).toNat far (Rf.codes far) st1
          generalize Rf.lenOf (lw s) (x - 257).toNat st1 = LN at *
          obtain ⟨N, st2⟩ := LN
          simp only at hLo hLp hwl hco
          have hc2 := hco st2 (Rf.symbol (lw s) far (Rf.codes far) st2).2 (Rf.distOf (lw s) (Rf.symbol (lw s) far (Rf.codes far) st2).1.toNat (Rf.symbol (lw s) far (Rf.codes far) st2).2).2 N (Rf.distOf (lw s) (Rf.symbol (lw s) far (Rf.codes far) st2).1.toNat (Rf.symbol (lw s) far (Rf.codes far) st2).2).1 (Rf.symbol (lw s) far (Rf.codes far) st2).1 rfl rfl rfl
          clear hco
          have halk := hal st2
          have hsr := Rf.symbol_range (lw s) far (Rf.codes far) st2
          have hso := Rf.symbol_out (lw s) far (Rf.codes far) st2
          have hsm := Rf.symbol_mono (lw s) far (Rf.codes far) st2
          have hsl : (Rf.symbol (lw s) far (Rf.codes far) st2).2.pos ≤ (lw s).length := Rf.symF_le (lw s) far (Rf.codes far) 15 0 0 st2 (by rw [lw_length]; exact hLp.1)
          rw [lw_length] at hsl
          generalize Rf.symbol (lw s) far (Rf.codes far) st2 = SY at *
          obtain ⟨j, st3⟩ := SY
          simp only at halk hsr hso hsm hsl hc2
          have HC : Hid (Rf.copied (lw s) limit (x - 257).toNat far (Rf.codes far) st1 = _) := hc2
          clear hc2
          go_wp2_with fail
          refine hwl.mono ?_
          rintro e w3 (⟨a1, rfl, r3, k3⟩ | ⟨a1, rfl, k3⟩)
          case inr =>
            go_wp2
            have HE : F = st2 := by rw [HS.out, HC.out, if_pos a1]; exact symsF_stop _ _ _ _ _ _ _ _ (by rw [a1]; rfl)
            exact ⟨rfl, ends_bad (by rw [HE]; exact a1) (by rw [HE]; exact hLp.2.trans h2.nf) (F2.below.trans (k3.below (by have := h2.lt; omega) (fun k _ h => by omega)))⟩
          case inl =>
          rw [if_neg (by rw [a1]; decide)] at HC
          have h3 : Pg w3 s R limit st2 ov' := h2.read k3 r3 hLp.1 hLo.2.2 a1 (hLp.2.trans h2.nf)
          have F3 := F2.trans (FrP.ofKp (by have := h2.lt; omega) k3)
          have S3 := S2.read k3
          have hrd2 := read65 M2 s2 l2 farP s R st2 w3 S3.t2 h3.rd (by omega) hs h3.hp a1
          have hal1 := halk a1 h3.hp
          obtain ⟨d0, d1, d2, d3, d4, d5, dz, dlt⟩ := cells6 S3.bx
          have HHL : Hid (N ≤ 258 ∧ st1.pos ≤ st2.pos ∧ st2.out = st1.out) := hLo
          clear k3 r3 h2 F2 S2 halk hwl hLo hLp e0' e1' e2' ez' elt'
          generalize Rf.symbol (lw s) farP (Rf.codes farP) st2 = SP at *
          obtain ⟨jp, stp⟩ := SP
          simp only at hrd2 hal1
          go_wp2_with fail
          refine hrd2.mono ?_
          rintro e w4 (⟨b1, rfl, r4, k4⟩ | ⟨b1, rfl, k4⟩)
          case inr =>
            go_wp2
            have h9 := hal1.2 b1
            have HE : F = { st3 with bad := true } := by rw [HS.out, HC.out, if_pos h9]; exact symsF_stop _ _ _ _ _ _ _ _ (by simp)
            exact ⟨rfl, ends_bad (by rw [HE]) (by rw [HE]; exact hso.2.2.trans h3.nf) (F3.below.trans (k4.below (by have := h3.lt; omega) (fun k _ h => by omega)))⟩
          case inl =>
          obtain ⟨hje, hj29⟩ := hal1.1 b1
          cases hje
          have h4 : Pg w4 s R limit st3 ov' := h3.read k4 r4 hsl hso.1 b1 (hso.2.2.trans h3.nf)
          have F4 := F3.trans (FrP.ofKp (by have := h3.lt; omega) k4)
          have S4 := S3.read k4
          rw [if_neg (by rw [b1]; simp; exact hj29)] at HC
          have hj0 := hsr.1
          have hDr := dist_range s j hj0 hj29 st3 hsl
          have hDl := Rf.distOf_le (lw s) j.toNat st3
          have hDp : (Rf.distOf (lw s) j.toNat st3).2.pos ≤ 8 * s.size ∧ (Rf.distOf (lw s) j.toNat st3).2.full = st3.full := by
            rw [distOf_eq (lw s) j hj0 st3 (by rw [lw_length]; exact hsl)]
            have h9 := Rf.take_pos (lw s) st3 (de j) (by rw [lw_length]; exact hsl)
            rw [lw_length] at h9
            exact ⟨h9, (Rf.take_out (lw s) st3 (de j)).2.2⟩
          have hwd := wdist66 j s R st3 w4 hj0 hj29 h4.rd hs h4.hp b1
          have HSO : Hid (st3.out = st2.out ∧ st2.pos ≤ st3.pos) := ⟨hso.1, hsm⟩
          generalize Rf.distOf (lw s) j.toNat st3 = DD at *
          obtain ⟨D, st4⟩ := DD
          simp only at hDr hDl hDp hwd HC
          clear k4 r4 h3 F3 S3 hal1 hrd2 hso hsm hsr d0 d1 d2 d3 d4 d5 dz dlt
          go_wp2_with fail
          refine hwd.mono ?_
          rintro e w5 (⟨c1, rfl, r5, k5⟩ | ⟨c1, rfl, k5⟩)
          case inr =>
            go_wp2
            have HE : F = { st4 with bad := true } := by rw [HS.out, HC.out, if_pos (.inl c1)]; exact symsF_stop _ _ _ _ _ _ _ _ (by simp)
            exact ⟨rfl, ends_bad (by rw [HE]) (by rw [HE]; exact hDp.2.trans h4.nf) (F4.below.trans (k5.below (by have := h4.lt; omega) (fun k _ h => by omega)))⟩
          case inl =>
          have h5 : Pg w5 s R limit st4 ov' := h4.read k5 r5 hDp.1 hDl.2 c1 (hDp.2.trans h4.nf)
          have F5 := F4.trans (FrP.ofKp (by have := h4.lt; omega) k5)
          have S5 := S4.read k5
          have HOO : Hid (st4.out.length + 258 ≤ 258 * st4.pos ∧ st1.pos ≤ st4.pos) := by
            have a := HO1.out; have b := HHL.out; have c := HSO.out; have d := hDl
            show _ ∧ _
            rw [d.2, c.1, b.2.2]
            omega
          have HL3 : Hid (st4.out.length ≤ 11000000000) := by have := HOO.out.1; have := hDp.1; show _ ≤ _; omega
          have hN := HHL.out.1
          obtain ⟨e0, e1, e2, ez, elt⟩ := tcells S5.sx
          clear k5 r5 h4 F4 S4 hwd hDl
          go_wp2_with fail
          refine (again57 N D s R limit st4 ov' _ h5 HL3 hN hDr.1 hDr.2).mono ?_
          rintro e w6 (⟨g1, g2, rfl, ⟨ov6, h6⟩, F6⟩ | ⟨g1, g2, rfl, F6⟩ | ⟨g1, rfl, F6⟩)
          · have HS2 : Hid (F = Rf.symsF (lw s) limit ls (Rf.codes ls) far (Rf.codes far) f { st4 with out := Rf.cpF D N st4.out }) := by
              show _ = _; rw [HS.out, HC.out, if_neg (by rw [c1]; simp; omega), g2]; rfl
            have S6 := S5.kept F6
            have F7 := F5.trans F6
            clear g2 HC HS h5 F5 S5 F6 e0 e1 e2 ez elt
            go_wp2
            go_roundw
            case rel => exact ⟨f, _, ov6, h6, F7, S6, HS2, by show _ ≤ f + st4.pos; have := HOO.out.2; omega, by show (Rf.cpF D N st4.out).length ≤ 258 * st4.pos; rw [Rf.cpF_length]; have := HOO.out.1; omega⟩
            case measure => rw [h6.rd.posR, hposW.out]; show 8 * s.size - st4.pos < _; have := HOO.out.2; omega
          · go_wp2
            have HE : F = { st4 with full := true } := by rw [HS.out, HC.out, if_neg (by rw [c1]; simp; omega), g2]; simp only [Bool.false_eq_true, if_false]; exact symsF_stop _ _ _ _ _ _ _ _ (by simp)
            exact ⟨rfl, .inr ⟨by rw [HE]; simp, by rw [HE]; rfl, F5.below.trans F6⟩⟩
          · go_wp2
            have HE : F = { st4 with bad := true } := by rw [HS.out, HC.out, if_pos (.inr g1)]; exact symsF_stop _ _ _ _ _ _ _ _ (by simp)
            exact ⟨rfl, ends_bad (by rw [HE]) (by rw [HE]; exact h5.nf) (F5.below.trans F6)⟩

end Go.Proofs.YtmfijackgekioaaGreatDoor

/-
  The table of the codes of lengths, by the program.
-/
namespace Go.Proofs.YtmfijackgekioaaGreatDoor
open Go.RowKit Go.Maps

abbrev ordA : Array Value := #[.int .i64 16, .int .i64 17, .int .i64 18, .int .i64 0, .int .i64 8, .int .i64 7, .int .i64 9, .int .i64 6, .int .i64 10, .int .i64 5, .int .i64 11, .int .i64 4, .int .i64 12, .int .i64 3, .int .i64 13, .int .i64 2, .int .i64 14, .int .i64 1, .int .i64 15]
theorem ordA_at (i : Nat) (h : i < 19) : ordA[i]? = some (.int .i64 ((Rf.order.getD i 0 : Nat) : Int)) := by
  match i, h with
  | 0, _ => rfl | 1, _ => rfl | 2, _ => rfl | 3, _ => rfl | 4, _ => rfl | 5, _ => rfl | 6, _ => rfl | 7, _ => rfl | 8, _ => rfl | 9, _ => rfl | 10, _ => rfl | 11, _ => rfl | 12, _ => rfl | 13, _ => rfl | 14, _ => rfl | 15, _ => rfl | 16, _ => rfl | 17, _ => rfl | 18, _ => rfl
  | n + 19, h => omega

abbrev zero19 : Array Value := #[.int .i64 0, .int .i64 0, .int .i64 0, .int .i64 0, .int .i64 0, .int .i64 0, .int .i64 0, .int .i64 0, .int .i64 0, .int .i64 0, .int .i64 0, .int .i64 0, .int .i64 0, .int .i64 0, .int .i64 0, .int .i64 0, .int .i64 0, .int .i64 0, .int .i64 0]
theorem info19 : (Tryz.prog.info? 233).map (·.size) = some 19 := by kernel_rfl

set_option maxRecDepth 100000 in
set_option maxHeartbeats 1000000 in
theorem order85 (w : World) : Calls Tryz.prog 198 #[] w fun e w' => ∃ O : Array Value, e = .returned (.agg O) ∧ O.size = 19 ∧ (∀ i, i < 19 → O[i]? = some (.int .i64 ((Rf.order.getD i 0 : Nat) : Int))) ∧ O.all (·.oneCell') = true ∧ Below w.heap.size w w' := by
  go_enter Tryz.func198, Tryz.ntmps198
  go_wp2_with (first | (refine wpList_build rfl 233 _ rfl (by kernel_rfl) ?_) | (refine wpList_store_row rfl 233 _ _ rfl w.heap.size ordA rfl (by kernel_rfl) 233 zero19 (blk_new w _) info19 rfl (by kernel_rfl) ?_))
  exact bodyPost_ret (v := .agg ordA) (results_cell_row rfl _ _ w.heap.size 233 ordA (0, 0) _ rfl (setRow_heap _ w.heap.size _ _ 233 _ (blk_new w _)) Tryz.underlying233 rfl info19) rfl
    ⟨ordA, rfl, rfl, ordA_at, by kernel_rfl, below_setRow ((Below.refl _ _).alloc (Nat.le_refl _) _) (Nat.le_refl _) _⟩

set_option maxRecDepth 100000 in
set_option maxHeartbeats 4000000 in
theorem table70 (s : ByteArray) (R : Nat) (st : Rf.St) (w : World) (hr : Rd w R s st.pos) (hs : s.size ≤ 5000000) (hp : st.pos ≤ 8 * s.size) (hb : st.bad = false) (Q : List Int × Rf.St) (hQ : Q = Rf.lenF (lw s) ((Rf.take (lw s) st 4).1.toNat + 4) 0 (List.replicate 19 0) (Rf.take (lw s) st 4).2) :
    Calls Tryz.prog 167 #[.pointer (some ⟨R, 0, none⟩)] w fun e w' =>
      (∃ M sh lo, Q.2.bad = false ∧ Rf.full Q.1 = true ∧ e = .returned (tabV M sh lo) ∧ Tab w' M sh lo Q.1 ∧ Rd w' R s Q.2.pos ∧ w.heap.size ≤ M ∧ Kp (· = R) w w') ∨
      ((Q.2.bad = true ∨ Rf.full Q.1 = false) ∧ e = dies 6 ∧ Kp (· = R) w w') := by
  obtain ⟨Z, hZ⟩ : ∃ Z : List Value, Z = List.replicate 19 (.int .i64 0) := ⟨_, rfl⟩
  have hmk : ∀ u : World, (Instr.makeSlice 24 (.int .i64 19) (.int .i64 19)).run Tryz.prog u = .ok (.slice (some ⟨u.heap.size, 0, none⟩) 19 19) (u.alloc (.cells Z.toArray 3)) := fun u => make_n 19 (by omega) Z hZ u
  have HZ : Hid (Z = vals (List.replicate 19 0)) := by show _ = _; rw [hZ, vals_replicate]
  have hltR := lt_of_block hr
  clear hZ
  go_enter Tryz.func167, Tryz.ntmps167
  go_wp2_with fail
  refine (order85 _).mono ?_
  rintro e w1 ⟨O, rfl, hO1, hO2, hO3, b1⟩
  simp only [World.size_alloc] at b1
  have hsz1 := b1.size
  simp only [World.size_alloc] at hsz1
  have hi19 : (Tryz.prog.info? 233).map (·.size) = some O.size := by rw [hO1]; exact info19
  go_wp2_with (refine wpList_store_row rfl 233 _ _ rfl w1.heap.size O rfl (by rfl) 233 zero19 (blk_new w1 _) hi19 hO1.symm hO3 ?_)
  have hOb : (((w1.alloc (.cells zero19 233)).setRow w1.heap.size O).alloc (.cells Z.toArray 3)).heap[w1.heap.size]? = some (.cells O 233 (0, 0)) := blk_old (setRow_heap _ w1.heap.size _ _ 233 _ (blk_new w1 _)) _
  have hsr : ((w1.alloc (.cells zero19 233)).setRow w1.heap.size O).heap.size = w1.heap.size + 1 := by simp [World.setRow]
  have hGb : Lst (((w1.alloc (.cells zero19 233)).setRow w1.heap.size O).alloc (.cells Z.toArray 3)) (w1.heap.size + 1) (List.replicate 19 0) := by
    have h9 := blk_new ((w1.alloc (.cells zero19 233)).setRow w1.heap.size O) (.cells Z.toArray 3)
    rw [hsr] at h9
    rw [HZ.out] at h9 ⊢
    exact h9
  have hall : ∀ k, k < w1.heap.size → (((w1.alloc (.cells zero19 233)).setRow w1.heap.size O).alloc (.cells Z.toArray 3)).heap[k]? = w1.heap[k]? := fun k hk =>
    (Below.heap_alloc _ _ _ (by rw [hsr]; omega)).trans ((setRow_other _ w1.heap.size k O (by omega)).trans (Below.heap_alloc w1 _ k hk))
  have hRb := (hall w.heap.size (by omega)).trans ((b1.block _ (by omega)).trans (blk_new w (.cells #[.map none, .int .u16 0, .int .u16 0] 164)))
  have hk2 : Kp (· = R) w (((w1.alloc (.cells zero19 233)).setRow w1.heap.size O).alloc (.cells Z.toArray 3)) :=
    ⟨b1.os, b1.tape, b1.output, by simp [World.setRow]; omega, fun k hk _ => (hall k (by omega)).trans ((b1.block k (by omega)).trans (Below.heap_alloc w _ k hk))⟩
  have hr2 : Rd (((w1.alloc (.cells zero19 233)).setRow w1.heap.size O).alloc (.cells Z.toArray 3)) R s st.pos := (hall R (by omega)).trans ((b1.block R (by omega)).trans (blk_old hr _))
  have hB : w.heap.size + 1 ≤ w1.heap.size := hsz1
  generalize ((w1.alloc (.cells zero19 233)).setRow w1.heap.size O).alloc (.cells Z.toArray 3) = W2 at *
  generalize w1.heap.size = B at *
  clear b1 hsr hall hmk HZ hi19 hO1 hO3 hsz1
  refine (number37 4 s R st _ hr2 hs hp hb (by omega)).mono ?_
  have g1 := Rf.take_range (lw_bits s) st 4
  have p1 := Rf.take_pos (lw s) st 4 (by rw [lw_length]; exact hp)
  have hbd := Rf.take_bad (lw s) st 4
  generalize Rf.take (lw s) st 4 = A at *
  obtain ⟨a, st1⟩ := A
  simp only at *
  rw [lw_length] at p1
  rintro e w3 (⟨q1, rfl, r3, k3⟩ | ⟨q1, rfl, k3⟩)
  case inr =>
    go_wp2
    have hbad : Q.2.bad = true := by
      rw [hQ]
      cases a.toNat + 4 with
      | zero => exact q1
      | succ n => rw [Rf.lenF, if_pos q1]; exact q1
    exact ⟨rfl, .inr ⟨.inl hbad, rfl, hk2.trans k3⟩⟩
  case inl =>
  obtain ⟨k, rfl⟩ : ∃ k : Nat, a = (k : Int) := ⟨a.toNat, by omega⟩
  have hk16 : k ≤ 15 := by have := g1.2; omega
  have HQ : Hid (Q = Rf.lenF (lw s) (k + 4) 0 (List.replicate 19 0) st1) := by show _ = _; rw [hQ]; rfl
  have hOb3 := (k3.block B (lt_of_block hOb) (by omega)).trans hOb
  have hGb3 : Lst w3 (B + 1) (List.replicate 19 0) := (k3.block (B + 1) (lt_of_block hGb) (by omega)).trans hGb
  have hRb3 := (k3.block w.heap.size (lt_of_block hRb) (by omega)).trans hRb
  have hk3 := hk2.trans k3
  clear k3 hk2 hOb hGb hRb hr2 hQ g1 hbd
  go_wp2
  go_loopw [13] (fun v wr => ∃ (i : Nat) (ls : List Int) (st' : Rf.St), i ≤ k + 4 ∧ v = .int .i64 i ∧ ls.length = 19 ∧ Hid (Q = Rf.lenF (lw s) (k + 4 - i) i ls st') ∧ Hid (Rf.Within ls 7) ∧ Rd wr R s st'.pos ∧ Hid (st'.bad = false) ∧ st'.pos ≤ 8 * s.size ∧
      Lst wr (B + 1) ls ∧ wr.heap[B]? = some (.cells O 233 (0, 0)) ∧ wr.heap[w.heap.size]? = some (.cells #[.map none, .int .u16 0, .int .u16 0] 164 (0, 0)) ∧ Kp (· = R) w wr) (fun v _ => k + 4 - (intOf v).toNat)
  case atStart => exact ⟨0, List.replicate 19 0, st1, Nat.zero_le _, rfl, by simp, HQ, Rf.within_replicate 19 7 (by omega), r3, q1, p1, hGb3, hOb3, hRb3, hk3⟩
  case round =>
    clear HQ r3 q1 p1 hGb3 hOb3 hRb3 hk3
    obtain ⟨i, ls, st', hi, rfl, hl19, HQ, HW, r4, HBD, p4, hG, hOb, hRb, hk4⟩ := hrel
    by_cases hlt : i < k + 4
    · obtain ⟨p, hpp⟩ : ∃ p : Nat, p = Rf.order.getD i 0 := ⟨_, rfl⟩
      have hp19 : p < 19 := by rw [hpp]; exact Rf.order_lt i
      have co : wr.cell? ⟨B, i, none⟩ = some (.int .i64 (p : Int)) := (cell_of_row _ _ _ _ _ _ hOb).trans ((hO2 i (by omega)).trans (by rw [hpp]))
      obtain ⟨x0, cg⟩ : ∃ x0, wr.cell? ⟨B + 1, p, none⟩ = some (.int .i64 x0) := ⟨_, hG.cell p (by omega)⟩
      have hnum := fun W h => number37 3 s R st' W h hs p4 HBD.out (by omega)
      have g2 := Rf.take_range (lw_bits s) st' 3
      have p5 := Rf.take_pos (lw s) st' 3 (by rw [lw_length]; exact p4)
      rw [lw_length] at p5
      have HQ2 : Hid (Q = Rf.lenF (lw s) (k + 4 - (i + 1)) (i + 1) (ls.set p (Rf.take (lw s) st' 3).1) (Rf.take (lw s) st' 3).2) := by show _ = _; rw [HQ.out, show k + 4 - i = (k + 4 - (i + 1)) + 1 by omega, Rf.lenF, if_neg (by rw [HBD.out]; decide), hpp]
      generalize Rf.take (lw s) st' 3 = A at *
      obtain ⟨x, st2⟩ := A
      simp only at hnum g2 p5 HQ2
      have hltB := lt_of_block hOb
      have hltG := lt_of_block hG
      have j1 : (i : Int) < 19 := by omega
      have j2 : (p : Int) < 19 := by omega
      clear hpp
      go_wp2
      have hS : wr.drew.cell? ⟨B, i, none⟩ = some (.int .i64 (p : Int)) := co
      refine regionZ (by kernel_rfl) (fun w' => w'.cell? ⟨B, i, none⟩ = some (.int .i64 (p : Int))) 99 ?_
      refine anyZ_take (i := 0) (v := ?_) rfl (by kernel_rfl) (by kernel_rfl) (by kernel_rfl) (by kernel_rfl) (fun _ _ _ h => h) (by rfl) ?_ hS ?_
      rotate_left
      · intro w hSw; (try dsimp only at hSw); go_simp; try with_reducible rfl
      try simp only [Act.put]
      refine anyZ_take (i := 1) (v := ?_) rfl (by kernel_rfl) (by kernel_rfl) (by kernel_rfl) (by kernel_rfl) (fun _ _ _ h => h) (by rfl) ?_ hS ?_
      rotate_left
      · intro w hSw; (try dsimp only at hSw); go_simp; try with_reducible rfl
      try simp only [Act.put]
      refine anyZ_take (i := 2) (v := ?_) rfl (by kernel_rfl) (by kernel_rfl) (by kernel_rfl) (by kernel_rfl) (fun _ _ _ h => h) (by rfl) ?_ hS ?_
      rotate_left
      · intro w hSw; (try dsimp only at hSw); go_simp; try with_reducible rfl
      try simp only [Act.put]
      refine anyZ_take (i := 3) (v := ?_) rfl (by kernel_rfl) (by kernel_rfl) (by kernel_rfl) (by kernel_rfl) (fun _ _ _ h => h) (by rfl) ?_ hS ?_
      rotate_left
      · intro w hSw; (try dsimp only at hSw); go_simp; try with_reducible rfl
      try simp only [Act.put]
      refine anyZ_take (i := 4) (v := ?_) rfl (by kernel_rfl) (by kernel_rfl) (by kernel_rfl) (by kernel_rfl) (fun _ _ _ h => h) (by rfl) ?_ hS ?_
      rotate_left
      · intro w hSw; (try dsimp only at hSw); go_simp; try with_reducible rfl
      try simp only [Act.put]
      refine anyZ_one (i := 5) (by kernel_rfl) rfl (fun K hK => ?_)
      go_simp
      refine (hnum wr.drew r4).mono ?_
      rintro e w5 (⟨q2, rfl, r5, k5⟩ | ⟨q2, rfl, k5⟩)
      case inr =>
        have hbad : Q.2.bad = true := by
          rw [HQ2.out]
          cases k + 4 - (i + 1) with
          | zero => exact q2
          | succ n => rw [Rf.lenF, if_pos q2]; exact q2
        exact ⟨rfl, .inr ⟨.inl hbad, rfl, hk4.drew.trans k5⟩⟩
      case inl =>
      have hOb5 : w5.heap[B]? = some (.cells O 233 (0, 0)) := (k5.block B hltB (by omega)).trans hOb
      have hG5 : Lst w5 (B + 1) ls := (k5.block (B + 1) hltG (by omega)).trans hG
      have hRb5 : w5.heap[w.heap.size]? = some (.cells #[.map none, .int .u16 0, .int .u16 0] 164 (0, 0)) := (k5.block w.heap.size (lt_of_block hRb) (by omega)).trans hRb
      have hk5 := hk4.drew.trans k5
      have hS5 : w5.cell? ⟨B, i, none⟩ = some (.int .i64 (p : Int)) := (k5.cell (p := ⟨B, i, none⟩) hltB (show ¬ B = R by omega)).trans co
      obtain ⟨x1, cg5⟩ : ∃ x0, w5.cell? ⟨B + 1, p, none⟩ = some (.int .i64 x0) := ⟨_, hG5.cell p (by omega)⟩
      have fg5 : w5.frozen? ⟨B + 1, p, none⟩ = false := frozen_of_row w5 _ _ _ _ hG5
      have HW2 : Hid (Rf.Within (ls.set p x) 7) := Rf.within_set HW.out p x ⟨g2.1, by omega⟩
      clear hk4 k5 hOb hG hRb r4 HQ HBD cg co hnum
      refine hK _ _ (fun _ => hS5) ?_
      clear hK K
      refine anyZ_one (i := 6) (by kernel_rfl) rfl (fun K hK => ?_)
      go_simp
      refine hK _ _ (fun _ => hS5) ?_
      clear hK K
      refine anyZ_one (i := 7) (by kernel_rfl) rfl (fun K hK => ?_)
      go_simp
      have kS : Kp (· = B + 1) w5 (w5.setCell ⟨B + 1, p, none⟩ (.int .i64 x)) := (Kp.refl (· = B + 1) w5).setCell (p := ⟨B + 1, p, none⟩) (.inl rfl) _
      refine hK _ _ (fun _ => (kS.cell (p := ⟨B, i, none⟩) (lt_of_block hOb5) (show ¬ B = B + 1 by omega)).trans hS5) ?_
      clear hK K
      refine anyZ_done (by kernel_rfl) ?_ _
      have R6 : Lst (w5.setCell ⟨B + 1, p, none⟩ (.int .i64 x)) (B + 1) (ls.set p x) ∧ (w5.setCell ⟨B + 1, p, none⟩ (.int .i64 x)).heap[B]? = some (.cells O 233 (0, 0)) ∧ (w5.setCell ⟨B + 1, p, none⟩ (.int .i64 x)).heap[w.heap.size]? = some (.cells #[.map none, .int .u16 0, .int .u16 0] 164 (0, 0)) ∧
          Kp (· = R) w (w5.setCell ⟨B + 1, p, none⟩ (.int .i64 x)) ∧ Rd (w5.setCell ⟨B + 1, p, none⟩ (.int .i64 x)) R s st2.pos :=
        ⟨hG5.set p x, (kS.block B (lt_of_block hOb5) (by omega)).trans hOb5, (kS.block _ (lt_of_block hRb5) (by omega)).trans hRb5, hk5.setCell (p := ⟨B + 1, p, none⟩) (.inr (by show w.heap.size ≤ B + 1; omega)) _, r5.kept kS (by omega)⟩
      clear kS hk5 hOb5 hG5 hRb5 r5 cg5 fg5 hS hS5
      go_wp2
      go_roundw
      case rel => exact ⟨i + 1, ls.set p x, st2, by omega, by go_num, by simp [hl19], HQ2, HW2, R6.2.2.2.2, q2, p5, R6.1, R6.2.1, R6.2.2.1, R6.2.2.2.1⟩
      case measure => simp [intOf]; omega
    · have hik : i = k + 4 := by omega
      subst hik
      have HE : Hid (Q = (ls, st')) := by show _ = _; rw [HQ.out, Nat.sub_self]; rfl
      have hint := hG.ints
      have h15 : ∀ j, ls.getD j 0 ≤ 15 := fun j => by have := (HW.out j).2; omega
      obtain ⟨t0, t1, t2, tz, tlt⟩ := tcells hRb
      go_wp2_with fail
      refine (full71 (some ⟨B + 1, 0, none⟩) 19 ls 19 _ hl19 (by omega) hint h15).mono ?_
      rintro e w5 ⟨rfl, rfl⟩
      cases hfl : Rf.full ls
      · go_wp2
        exact ⟨rfl, .inr ⟨.inr (by rw [HE.out]; exact hfl), rfl, hk4⟩⟩
      · have hfs : Rf.fs ls ls.length ≤ 32768 := by have h9 : decide (Rf.fs ls ls.length = 32768) = true := hfl; have := of_decide_eq_true h9; omega
        go_wp2_with fail
        refine (newTable59 (some ⟨B + 1, 0, none⟩) 19 ls 19 _ hl19 (by omega) hint (fun a e _ => by cases e; exact lt_of_block hG) h15 hfs).mono ?_
        rintro e w6 ⟨M, sh, lo, rfl, T6, hM, b6⟩
        have hRb6 := (b6.block _ tlt).trans hRb
        obtain ⟨u0, u1, u2, uz, ult⟩ := tcells hRb6
        have hk6 : Kp (· = R) w w6 := hk4.trans ⟨b6.os, b6.tape, b6.output, b6.size, fun k hk _ => b6.block k hk⟩
        have r6 : Rd w6 R s st'.pos := (b6.block R (lt_of_block r4)).trans r4
        have HT6 : Hid (Tab w6 M sh lo ls ∧ w.heap.size + 1 ≤ M) := ⟨T6, by omega⟩
        clear b6 T6 hRb hk4 t0 t1 t2 tz r4 hint hG hOb
        go_wp2
        have hkT : ∀ u v x : Value, Kp (· = w.heap.size) w6 (((w6.setCell ⟨w.heap.size, 0, none⟩ u).setCell ⟨w.heap.size, 1, none⟩ v).setCell ⟨w.heap.size, 2, none⟩ x) := fun u v x =>
          (((Kp.refl (· = w.heap.size) w6).setCell (p := ⟨w.heap.size, 0, none⟩) (.inl rfl) u).setCell (p := ⟨w.heap.size, 1, none⟩) (.inl rfl) v).setCell (p := ⟨w.heap.size, 2, none⟩) (.inl rfl) x
        exact bodyPost_ret (v := tabV M sh lo) (by simp [results, Tryz.results167, go_sem, u0, u1, u2]) rfl
          (.inl ⟨M, sh, lo, by rw [HE.out]; exact HBD.out, by rw [HE.out]; exact hfl, rfl, by rw [HE.out]; exact HT6.out.1.kept (hkT _ _ _) (by have := HT6.out.2; omega), by rw [HE.out]; exact r6.kept (hkT _ _ _) (by omega), by have := HT6.out.2; omega, hk6.then (hkT _ _ _) (fun i h e => by omega)⟩)

end Go.Proofs.YtmfijackgekioaaGreatDoor

/-
  The lengths of a block of kind 2, by the program.
-/
namespace Go.Proofs.YtmfijackgekioaaGreatDoor
open Go.RowKit Go.Maps

/-- What stands beside the list under way. -/
structure Sl (w wr : World) (s : ByteArray) (R pos M sh lo : Nat) (ls : List Int) : Prop where
  kp : Kp (· = R) w wr
  bx : wr.heap[w.heap.size]? = some (.cells #[.map (some M), .int .u16 sh, .int .u16 lo] 164 (0, 0))
  tb : Tab wr M sh lo ls
  rd : Rd wr R s pos
theorem Sl.read {w wr w' : World} {s : ByteArray} {R pos q M sh lo : Nat} {ls : List Int} (h : Sl w wr s R pos M sh lo ls) (hR : R < w.heap.size) (hM : M ≠ R) (k : Kp (· = R) wr w') (r : Rd w' R s q) : Sl w w' s R q M sh lo ls :=
  ⟨h.kp.trans k, (k.block _ (lt_of_block h.bx) (by omega)).trans h.bx, h.tb.kept k hM, r⟩
theorem Sl.drew {w wr : World} {s : ByteArray} {R pos M sh lo : Nat} {ls : List Int} (h : Sl w wr s R pos M sh lo ls) : Sl w wr.drew s R pos M sh lo ls := ⟨h.kp.drew, h.bx, h.tb, h.rd⟩
theorem Sl.grow {w wr w' : World} {s : ByteArray} {R pos M sh lo : Nat} {ls : List Int} {v : Value} {n : Nat} {xs : List Value} (h : Sl w wr s R pos M sh lo ls) (hR : R < w.heap.size) (hM : M < w.heap.size) (o : Obj)
    (hown : wr.ownsRow (w.heap.size + 1) 3 1 v n xs) (hg : (wr.alloc o).grownBy w' v.ownBlock) : Sl w w' s R pos M sh lo ls := by
  have hsz := h.kp.size
  have hb : ∀ k, k ≤ w.heap.size → k < wr.heap.size → w'.heap[k]? = wr.heap[k]? := fun k hk h2 => (hg.block k (by simp; omega) (fun e => by have := (hown.lt k e.symm).1; omega)).trans (Below.heap_alloc wr o k h2)
  refine ⟨(h.kp.alloc o).grown hg (fun k e => .inr (by have := (hown.lt k e).1; omega)), (hb _ (Nat.le_refl _) (lt_of_block h.bx)).trans h.bx, h.tb.of (hb M (by omega) h.tb.lt), (hb R (by omega) (lt_of_block h.rd)).trans h.rd⟩

theorem lsF_done (L ls cd : List Int) (n f : Nat) (out : List Int) (st : Rf.St) (h : n ≤ out.length) : Rf.lsF L ls cd n f out st = (out, st) := by
  cases f with
  | zero => rfl
  | succ f => rw [Rf.lsF, if_pos (.inl h)]
theorem listed_bad {L ls : List Int} {n : Nat} {st : Rf.St} {RES : List Int × Rf.St} (h : Rf.listed L ls n st = if RES.1.length = n then RES else (RES.1, { RES.2 with bad := true })) (hb : RES.2.bad = true ∨ RES.1.length ≠ n) : (Rf.listed L ls n st).2.bad = true := by
  rw [h]
  split
  · rcases hb with hb | hb
    · exact hb
    · rename_i e; exact absurd e hb
  · rfl
theorem listed_len {L ls : List Int} {n : Nat} {st : Rf.St} (h : (Rf.listed L ls n st).2.bad = false) : (Rf.listed L ls n st).1.length = n := by
  have e : Rf.listed L ls n st = if (Rf.lsF L ls (Rf.codes ls) n (n + 1) [] st).1.length = n then Rf.lsF L ls (Rf.codes ls) n (n + 1) [] st else ((Rf.lsF L ls (Rf.codes ls) n (n + 1) [] st).1, { (Rf.lsF L ls (Rf.codes ls) n (n + 1) [] st).2 with bad := true }) := rfl
  by_cases hl : (Rf.lsF L ls (Rf.codes ls) n (n + 1) [] st).1.length = n
  · rw [e, if_pos hl]; exact hl
  · rw [e, if_neg hl] at h; cases h

theorem make_cap (n : Nat) (hn : n ≤ 320) (Z : List Value) (hZ : Z = List.replicate n (.int .i64 0)) (u : World) :
    (Instr.makeSlice 24 (.int .i64 0) (.int .i64 (n : Int))).run Tryz.prog u = .ok (.slice (some ⟨u.heap.size, 0, none⟩) 0 n) (u.alloc (.cells Z.toArray 3)) := by
  obtain ⟨i0, hi, hz0, hz1, hz2⟩ := info_parts Tryz.info3
  have h := run_make (P := Tryz.prog) u 24 3 i0 (.int .i64 0) Tryz.underlying24 hi hz0 .i64 .i64 0 (n : Int) (by omega) (by omega) (by rw [hz2]; omega) (by omega)
  have e2 : (madeCells #[Value.int .i64 0] n) = Z.toArray := by rw [hZ, ← toList_madeCells_one]
  simpa [hz1, Value.cells, e2] using h

set_option maxRecDepth 100000 in
set_option maxHeartbeats 16000000 in
theorem lens69 (N : Nat) (s : ByteArray) (R M sh lo : Nat) (ls : List Int) (st : Rf.St) (w : World) (hr : Rd w R s st.pos) (hT : Tab w M sh lo ls) (hMR : M ≠ R) (hl19 : ls.length = 19) (hN : N ≤ 320) (hs : s.size ≤ 5000000) (hp : st.pos ≤ 8 * s.size) (hb : st.bad = false) :
    Calls Tryz.prog 166 #[.pointer (some ⟨R, 0, none⟩), tabV M sh lo, .int .i64 N] w fun e w' =>
      ((Rf.listed (lw s) ls N st).2.bad = false ∧ (∃ v, e = .returned v ∧ w'.ownsRow (w.heap.size + 1) 3 1 v N (vals (Rf.listed (lw s) ls N st).1)) ∧ Rd w' R s (Rf.listed (lw s) ls N st).2.pos ∧ Kp (· = R) w w') ∨
      ((Rf.listed (lw s) ls N st).2.bad = true ∧ e = dies 6 ∧ Kp (· = R) w w') := by
  obtain ⟨i0, hi, hz0, hz1, hz2⟩ := info_parts Tryz.info3
  obtain ⟨Z, hZ⟩ : ∃ Z : List Value, Z = List.replicate N (.int .i64 0) := ⟨_, rfl⟩
  have hmk := make_cap N hN Z hZ
  have hZs : Z.toArray.size = N * 1 := by rw [hZ]; simp
  have hltR := lt_of_block hr
  have hltM := hT.lt
  obtain ⟨RES, hRES⟩ : ∃ RES, RES = Rf.lsF (lw s) ls (Rf.codes ls) N (N + 1) [] st := ⟨_, rfl⟩
  obtain ⟨LI, hLI⟩ : ∃ LI, LI = Rf.listed (lw s) ls N st := ⟨_, rfl⟩
  have hlen := @listed_len (lw s) ls N st
  have hbadl := fun hh => @listed_bad (lw s) ls N st RES (by rw [hRES]; rfl) hh
  have hgood : RES.2.bad = false → RES.1.length = N → LI = RES := fun _ h2 => by rw [hLI]; show (if (Rf.lsF (lw s) ls (Rf.codes ls) N (N + 1) [] st).1.length = N then _ else _) = _; rw [← hRES, if_pos h2]
  rw [← hLI] at hbadl ⊢
  have HBL : Hid (RES.2.bad = true ∨ RES.1.length ≠ N → LI.2.bad = true) := hbadl
  have HGD : Hid (RES.2.bad = false → RES.1.length = N → LI = RES) := hgood
  have S0 : Sl w ((w.alloc (.cells #[.map (some M), .int .u16 sh, .int .u16 lo] 164)).alloc (.cells Z.toArray 3)) s R st.pos M sh lo ls :=
    ⟨((Kp.refl _ w).alloc _).alloc _, blk_old (blk_new w _) _, hT.kept (((Kp.refl (fun _ => False) w).alloc _).alloc _) id, blk_old (blk_old hr _) _⟩
  have O0 : ((w.alloc (.cells #[.map (some M), .int .u16 sh, .int .u16 lo] 164)).alloc (.cells Z.toArray 3)).ownsRow (w.heap.size + 1) 3 1 (.slice (some ⟨w.heap.size + 1, 0, none⟩) 0 N) 0 (vals []) := by
    have h9 := World.ownsRow_made (base := w.heap.size + 1) (e := 3) (size := 1) (w.alloc (.cells #[.map (some M), .int .u16 sh, .int .u16 lo] 164)) Z.toArray N (by simp) (by unfold maxLen; omega) hZs
    rw [World.size_alloc] at h9
    exact h9
  have HR0 : Hid (RES = Rf.lsF (lw s) ls (Rf.codes ls) N (N + 1) [] st) := hRES
  clear hRES hLI hlen hbadl hgood hZ hZs hr hT
  obtain ⟨cd, hcd⟩ : ∃ cd, cd = Rf.codes ls := ⟨_, rfl⟩
  rw [← hcd] at HR0
  have HCD : Hid (cd = Rf.codes ls) := hcd
  clear hcd
  go_enter Tryz.func166, Tryz.ntmps166
  go_wp2
  go_loopw [7] (fun v wr => ∃ (f : Nat) (out : List Int) (st' : Rf.St), wr.ownsRow (w.heap.size + 1) 3 1 v out.length (vals out) ∧ out.length ≤ N ∧ Sl w wr s R st'.pos M sh lo ls ∧ Hid (st'.bad = false) ∧ st'.pos ≤ 8 * s.size ∧ Hid (RES = Rf.lsF (lw s) ls cd N f out st') ∧ N + 1 ≤ f + out.length) (fun v _ => N - lenV v)
  case atStart => exact ⟨N + 1, [], st, O0, Nat.zero_le _, S0, hb, hp, HR0, by simp⟩
  case round =>
    clear O0 S0 HR0 hmk hb
    obtain ⟨f, out, st', hown, hol, S1, HBD, hp1, HF, hfu⟩ := hrel
    by_cases hdone : out.length = N
    · have HE : Hid (LI = (out, st')) := by
        have e : RES = (out, st') := by rw [HF.out]; exact lsF_done _ _ _ _ _ _ _ (by omega)
        show _ = _
        rw [HGD.out (by rw [e]; exact HBD.out) (by rw [e]; exact hdone), e]
      obtain ⟨oa, oc, rfl⟩ := own_slice hown
      have hge : ¬ ((out.length : Int) < (N : Int)) := by omega
      have hge2 : (N : Int) ≤ (out.length : Int) := by omega
      have HO : Hid (wr.ownsRow (w.heap.size + 1) 3 1 (.slice oa out.length oc) N (vals out)) := by
        have h9 := hown
        rw [hdone] at h9 ⊢
        exact h9
      clear hdone hown
      go_wp2
      go_ret
      exact .inl ⟨by rw [HE.out]; exact HBD.out, ⟨_, rfl, by rw [HE.out]; exact HO.out⟩, by rw [HE.out]; exact S1.rd, S1.kp⟩
    · have hlt : out.length < N := by omega
      have hlt' : (out.length : Int) < (N : Int) := by omega
      obtain ⟨f, rfl⟩ : ∃ g, f = g + 1 := ⟨f - 1, by omega⟩
      have HF1 : Hid (RES = _) := HF.out.trans (by rw [Rf.lsF, if_neg (by rw [HBD.out]; simp; omega)])
      obtain ⟨oa, oc, rfl⟩ := own_slice hown
      obtain ⟨t0, t1, t2, tz, tlt⟩ := tcells S1.bx
      have hsr := Rf.symbol_range (lw s) ls cd st'
      have hsl : (Rf.symbol (lw s) ls cd st').2.pos ≤ (lw s).length := Rf.symF_le (lw s) ls cd 15 0 0 st' (by rw [lw_length]; exact hp1)
      rw [lw_length] at hsl
      have hrd : Calls Tryz.prog 162 #[tabV M sh lo, .pointer (some ⟨R, 0, none⟩)] wr fun e w' =>
        ((Rf.symbol (lw s) ls cd st').2.bad = false ∧ e = .returned (.int .i64 (Rf.symbol (lw s) ls cd st').1) ∧ Rd w' R s (Rf.symbol (lw s) ls cd st').2.pos ∧ Kp (· = R) wr w') ∨
        ((Rf.symbol (lw s) ls cd st').2.bad = true ∧ e = dies 6 ∧ Kp (· = R) wr w') := by rw [HCD.out]; exact read65 M sh lo ls s R st' wr S1.tb S1.rd hMR hs hp1 HBD.out
      generalize Rf.symbol (lw s) ls cd st' = SY at *
      obtain ⟨x, st2⟩ := SY
      simp only at hsr hsl hrd HF1
      clear HF
      go_wp2_with fail
      refine hrd.mono ?_
      rintro e w2 (⟨q1, rfl, r2, k2⟩ | ⟨q1, rfl, k2⟩)
      case inr =>
        go_wp2
        exact ⟨rfl, .inr ⟨HBL.out (.inl (by rw [HF1.out, if_pos q1]; exact q1)), rfl, S1.kp.trans k2⟩⟩
      case inl =>
      rw [if_neg (by rw [q1]; decide)] at HF1
      have S2 := S1.read hltR hMR k2 r2
      have O2 : w2.ownsRow (w.heap.size + 1) 3 1 (.slice oa out.length oc) out.length (vals out) := own_blk hown (fun g hg => k2.block g (hown.lt g hg).2 (fun e => by have := (hown.lt g hg).1; omega))
      have hx0 := hsr.1
      have hx19 : x < 19 := by have := hsr.2 q1; omega
      have HQ1 : Hid (st2.bad = false) := q1
      clear hrd hsr S1 hown k2 r2 t0 t1 t2 tz tlt q1 HBD hp1
      by_cases h16 : x < 16
      · rw [if_pos h16] at HF1
        have HX : Hid (RES = Rf.lsF (lw s) ls cd N f (out ++ List.replicate 1 x) st2) := HF1.out
        have HQ3 := HQ1
        have hp3 := hsl
        have S3 := S2
        have O3 := O2
        have n16 : ¬ x = 16 := by omega
        have n17 : ¬ x = 17 := by omega
        have n18 : ¬ x = 18 := by omega
        have b16 : (x == 16) = false := by simp; omega
        have b17 : (x == 17) = false := by simp; omega
        have b18 : (x == 18) = false := by simp; omega
        clear S2 O2 HF1
        by_cases hov : 1 ≤ N - out.length
        · have hov1 : ¬ ((N : Int) - (out.length : Int) < (1 : Int)) := by omega
          have hov2 : (1 : Int) ≤ (N : Int) - (out.length : Int) := by omega
          have hd : decide ((N : Int) - (out.length : Int) < (1 : Int)) = false := by simp; omega
          go_wp2
          go_loopw [7, 55] (fun v i wr => ∃ j : Nat, j ≤ 1 ∧ i = .int .i64 j ∧ wr.ownsRow (w.heap.size + 1) 3 1 v (out.length + j) (vals (out ++ List.replicate j x)) ∧ Sl w wr s R st2.pos M sh lo ls) (fun _ i _ => 1 - (intOf i).toNat)
          case atStart => exact ⟨0, Nat.zero_le _, rfl, by simpa using O3, S3⟩
          case round =>
            clear S3 O3
            obtain ⟨j, hj, rfl, hown, S4⟩ := hrel
            by_cases hjt : j < 1
            · have hjt' : (j : Int) < (1 : Int) := by omega
              go_wp2_with (at_builtin; refine wpList_append_own _ rfl _ _ 24 rfl (w.heap.size + 1) 3 i0 (.int .i64 0) 1 8 Tryz.underlying24 hi hz0 hz1 hz2 rfl (by decide) _ _ _ rfl (hown.alloc _) ⟨wr.heap.size, 0, none⟩ 1 1 [.int .i64 x] rfl rfl (cell_one_new _ _ _) (by intro u hu; simp at hu; subst hu; rfl) (by unfold maxLen; omega) (by omega) (by have := S4.kp.size; have := lt_of_block S4.bx; simp; omega) ?_; intro v' w5 hown' hgrow _)
              have R5 : w5.ownsRow (w.heap.size + 1) 3 1 v' (out.length + (j + 1)) (vals (out ++ List.replicate (j + 1) x)) ∧ Sl w w5 s R st2.pos M sh lo ls := by
                refine ⟨?_, S4.grow hltR hltM _ hown hgrow⟩
                rw [vals_snoc]
                exact hown'
              clear hown' hgrow hown S4
              go_wp2
              go_roundw
              case rel => exact ⟨j + 1, by omega, by go_num, R5.1, R5.2⟩
              case measure => simp [intOf]; omega
            · have hjt2 : j = 1 := by omega
              subst hjt2
              have hjn : ¬ (((1 : Nat) : Int) < (1 : Int)) := by omega
              obtain ⟨oa5, oc5, rfl⟩ := own_slice hown
              have O5 : Hid (wr.ownsRow (w.heap.size + 1) 3 1 (.slice oa5 (out.length + (1)) oc5) (out ++ List.replicate (1) x).length (vals (out ++ List.replicate (1) x))) := by
                show wr.ownsRow _ _ _ _ _ _
                rw [List.length_append, List.length_replicate]
                exact hown
              clear hown
              go_wp2
              go_roundw
              case rel => exact ⟨f, out ++ List.replicate (1) x, st2, O5.out, by rw [List.length_append, List.length_replicate]; omega, S4, HQ3, hp3, HX, by rw [List.length_append, List.length_replicate]; omega⟩
              case measure => simp [lenV] <;> omega
        · exact absurd (show 1 ≤ N - out.length by omega) hov
      · rw [if_neg h16] at HF1
        by_cases e16 : x = 16
        · rw [if_pos e16] at HF1
          subst e16
          by_cases hnil : out = []
          · rw [if_pos hnil] at HF1
            have hn0 : out.length = 0 := by rw [hnil]; rfl
            have hn1 : (out.length : Int) = 0 := by omega
            go_wp2
            exact ⟨rfl, .inr ⟨HBL.out (.inl (by rw [HF1.out])), rfl, S2.kp⟩⟩
          · rw [if_neg hnil] at HF1
            have hpos : 0 < out.length := List.length_pos_iff.2 hnil
            have hn1 : ¬ (out.length : Int) = 0 := by omega
            have bn : ((out.length : Int) == 0) = false := by simp; exact hnil
            obtain ⟨g, oc', hv, hgb⟩ := own_some O2 hpos
            cases hv
            obtain ⟨y, hy⟩ : ∃ y : Int, y = out.getD (out.length - 1) 0 := ⟨_, rfl⟩
            obtain ⟨q, hq⟩ : ∃ q : Nat, q = out.length - 1 := ⟨_, rfl⟩
            have hcell : w2.cell? ⟨g, q, none⟩ = some (.int .i64 y) := (O2.cellAt q (by omega)).trans (by rw [hy, hq]; simp [vals, List.getD, List.getElem?_eq_getElem (show out.length - 1 < out.length by omega)])
            rw [← hy] at HF1
            have hnum := fun W h => number37 2 s R st2 W h hs hsl HQ1.out (by omega)
            have g2 := Rf.take_range (lw_bits s) st2 2
            have p2 := Rf.take_pos (lw s) st2 2 (by rw [lw_length]; exact hsl)
            rw [lw_length] at p2
            generalize Rf.take (lw s) st2 2 = A at *
            obtain ⟨t, st3⟩ := A
            simp only at hnum g2 p2 HF1
            obtain ⟨t, rfl⟩ : ∃ u : Nat, t = (u : Int) := ⟨t.toNat, by omega⟩
            have ht : t < 4 := by have := g2.2; omega
            have HX : Hid (RES = Rf.lsF (lw s) ls cd N f (out ++ List.replicate (3 + t) y) st3) := by show _ = _; rw [HF1.out]; rfl
            have j1 : (0 : Int) ≤ (out.length : Int) - 1 := by omega
            have j2 : (out.length : Int) - 1 < (out.length : Int) := by omega
            have wrp : IntKind.i64.wrap ((out.length : Int) - 1) = (q : Int) := by rw [IntWalk.i64_in _ (by omega)]; omega
            have j4 : (q : Int) < (out.length : Int) := by omega
            have wr3 : IntKind.i64.wrap (3 + (t : Int)) = 3 + (t : Int) := IntWalk.i64_in _ (by omega)
            have hltg := (O2.lt g rfl).2
            have hgR : g ≠ R := by omega
            clear HF1 g2 hy hq
            go_wp2
            have hS : w2.drew.cell? ⟨g, q, none⟩ = some (.int .i64 y) := hcell
            refine regionZ (by kernel_rfl) (fun w' => w'.cell? ⟨g, q, none⟩ = some (.int .i64 y)) 99 ?_
            refine anyZ_take (i := 0) (v := ?_) rfl (by kernel_rfl) (by kernel_rfl) (by kernel_rfl) (by kernel_rfl) (fun _ _ _ h => h) (by rfl) ?_ hS ?_
            rotate_left
            · intro w hSw; (try dsimp only at hSw); go_simp; try with_reducible rfl
            try simp only [Act.put]
            refine anyZ_take (i := 1) (v := ?_) rfl (by kernel_rfl) (by kernel_rfl) (by kernel_rfl) (by kernel_rfl) (fun _ _ _ h => h) (by rfl) ?_ hS ?_
            rotate_left
            · intro w hSw; (try dsimp only at hSw); go_simp; try with_reducible rfl
            try simp only [Act.put]
            refine anyZ_take (i := 2) (v := ?_) rfl (by kernel_rfl) (by kernel_rfl) (by kernel_rfl) (by kernel_rfl) (fun _ _ _ h => h) (by rfl) ?_ hS ?_
            rotate_left
            · intro w hSw; (try dsimp only at hSw); go_simp; try with_reducible rfl
            try simp only [Act.put]
            refine anyZ_take (i := 3) (v := ?_) rfl (by kernel_rfl) (by kernel_rfl) (by kernel_rfl) (by kernel_rfl) (fun _ _ _ h => h) (by rfl) ?_ hS ?_
            rotate_left
            · intro w hSw; (try dsimp only at hSw); go_simp; try with_reducible rfl
            try simp only [Act.put]
            refine anyZ_take (i := 4) (v := ?_) rfl (by kernel_rfl) (by kernel_rfl) (by kernel_rfl) (by kernel_rfl) (fun _ _ _ h => h) (by rfl) ?_ hS ?_
            rotate_left
            · intro w hSw; (try dsimp only at hSw); go_simp; try with_reducible rfl
            try simp only [Act.put]
            refine anyZ_take (i := 5) (v := ?_) rfl (by kernel_rfl) (by kernel_rfl) (by kernel_rfl) (by kernel_rfl) (fun _ _ _ h => h) (by rfl) ?_ hS ?_
            rotate_left
            · intro w hSw; (try dsimp only at hSw); go_simp; try with_reducible rfl
            try simp only [Act.put]
            refine anyZ_take (i := 6) (v := ?_) rfl (by kernel_rfl) (by kernel_rfl) (by kernel_rfl) (by kernel_rfl) (fun _ _ _ h => h) (by rfl) ?_ hS ?_
            rotate_left
            · intro w hSw; (try dsimp only at hSw); go_simp; try with_reducible rfl
            try simp only [Act.put]
            refine anyZ_one (i := 7) (by kernel_rfl) rfl (fun K hK => ?_)
            go_simp
            refine (hnum w2.drew S2.rd).mono ?_
            rintro e w3 (⟨q2, rfl, r3, k3⟩ | ⟨q2, rfl, k3⟩)
            case inr =>
              have e : RES.2.bad = true := by
                rw [HX.out]
                cases f with
                | zero => exact q2
                | succ f => rw [Rf.lsF, if_pos (.inr q2)]; exact q2
              exact ⟨rfl, .inr ⟨HBL.out (.inl e), rfl, S2.kp.drew.trans k3⟩⟩
            case inl =>
            have hS3 : w3.cell? ⟨g, q, none⟩ = some (.int .i64 y) := (k3.cell (p := ⟨g, q, none⟩) hltg hgR).trans hcell
            have S3 := S2.drew.read hltR hMR k3 r3
            have O3 : w3.ownsRow (w.heap.size + 1) 3 1 (.slice (some ⟨g, 0, none⟩) out.length oc) out.length (vals out) := own_blk O2 (fun g' hg => k3.block g' (O2.lt g' hg).2 (fun e => by have := (O2.lt g' hg).1; omega))
            have HQ3 : Hid (st3.bad = false) := q2
            have hp3 := p2
            refine hK _ _ (fun _ => hS3) ?_
            clear hK K
            refine anyZ_take (i := 8) (v := ?_) rfl (by kernel_rfl) (by kernel_rfl) (by kernel_rfl) (by kernel_rfl) (fun _ _ _ h => h) (by rfl) ?_ hS3 ?_
            rotate_left
            · intro w hSw; (try dsimp only at hSw); go_simp; try with_reducible rfl
            try simp only [Act.put]
            refine anyZ_one (i := 9) (by kernel_rfl) rfl (fun K hK => ?_)
            go_simp
            refine hK _ _ (fun _ => hS3) ?_
            clear hK K
            refine anyZ_one (i := 10) (by kernel_rfl) rfl (fun K hK => ?_)
            go_simp
            refine hK _ _ (fun _ => hS3) ?_
            clear hK K
            refine anyZ_done (by kernel_rfl) ?_ _
            clear S2 O2 k3 r3 hnum q2 p2 hS hS3 hcell wrp j1 j2 j4
            by_cases hov : 3 + t ≤ N - out.length
            · have hov1 : ¬ ((N : Int) - (out.length : Int) < (3 + (t : Int))) := by omega
              have hov2 : (3 + (t : Int)) ≤ (N : Int) - (out.length : Int) := by omega
              have hd : decide ((N : Int) - (out.length : Int) < (3 + (t : Int))) = false := by simp; omega
              go_wp2
              go_loopw [7, 55] (fun v i wr => ∃ j : Nat, j ≤ 3 + t ∧ i = .int .i64 j ∧ wr.ownsRow (w.heap.size + 1) 3 1 v (out.length + j) (vals (out ++ List.replicate j y)) ∧ Sl w wr s R st3.pos M sh lo ls) (fun _ i _ => 3 + t - (intOf i).toNat)
              case atStart => exact ⟨0, Nat.zero_le _, rfl, by simpa using O3, S3⟩
              case round =>
                clear S3 O3
                obtain ⟨j, hj, rfl, hown, S4⟩ := hrel
                by_cases hjt : j < 3 + t
                · have hjt' : (j : Int) < (3 + (t : Int)) := by omega
                  go_wp2_with (at_builtin; refine wpList_append_own _ rfl _ _ 24 rfl (w.heap.size + 1) 3 i0 (.int .i64 0) 1 8 Tryz.underlying24 hi hz0 hz1 hz2 rfl (by decide) _ _ _ rfl (hown.alloc _) ⟨wr.heap.size, 0, none⟩ 1 1 [.int .i64 y] rfl rfl (cell_one_new _ _ _) (by intro u hu; simp at hu; subst hu; rfl) (by unfold maxLen; omega) (by omega) (by have := S4.kp.size; have := lt_of_block S4.bx; simp; omega) ?_; intro v' w5 hown' hgrow _)
                  have R5 : w5.ownsRow (w.heap.size + 1) 3 1 v' (out.length + (j + 1)) (vals (out ++ List.replicate (j + 1) y)) ∧ Sl w w5 s R st3.pos M sh lo ls := by
                    refine ⟨?_, S4.grow hltR hltM _ hown hgrow⟩
                    rw [vals_snoc]
                    exact hown'
                  clear hown' hgrow hown S4
                  go_wp2
                  go_roundw
                  case rel => exact ⟨j + 1, by omega, by go_num, R5.1, R5.2⟩
                  case measure => simp [intOf]; omega
                · have hjt2 : j = 3 + t := by omega
                  subst hjt2
                  have hjn : ¬ (((3 + t : Nat) : Int) < (3 + (t : Int))) := by omega
                  obtain ⟨oa5, oc5, rfl⟩ := own_slice hown
                  have O5 : Hid (wr.ownsRow (w.heap.size + 1) 3 1 (.slice oa5 (out.length + (3 + t)) oc5) (out ++ List.replicate (3 + t) y).length (vals (out ++ List.replicate (3 + t) y))) := by
                    show wr.ownsRow _ _ _ _ _ _
                    rw [List.length_append, List.length_replicate]
                    exact hown
                  clear hown
                  go_wp2
                  go_roundw
                  case rel => exact ⟨f, out ++ List.replicate (3 + t) y, st3, O5.out, by rw [List.length_append, List.length_replicate]; omega, S4, HQ3, hp3, HX, by rw [List.length_append, List.length_replicate]; omega⟩
                  case measure => simp [lenV] <;> omega
            · have hov1 : (N : Int) - (out.length : Int) < (3 + (t : Int)) := by omega
              go_wp2
              have e : RES = (out ++ List.replicate (3 + t) y, st3) := by rw [HX.out]; exact lsF_done _ _ _ _ _ _ _ (by rw [List.length_append, List.length_replicate]; omega)
              exact ⟨rfl, .inr ⟨HBL.out (.inr (by rw [e]; simp; omega)), rfl, S3.kp⟩⟩
        · rw [if_neg e16] at HF1
          by_cases e17 : x = 17
          · rw [if_pos e17] at HF1
            subst e17
            have hnum := number37 3 s R st2 w2 S2.rd hs hsl HQ1.out (by omega)
            have g2 := Rf.take_range (lw_bits s) st2 3
            have p2 := Rf.take_pos (lw s) st2 3 (by rw [lw_length]; exact hsl)
            rw [lw_length] at p2
            generalize Rf.take (lw s) st2 3 = A at *
            obtain ⟨t, st3⟩ := A
            simp only at hnum g2 p2 HF1
            obtain ⟨t, rfl⟩ : ∃ u : Nat, t = (u : Int) := ⟨t.toNat, by omega⟩
            have ht : t < 8 := by have := g2.2; omega
            have HX : Hid (RES = Rf.lsF (lw s) ls cd N f (out ++ List.replicate (3 + t) 0) st3) := by show _ = _; rw [HF1.out]; rfl
            clear HF1 g2
            go_wp2_with fail
            refine hnum.mono ?_
            rintro e w3 (⟨q2, rfl, r3, k3⟩ | ⟨q2, rfl, k3⟩)
            case inr =>
              go_wp2
              have e : RES.2.bad = true := by
                rw [HX.out]
                cases f with
                | zero => exact q2
                | succ f => rw [Rf.lsF, if_pos (.inr q2)]; exact q2
              exact ⟨rfl, .inr ⟨HBL.out (.inl e), rfl, S2.kp.trans k3⟩⟩
            case inl =>
            have S3 := S2.read hltR hMR k3 r3
            have O3 : w3.ownsRow (w.heap.size + 1) 3 1 (.slice oa out.length oc) out.length (vals out) := own_blk O2 (fun g hg => k3.block g (O2.lt g hg).2 (fun e => by have := (O2.lt g hg).1; omega))
            have HQ3 : Hid (st3.bad = false) := q2
            have hp3 := p2
            clear S2 O2 k3 r3 hnum q2 p2
            by_cases hov : 3 + t ≤ N - out.length
            · have hov1 : ¬ ((N : Int) - (out.length : Int) < (3 + (t : Int))) := by omega
              have hov2 : (3 + (t : Int)) ≤ (N : Int) - (out.length : Int) := by omega
              have hd : decide ((N : Int) - (out.length : Int) < (3 + (t : Int))) = false := by simp; omega
              go_wp2
              go_loopw [7, 55] (fun v i wr => ∃ j : Nat, j ≤ 3 + t ∧ i = .int .i64 j ∧ wr.ownsRow (w.heap.size + 1) 3 1 v (out.length + j) (vals (out ++ List.replicate j 0)) ∧ Sl w wr s R st3.pos M sh lo ls) (fun _ i _ => 3 + t - (intOf i).toNat)
              case atStart => exact ⟨0, Nat.zero_le _, rfl, by simpa using O3, S3⟩
              case round =>
                clear S3 O3
                obtain ⟨j, hj, rfl, hown, S4⟩ := hrel
                by_cases hjt : j < 3 + t
                · have hjt' : (j : Int) < (3 + (t : Int)) := by omega
                  go_wp2_with (at_builtin; refine wpList_append_own _ rfl _ _ 24 rfl (w.heap.size + 1) 3 i0 (.int .i64 0) 1 8 Tryz.underlying24 hi hz0 hz1 hz2 rfl (by decide) _ _ _ rfl (hown.alloc _) ⟨wr.heap.size, 0, none⟩ 1 1 [.int .i64 0] rfl rfl (cell_one_new _ _ _) (by intro u hu; simp at hu; subst hu; rfl) (by unfold maxLen; omega) (by omega) (by have := S4.kp.size; have := lt_of_block S4.bx; simp; omega) ?_; intro v' w5 hown' hgrow _)
                  have R5 : w5.ownsRow (w.heap.size + 1) 3 1 v' (out.length + (j + 1)) (vals (out ++ List.replicate (j + 1) 0)) ∧ Sl w w5 s R st3.pos M sh lo ls := by
                    refine ⟨?_, S4.grow hltR hltM _ hown hgrow⟩
                    rw [vals_snoc]
                    exact hown'
                  clear hown' hgrow hown S4
                  go_wp2
                  go_roundw
                  case rel => exact ⟨j + 1, by omega, by go_num, R5.1, R5.2⟩
                  case measure => simp [intOf]; omega
                · have hjt2 : j = 3 + t := by omega
                  subst hjt2
                  have hjn : ¬ (((3 + t : Nat) : Int) < (3 + (t : Int))) := by omega
                  obtain ⟨oa5, oc5, rfl⟩ := own_slice hown
                  have O5 : Hid (wr.ownsRow (w.heap.size + 1) 3 1 (.slice oa5 (out.length + (3 + t)) oc5) (out ++ List.replicate (3 + t) 0).length (vals (out ++ List.replicate (3 + t) 0))) := by
                    show wr.ownsRow _ _ _ _ _ _
                    rw [List.length_append, List.length_replicate]
                    exact hown
                  clear hown
                  go_wp2
                  go_roundw
                  case rel => exact ⟨f, out ++ List.replicate (3 + t) 0, st3, O5.out, by rw [List.length_append, List.length_replicate]; omega, S4, HQ3, hp3, HX, by rw [List.length_append, List.length_replicate]; omega⟩
                  case measure => simp [lenV] <;> omega
            · have hov1 : (N : Int) - (out.length : Int) < (3 + (t : Int)) := by omega
              go_wp2
              have e : RES = (out ++ List.replicate (3 + t) 0, st3) := by rw [HX.out]; exact lsF_done _ _ _ _ _ _ _ (by rw [List.length_append, List.length_replicate]; omega)
              exact ⟨rfl, .inr ⟨HBL.out (.inr (by rw [e]; simp; omega)), rfl, S3.kp⟩⟩
          · rw [if_neg e17] at HF1
            have e18 : x = 18 := by omega
            subst e18
            have hnum := number37 7 s R st2 w2 S2.rd hs hsl HQ1.out (by omega)
            have g2 := Rf.take_range (lw_bits s) st2 7
            have p2 := Rf.take_pos (lw s) st2 7 (by rw [lw_length]; exact hsl)
            rw [lw_length] at p2
            generalize Rf.take (lw s) st2 7 = A at *
            obtain ⟨t, st3⟩ := A
            simp only at hnum g2 p2 HF1
            obtain ⟨t, rfl⟩ : ∃ u : Nat, t = (u : Int) := ⟨t.toNat, by omega⟩
            have ht : t < 128 := by have := g2.2; omega
            have HX : Hid (RES = Rf.lsF (lw s) ls cd N f (out ++ List.replicate (11 + t) 0) st3) := by show _ = _; rw [HF1.out]; rfl
            clear HF1 g2
            go_wp2_with fail
            refine hnum.mono ?_
            rintro e w3 (⟨q2, rfl, r3, k3⟩ | ⟨q2, rfl, k3⟩)
            case inr =>
              go_wp2
              have e : RES.2.bad = true := by
                rw [HX.out]
                cases f with
                | zero => exact q2
                | succ f => rw [Rf.lsF, if_pos (.inr q2)]; exact q2
              exact ⟨rfl, .inr ⟨HBL.out (.inl e), rfl, S2.kp.trans k3⟩⟩
            case inl =>
            have S3 := S2.read hltR hMR k3 r3
            have O3 : w3.ownsRow (w.heap.size + 1) 3 1 (.slice oa out.length oc) out.length (vals out) := own_blk O2 (fun g hg => k3.block g (O2.lt g hg).2 (fun e => by have := (O2.lt g hg).1; omega))
            have HQ3 : Hid (st3.bad = false) := q2
            have hp3 := p2
            clear S2 O2 k3 r3 hnum q2 p2
            by_cases hov : 11 + t ≤ N - out.length
            · have hov1 : ¬ ((N : Int) - (out.length : Int) < (11 + (t : Int))) := by omega
              have hov2 : (11 + (t : Int)) ≤ (N : Int) - (out.length : Int) := by omega
              have hd : decide ((N : Int) - (out.length : Int) < (11 + (t : Int))) = false := by simp; omega
              go_wp2
              go_loopw [7, 55] (fun v i wr => ∃ j : Nat, j ≤ 11 + t ∧ i = .int .i64 j ∧ wr.ownsRow (w.heap.size + 1) 3 1 v (out.length + j) (vals (out ++ List.replicate j 0)) ∧ Sl w wr s R st3.pos M sh lo ls) (fun _ i _ => 11 + t - (intOf i).toNat)
              case atStart => exact ⟨0, Nat.zero_le _, rfl, by simpa using O3, S3⟩
              case round =>
                clear S3 O3
                obtain ⟨j, hj, rfl, hown, S4⟩ := hrel
                by_cases hjt : j < 11 + t
                · have hjt' : (j : Int) < (11 + (t : Int)) := by omega
                  go_wp2_with (at_builtin; refine wpList_append_own _ rfl _ _ 24 rfl (w.heap.size + 1) 3 i0 (.int .i64 0) 1 8 Tryz.underlying24 hi hz0 hz1 hz2 rfl (by decide) _ _ _ rfl (hown.alloc _) ⟨wr.heap.size, 0, none⟩ 1 1 [.int .i64 0] rfl rfl (cell_one_new _ _ _) (by intro u hu; simp at hu; subst hu; rfl) (by unfold maxLen; omega) (by omega) (by have := S4.kp.size; have := lt_of_block S4.bx; simp; omega) ?_; intro v' w5 hown' hgrow _)
                  have R5 : w5.ownsRow (w.heap.size + 1) 3 1 v' (out.length + (j + 1)) (vals (out ++ List.replicate (j + 1) 0)) ∧ Sl w w5 s R st3.pos M sh lo ls := by
                    refine ⟨?_, S4.grow hltR hltM _ hown hgrow⟩
                    rw [vals_snoc]
                    exact hown'
                  clear hown' hgrow hown S4
                  go_wp2
                  go_roundw
                  case rel => exact ⟨j + 1, by omega, by go_num, R5.1, R5.2⟩
                  case measure => simp [intOf]; omega
                · have hjt2 : j = 11 + t := by omega
                  subst hjt2
                  have hjn : ¬ (((11 + t : Nat) : Int) < (11 + (t : Int))) := by omega
                  obtain ⟨oa5, oc5, rfl⟩ := own_slice hown
                  have O5 : Hid (wr.ownsRow (w.heap.size + 1) 3 1 (.slice oa5 (out.length + (11 + t)) oc5) (out ++ List.replicate (11 + t) 0).length (vals (out ++ List.replicate (11 + t) 0))) := by
                    show wr.ownsRow _ _ _ _ _ _
                    rw [List.length_append, List.length_replicate]
                    exact hown
                  clear hown
                  go_wp2
                  go_roundw
                  case rel => exact ⟨f, out ++ List.replicate (11 + t) 0, st3, O5.out, by rw [List.length_append, List.length_replicate]; omega, S4, HQ3, hp3, HX, by rw [List.length_append, List.length_replicate]; omega⟩
                  case measure => simp [lenV] <;> omega
            · have hov1 : (N : Int) - (out.length : Int) < (11 + (t : Int)) := by omega
              go_wp2
              have e : RES = (out ++ List.replicate (11 + t) 0, st3) := by rw [HX.out]; exact lsF_done _ _ _ _ _ _ _ (by rw [List.length_append, List.length_replicate]; omega)
              exact ⟨rfl, .inr ⟨HBL.out (.inr (by rw [e]; simp; omega)), rfl, S3.kp⟩⟩
end Go.Proofs.YtmfijackgekioaaGreatDoor
