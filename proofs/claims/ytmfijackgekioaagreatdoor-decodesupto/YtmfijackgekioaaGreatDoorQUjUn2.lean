import Derived.Test.YtmfijackgekioaaGreatDoorQUiUm4
import Derived.Test.YtmfijackgekioaaGreatDoorQUtFm2
import Derived.Test.YtmfijackgekioaaGreatDoorQSmRo4

/-
  A copy by the sink.
-/
namespace Go.Proofs.YtmfijackgekioaaGreatDoor
open Go.RowKit

set_option maxRecDepth 100000 in
set_option maxHeartbeats 4000000 in
theorem again57 (n d : Nat) (s : ByteArray) (R : Nat) (limit : Int) (st : Rf.St) (ov : Value) (w : World) (h : Pg w s R limit st ov) (hout : Hid (st.out.length ≤ 11000000000)) (hn : n ≤ 258) (hd : 1 ≤ d) (hd2 : d ≤ 65536) :
    Calls Tryz.prog 154 #[.int .i64 n, .int .i64 d, .pointer (some ⟨R + 2, 0, none⟩), .pointer (some ⟨R + 5, 0, none⟩)] w fun e w' =>
      (d ≤ st.out.length ∧ Rf.room limit st n = (true, st) ∧ e = .returned (.tuple #[]) ∧ (∃ ov', Pg w' s R limit { st with out := Rf.cpF d n st.out } ov') ∧ FrP R w w') ∨
      (d ≤ st.out.length ∧ Rf.room limit st n = (false, { st with full := true }) ∧ e = dies 7 ∧ Below R w w') ∨ (st.out.length < d ∧ e = dies 6 ∧ Below R w w') := by
  obtain ⟨i0, hi, hz0, hz1, hz2⟩ := info_parts Tryz.infoB
  obtain ⟨c1, c2, c3, c5, fz⟩ := h.cells
  have HO0 := hout.out
  have ho2 : (st.out.length : Int) ≤ 11000000000 := by omega
  have H := h
  obtain ⟨oa, oc, rfl⟩ := own_slice h.ho
  by_cases hlt : st.out.length < d
  · have hlt' : (st.out.length : Int) < (d : Int) := by omega
    go_enter Tryz.func154, Tryz.ntmps154
    go_wp2
    exact ⟨rfl, .inr (.inr ⟨hlt, rfl, Below.refl _ _⟩)⟩
  · have hlt' : ¬ (st.out.length : Int) < (d : Int) := by omega
    go_enter Tryz.func154, Tryz.ntmps154
    go_wp2_with fail
    refine (room55 n s R limit st _ _ h (by omega)).mono ?_
    rintro e w1 (⟨hr, rfl, hol, m, rfl⟩ | ⟨hr, rfl, m, rfl⟩)
    · have HR : Hid (Rf.room limit st n = (true, st)) := hr
      have HOL : Hid (((st.out.length + n : Nat) : Int) ≤ max limit 0) := hol
      have h2 := h.drewN m
      have F2 := (FrP.refl R w).drewN m
      clear hr hol h H c1 c2 c3 c5 fz
      generalize w.drewN m = w0 at *
      go_wp2
      go_loopw [17] (fun v wr => ∃ (k : Nat) (o : List UInt8), k ≤ n ∧ v = .int .i64 k ∧ (∃ ov', Pg wr s R limit { st with out := o } ov') ∧ FrP R w wr ∧ Hid (Rf.cpF d (n - k) o = Rf.cpF d n st.out) ∧ Hid (d ≤ o.length ∧ o.length = st.out.length + k)) (fun v _ => n - (intOf v).toNat)
      case atStart => exact ⟨0, st.out, Nat.zero_le _, rfl, ⟨_, h2⟩, F2, rfl, by show _ ∧ _; omega⟩
      case round =>
        clear h2 F2
        obtain ⟨k, o, hk, rfl, ⟨ov5, r5⟩, f5, HC, HO5⟩ := hrel
        by_cases hkn : k < n
        · obtain ⟨g, oc', rfl, hgb⟩ := r5.ho.form (by have := HO5.out; show 0 < o.length; omega)
          obtain ⟨c, hc⟩ : ∃ c : UInt8, c = o.getD (o.length - d) 0 := ⟨_, rfl⟩
          have hcell : wr.cell? ⟨g, o.length - d, none⟩ = some (.int .u8 c.toNat) := (r5.ho.cellAt (o.length - d) (by have := HO5.out; show _ < o.length * 1; omega)).trans (by rw [hc]; have := HO5.out; simp [List.getD, List.getElem?_eq_getElem (show o.length - d < o.length by omega)])
          have HC2 : Hid (Rf.cpF d (n - (k + 1)) (o ++ [c]) = Rf.cpF d n st.out) := by show _ = _; rw [← HC.out, show n - k = (n - (k + 1)) + 1 by omega, Rf.cpF, hc]
          have HB : Hid (o.length + 1 ≤ maxLen ∧ (o.length + 1) * 1 ≤ 140737488355328) := by have := HO5.out; show _ ∧ _; unfold maxLen; omega
          have HO6 : Hid (d ≤ (o ++ [c]).length ∧ (o ++ [c]).length = st.out.length + (k + 1)) := by have := HO5.out; show _ ∧ _; simp; omega
          have HRM : Hid (((o.length + 1 : Nat) : Int) ≤ max limit 0) := by have := HO5.out; have := HOL.out; show _ ≤ _; omega
          have j1 : (0 : Int) ≤ (o.length : Int) - (d : Int) := by have := HO5.out; omega
          have j2 : (o.length : Int) - (d : Int) < (o.length : Int) := by omega
          have j3 : (o.length : Int) ≤ 4611686018427387904 := by have := HO5.out; omega
          have wrp : IntKind.i64.wrap ((o.length : Int) - (d : Int)) = ((o.length - d : Nat) : Int) := by rw [IntWalk.i64_in _ (by have := HO5.out; omega)]; have := HO5.out; omega
          have j4 : ((o.length - d : Nat) : Int) < (o.length : Int) := by have := HO5.out; omega
          have hl5 := r5.lt
          have hg5 := (r5.ho.lt g rfl).2
          obtain ⟨d1, d2, d3, d5, gz⟩ := r5.cells
          have b1 : R + 1 < wr.heap.size := by omega
          have b2 : R + 2 < wr.heap.size := by omega
          clear hc HC HO5
          go_wp2
          have hS : wr.drew.cell? ⟨R + 2, 0, none⟩ = some (.pointer (some ⟨R + 1, 0, none⟩)) ∧ wr.drew.cell? ⟨R + 1, 0, none⟩ = some (.slice (some ⟨g, 0, none⟩) o.length oc') := ⟨d2, d1⟩
          refine regionZ (by kernel_rfl) (fun w' => w'.cell? ⟨R + 2, 0, none⟩ = some (.pointer (some ⟨R + 1, 0, none⟩)) ∧ w'.cell? ⟨R + 1, 0, none⟩ = some (.slice (some ⟨g, 0, none⟩) o.length oc')) 18 ?_
          refine anyZ_take (i := 0) (v := ?_) rfl (by kernel_rfl) (by kernel_rfl) (by kernel_rfl) (by kernel_rfl) (fun _ _ _ h => h) (by rfl) ?_ hS ?_
          rotate_left
          · intro w hSw; (try dsimp only at hSw); go_simp; try with_reducible rfl
          try simp only [Act.put]
          refine anyZ_take (i := 1) (v := ?_) rfl (by kernel_rfl) (by kernel_rfl) (by kernel_rfl) (by kernel_rfl) (fun _ _ _ h => h) (by rfl) ?_ hS ?_
          rotate_left
          · intro w hSw; (try dsimp only at hSw); go_simp; try with_reducible rfl
          try simp only [Act.put]
          refine anyZ_take (i := 2) (v := ?_) rfl (by kernel_rfl) (by kernel_rfl) (by kernel_rfl) (by kernel_rfl) (fun _ _ _ h => h) (by rfl) ?_ hS ?_
          rotate_left
          · intro w hSw; (try dsimp only at hSw); go_simp; try with_reducible rfl
          try simp only [Act.put]
          refine anyZ_take (i := 3) (v := ?_) rfl (by kernel_rfl) (by kernel_rfl) (by kernel_rfl) (by kernel_rfl) (fun _ _ _ h => h) (by rfl) ?_ hS ?_
          rotate_left
          · intro w hSw; (try dsimp only at hSw); go_simp; try with_reducible rfl
          try simp only [Act.put]
          refine anyZ_take (i := 4) (v := ?_) rfl (by kernel_rfl) (by kernel_rfl) (by kernel_rfl) (by kernel_rfl) (fun _ _ _ h => h) (by rfl) ?_ hS ?_
          rotate_left
          · intro w hSw; (try dsimp only at hSw); go_simp; try with_reducible rfl
          try simp only [Act.put]
          refine anyZ_take (i := 5) (v := ?_) rfl (by kernel_rfl) (by kernel_rfl) (by kernel_rfl) (by kernel_rfl) (fun _ _ _ h => h) (by rfl) ?_ hS ?_
          rotate_left
          · intro w hSw; (try dsimp only at hSw); go_simp; try with_reducible rfl
          try simp only [Act.put]
          refine anyZ_take (i := 6) (v := ?_) rfl (by kernel_rfl) (by kernel_rfl) (by kernel_rfl) (by kernel_rfl) (fun _ _ _ h => h) (by rfl) ?_ hS ?_
          rotate_left
          · intro w hSw; (try dsimp only at hSw); go_simp; try with_reducible rfl
          try simp only [Act.put]
          refine anyZ_take (i := 7) (v := ?_) rfl (by kernel_rfl) (by kernel_rfl) (by kernel_rfl) (by kernel_rfl) (fun _ _ _ h => h) (by rfl) ?_ hS ?_
          rotate_left
          · intro w hSw; (try dsimp only at hSw); go_simp; try with_reducible rfl
          try simp only [Act.put]
          refine anyZ_take (i := 8) (v := ?_) rfl (by kernel_rfl) (by kernel_rfl) (by kernel_rfl) (by kernel_rfl) (fun _ _ _ h => h) (by rfl) ?_ hS ?_
          rotate_left
          · intro w hSw; (try dsimp only at hSw); go_simp; try with_reducible rfl
          try simp only [Act.put]
          refine anyZ_take (i := 9) (v := ?_) rfl (by kernel_rfl) (by kernel_rfl) (by kernel_rfl) (by kernel_rfl) (fun _ _ _ h => h) (by rfl) ?_ hS ?_
          rotate_left
          · intro w hSw; (try dsimp only at hSw); go_simp; try with_reducible rfl
          try simp only [Act.put]
          refine anyZ_take (i := 10) (v := ?_) rfl (by kernel_rfl) (by kernel_rfl) (by kernel_rfl) (by kernel_rfl) (fun _ _ _ h => h) (by rfl) ?_ hS ?_
          rotate_left
          · intro w hSw; (try dsimp only at hSw); go_simp; try with_reducible rfl
          try simp only [Act.put]
          refine anyZ_take (i := 11) (v := ?_) rfl (by kernel_rfl) (by kernel_rfl) (by kernel_rfl) (by kernel_rfl) (fun _ _ _ h => h) (by rfl) ?_ hS ?_
          rotate_left
          · intro w hSw; (try dsimp only at hSw); go_simp; try with_reducible rfl
          try simp only [Act.put]
          refine anyZ_take (i := 12) (v := ?_) rfl (by kernel_rfl) (by kernel_rfl) (by kernel_rfl) (by kernel_rfl) (fun _ _ _ h => h) (by rfl) ?_ hS ?_
          rotate_left
          · intro w hSw; (try dsimp only at hSw); go_simp; try with_reducible rfl
          try simp only [Act.put]
          refine anyZ_take (i := 13) (v := ?_) rfl (by kernel_rfl) (by kernel_rfl) (by kernel_rfl) (by kernel_rfl) (fun _ _ _ h => h) (by rfl) ?_ hS ?_
          rotate_left
          · intro w hSw; (try dsimp only at hSw); go_simp; try with_reducible rfl
          try simp only [Act.put]
          refine anyZ_one (i := 14) (by kernel_rfl) rfl (fun K hK => ?_)
          go_simp
          refine hK _ _ (fun _ => hS) ?_
          clear hK K
          refine anyZ_one (i := 15) (by kernel_rfl) rfl (fun K hK => ?_)
          go_simp
          have hS2 : (wr.drew.alloc (.cells #[.int .u8 c.toNat] 5)).cell? ⟨R + 2, 0, none⟩ = some (.pointer (some ⟨R + 1, 0, none⟩)) ∧ (wr.drew.alloc (.cells #[.int .u8 c.toNat] 5)).cell? ⟨R + 1, 0, none⟩ = some (.slice (some ⟨g, 0, none⟩) o.length oc') :=
            ⟨(World.cell?_alloc_lt _ _ _ b2).trans hS.1, (World.cell?_alloc_lt _ _ _ b1).trans hS.2⟩
          refine hK _ _ (fun _ => hS2) ?_
          clear hK K
          refine anyZ_one (i := 16) (by kernel_rfl) rfl (fun K hK => ?_)
          refine step_append_lies _ (by rfl) _ _ _ (by rfl) (R + 6) 5 i0 _ 1 1 Tryz.underlying107 hi hz0 hz1 hz2 rfl (by omega) (.slice (some ⟨g, 0, none⟩) o.length oc') o.length (o.map byteV) (by rfl) ((r5.ho.alloc _).drew) ⟨wr.heap.size, 0, none⟩ 1 1 [.int .u8 c.toNat] (by rfl) (by rfl) (World.news_of_block (cs := #[.int .u8 c.toNat]) (t := 5) (fr := (0, 0)) (heap_alloc_new wr _)) (by simp [Value.oneCell']) (by omega) HB.out.1 HB.out.2 (by simp; omega) (wr.heap.size + 1) (by simp) ?_
          intro gg cp w6 hown' hgrow hat hlt6
          obtain ⟨q1, q2, q3⟩ := r5.grown (.cells #[.int .u8 c.toNat] 5) ⟨hgrow.os, hgrow.tape, hgrow.output, hgrow.size, hgrow.block⟩
          refine hK _ _ (fun _ => ⟨q3, q1⟩) ?_
          clear hK K
          try simp only [Act.put]
          refine anyZ_one (i := 17) (by kernel_rfl) rfl (fun K hK => ?_)
          go_simp
          refine hK _ _ (fun _ => ⟨q3, q1⟩) ?_
          clear hK K
          refine anyZ_one (i := 18) (by kernel_rfl) rfl (fun K hK => ?_)
          go_simp
          refine hK _ _ (fun h => absurd rfl h) ?_
          clear hK K
          refine anyZ_done (by kernel_rfl) ?_ _
          have R7 := r5.push (.cells #[.int .u8 c.toNat] 5) c HRM.out hown' ⟨hgrow.os, hgrow.tape, hgrow.output, hgrow.size, hgrow.block⟩
          clear hown' hgrow r5 hcell wrp q1 q2 q3 d1 d2 d3 d5 gz hS hS2
          go_wp2
          go_roundw
          case rel => exact ⟨k + 1, o ++ [c], by omega, by go_num, ⟨_, R7.1⟩, f5.trans R7.2, HC2, HO6⟩
          case measure => simp [intOf]; omega
        · have hkk : k = n := by omega
          subst hkk
          have HE : Hid (o = Rf.cpF d k st.out) := by show _ = _; rw [← HC.out, Nat.sub_self]; rfl
          go_wp2
          go_end0
          exact .inl ⟨by omega, HR.out, rfl, ⟨_, by rw [← HE.out]; exact r5⟩, f5⟩
    · go_wp2
      exact ⟨rfl, .inr (.inl ⟨by omega, hr, rfl, below_drewN (Below.refl _ _) _⟩)⟩

end Go.Proofs.YtmfijackgekioaaGreatDoor

/-
  A block of kind 0, by the program.
-/
namespace Go.Proofs.YtmfijackgekioaaGreatDoor
open Go.RowKit

/-- What a call answers that met an error. -/
def code (st : Rf.St) : Int := if st.full = true then 7 else 6
/-- How the program ends where the document's state is F. -/
def Ends (s : ByteArray) (R : Nat) (limit : Int) (w : World) (F : Rf.St) (e : Ending) (w' : World) : Prop :=
  (F.bad = false ∧ F.full = false ∧ e = .returned (.tuple #[]) ∧ (∃ ov', Pg w' s R limit F ov') ∧ FrP R w w') ∨ ((F.bad || F.full) = true ∧ e = dies (code F) ∧ Below R w w')
theorem code_bad {F : Rf.St} (h : F.full = false) : code F = 6 := by unfold code; rw [h]; rfl
theorem ends_bad {s : ByteArray} {R : Nat} {limit : Int} {w w' : World} {F : Rf.St} (h1 : F.bad = true) (h2 : F.full = false) (h : Below R w w') : Ends s R limit w F (dies 6) w' := .inr ⟨by rw [h1]; rfl, by rw [code_bad h2], h⟩

abbrev sinkC (R : Nat) : Array Value := #[needV R, putV R, againV R]
abbrev sinkV (R : Nat) : Value := .agg (sinkC R)

theorem bv_mod (s : ByteArray) (q k : Nat) (hk : k ≤ 8) : Rf.bv (lw s) (8 * q) k = (((s.data.toList.getD q 0).toNat % 2 ^ k : Nat) : Int) := by
  induction k with
  | zero => simp [Rf.bv, Nat.mod_one]
  | succ k ih =>
    have e : (lw s).getD (8 * q + k) 0 = (((s.data.toList.getD q 0).toNat / 2 ^ k % 2 : Nat) : Int) := by
      have h := low_at s.data.toList (8 * q + k)
      rw [show (8 * q + k) / 8 = q by omega, show (8 * q + k) % 8 = k by omega] at h
      exact h
    rw [Rf.bv, ih (by omega), e, Nat.mod_pow_succ]
    simp only [Int.natCast_add, Int.natCast_mul, Int.natCast_pow]
    rw [Int.mul_comm]
    rfl
theorem bv_byte (s : ByteArray) (q : Nat) : Rf.bv (lw s) (8 * q) 8 = ((s.data.toList.getD q 0).toNat : Int) := by
  rw [bv_mod s q 8 (by omega), Nat.mod_eq_of_lt]
  have := (s.data.toList.getD q 0).toNat_lt
  omega
theorem ofNat_byte (c : UInt8) : UInt8.ofNat ((c.toNat : Int)).toNat = c := by simp

theorem plF_all (s : ByteArray) : ∀ (n q : Nat) (st : Rf.St), st.pos = 8 * q → st.bad = false → q + n ≤ s.size →
    Rf.plF (lw s) n st = { st with pos := 8 * (q + n), out := st.out ++ (s.data.toList.drop q).take n }
  | 0, q, st, hp, _, _ => by
    rw [Rf.plF]
    cases st
    simp_all
  | n + 1, q, st, hp, hb, h => by
    have e : Rf.take (lw s) st 8 = (((s.data.toList.getD q 0).toNat : Int), { st with pos := 8 * (q + 1) }) := by
      rw [Rf.take, if_neg (by rw [lw_length]; omega), hp, bv_byte]
      simp only [show 8 * q + 8 = 8 * (q + 1) by omega]
    rw [Rf.plF, if_neg (by rw [hb]; decide), e]
    simp only [ofNat_byte]
    have ih := plF_all s n (q + 1) { st with pos := 8 * (q + 1), out := st.out ++ [s.data.toList.getD q 0] } rfl hb (by omega)
    rw [ih]
    have hl : q < s.data.toList.length := by simp; omega
    have e2 : (s.data.toList.drop q).take (n + 1) = s.data.toList.getD q 0 :: (s.data.toList.drop (q + 1)).take n := by
      rw [List.drop_eq_getElem_cons hl, List.take_succ_cons]
      simp [List.getD, List.getElem?_eq_getElem hl]
    simp only [e2, List.append_assoc, List.singleton_append, show q + 1 + n = q + (n + 1) by omega]
theorem plF_bad (L : List Int) : ∀ (n : Nat) (st : Rf.St), st.bad = true → Rf.plF L n st = st
  | 0, _, _ => rfl
  | n + 1, st, h => by rw [Rf.plF, if_pos h]
theorem plF_short (s : ByteArray) : ∀ (n q : Nat) (st : Rf.St), st.pos = 8 * q → q ≤ s.size → s.size < q + n → (Rf.plF (lw s) n st).bad = true ∧ (Rf.plF (lw s) n st).full = st.full
  | 0, q, st, _, h1, h2 => by omega
  | n + 1, q, st, hp, h1, h2 => by
    rw [Rf.plF]
    split
    · rename_i h; exact ⟨h, rfl⟩
    · by_cases hq : q < s.size
      · have e : Rf.take (lw s) st 8 = (((s.data.toList.getD q 0).toNat : Int), { st with pos := 8 * (q + 1) }) := by
          rw [Rf.take, if_neg (by rw [lw_length]; omega), hp, bv_byte]
          simp only [show 8 * q + 8 = 8 * (q + 1) by omega]
        rw [e]
        exact plF_short s n (q + 1) _ rfl (by omega) (by omega)
      · have e : Rf.take (lw s) st 8 = (0, { st with bad := true }) := by rw [Rf.take, if_pos (by rw [lw_length]; omega)]
        rw [e]
        simp only
        rw [plF_bad _ _ _ rfl]
        exact ⟨rfl, rfl⟩

theorem i64_xor_16 (n : Nat) (h : n < 65536) : bits .xor .i64 (n : Int) 65535 = ((65535 - n : Nat) : Int) := by
  have hx : n ^^^ 65535 = 65535 - n := by
    apply Nat.eq_of_testBit_eq
    intro i
    rw [Nat.testBit_xor, show (65535 : Nat) = 2 ^ 16 - 1 from rfl, Nat.testBit_two_pow_sub_one, show 2 ^ 16 - 1 - n = 2 ^ 16 - (n + 1) by omega, Nat.testBit_two_pow_sub_succ (by omega)]
    by_cases hi : i < 16
    · simp [hi]
    · rw [Nat.testBit_lt_two_pow (x := n) (i := i) (Nat.lt_of_lt_of_le h (by show 2 ^ 16 ≤ _; exact Nat.pow_le_pow_right (by omega) (by omega)))]
      simp [hi]
  have key : (BitVec.ofInt 64 (n : Int) ^^^ BitVec.ofInt 64 65535).toNat = 65535 - n := by
    rw [BitVec.toNat_xor, BitVec.toNat_ofInt, BitVec.toNat_ofInt]
    have t1 : ((n : Int) % ((2 ^ 64 : Nat) : Int)).toNat = n := by omega
    have t2 : ((65535 : Int) % ((2 ^ 64 : Nat) : Int)).toNat = 65535 := by omega
    rw [t1, t2, hx]
  show IntKind.i64.wrap ((BitVec.ofInt 64 (n : Int) ^^^ BitVec.ofInt 64 65535).toNat : Nat) = _
  rw [key, IntKind.wrap_i64]
  omega

theorem plain_eq (L : List Int) (limit : Int) (st : Rf.St) : Rf.plain L limit st =
    if (if (Rf.take L { st with pos := (st.pos + 7) / 8 * 8 } 16).1 + (Rf.take L (Rf.take L { st with pos := (st.pos + 7) / 8 * 8 } 16).2 16).1 = 65535 then (Rf.take L (Rf.take L { st with pos := (st.pos + 7) / 8 * 8 } 16).2 16).2 else { (Rf.take L (Rf.take L { st with pos := (st.pos + 7) / 8 * 8 } 16).2 16).2 with bad := true }).bad = true
    then (if (Rf.take L { st with pos := (st.pos + 7) / 8 * 8 } 16).1 + (Rf.take L (Rf.take L { st with pos := (st.pos + 7) / 8 * 8 } 16).2 16).1 = 65535 then (Rf.take L (Rf.take L { st with pos := (st.pos + 7) / 8 * 8 } 16).2 16).2 else { (Rf.take L (Rf.take L { st with pos := (st.pos + 7) / 8 * 8 } 16).2 16).2 with bad := true })
    else (if (Rf.room limit (if (Rf.take L { st with pos := (st.pos + 7) / 8 * 8 } 16).1 + (Rf.take L (Rf.take L { st with pos := (st.pos + 7) / 8 * 8 } 16).2 16).1 = 65535 then (Rf.take L (Rf.take L { st with pos := (st.pos + 7) / 8 * 8 } 16).2 16).2 else { (Rf.take L (Rf.take L { st with pos := (st.pos + 7) / 8 * 8 } 16).2 16).2 with bad := true }) (Rf.take L { st with pos := (st.pos + 7) / 8 * 8 } 16).1.toNat).1 = true
      then Rf.plF L (Rf.take L { st with pos := (st.pos + 7) / 8 * 8 } 16).1.toNat (Rf.room limit (if (Rf.take L { st with pos := (st.pos + 7) / 8 * 8 } 16).1 + (Rf.take L (Rf.take L { st with pos := (st.pos + 7) / 8 * 8 } 16).2 16).1 = 65535 then (Rf.take L (Rf.take L { st with pos := (st.pos + 7) / 8 * 8 } 16).2 16).2 else { (Rf.take L (Rf.take L { st with pos := (st.pos + 7) / 8 * 8 } 16).2 16).2 with bad := true }) (Rf.take L { st with pos := (st.pos + 7) / 8 * 8 } 16).1.toNat).2
      else (Rf.room limit (if (Rf.take L { st with pos := (st.pos + 7) / 8 * 8 } 16).1 + (Rf.take L (Rf.take L { st with pos := (st.pos + 7) / 8 * 8 } 16).2 16).1 = 65535 then (Rf.take L (Rf.take L { st with pos := (st.pos + 7) / 8 * 8 } 16).2 16).2 else { (Rf.take L (Rf.take L { st with pos := (st.pos + 7) / 8 * 8 } 16).2 16).2 with bad := true }) (Rf.take L { st with pos := (st.pos + 7) / 8 * 8 } 16).1.toNat).2) := rfl
/-- With both numbers read. -/
theorem plain_two (L : List Int) (limit : Int) (st st2 st3 : Rf.St) (a b : Int) (h1 : Rf.take L { st with pos := (st.pos + 7) / 8 * 8 } 16 = (a, st2)) (h2 : Rf.take L st2 16 = (b, st3)) (hb : st3.bad = false) :
    Rf.plain L limit st = if a + b = 65535 then (if (Rf.room limit st3 a.toNat).1 = true then Rf.plF L a.toNat (Rf.room limit st3 a.toNat).2 else (Rf.room limit st3 a.toNat).2) else { st3 with bad := true } := by
  rw [plain_eq, h1, h2]
  by_cases h : a + b = 65535
  · simp only [if_pos h]
    rw [if_neg (by rw [hb]; decide)]
  · simp only [if_neg h, if_true]
/-- With one of the numbers missing. -/
theorem plain_miss (L : List Int) (limit : Int) (st : Rf.St) (hf : st.full = false) (h : (Rf.take L (Rf.take L { st with pos := (st.pos + 7) / 8 * 8 } 16).2 16).2.bad = true) : (Rf.plain L limit st).bad = true ∧ (Rf.plain L limit st).full = false := by
  have f1 := (Rf.take_out L { st with pos := (st.pos + 7) / 8 * 8 } 16).2.2
  have f2 := (Rf.take_out L (Rf.take L { st with pos := (st.pos + 7) / 8 * 8 } 16).2 16).2.2
  have e : ((if (Rf.take L { st with pos := (st.pos + 7) / 8 * 8 } 16).1 + (Rf.take L (Rf.take L { st with pos := (st.pos + 7) / 8 * 8 } 16).2 16).1 = 65535 then (Rf.take L (Rf.take L { st with pos := (st.pos + 7) / 8 * 8 } 16).2 16).2 else { (Rf.take L (Rf.take L { st with pos := (st.pos + 7) / 8 * 8 } 16).2 16).2 with bad := true })).bad = true := by
    split
    · exact h
    · rfl
  rw [plain_eq, if_pos e]
  refine ⟨e, ?_⟩
  split
  · rw [f2, f1]; exact hf
  · show (Rf.take L (Rf.take L { st with pos := (st.pos + 7) / 8 * 8 } 16).2 16).2.full = false
    rw [f2, f1]; exact hf

end Go.Proofs.YtmfijackgekioaaGreatDoor
