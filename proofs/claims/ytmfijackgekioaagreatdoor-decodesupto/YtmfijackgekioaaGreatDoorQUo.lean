import Derived.Test.YtmfijackgekioaaGreatDoorQUjUn2
import Derived.Test.YtmfijackgekioaaGreatDoorQUaUe5

/-
  A block of kind 0, by the program: the walk.
-/
namespace Go.Proofs.YtmfijackgekioaaGreatDoor
open Go.RowKit

theorem idx_at (t : ByteArray) (k : Nat) (h : k < t.size) (w : World) : (Instr.index 9 (.string t) (.int .i64 (k : Int))).run Tryz.prog w = .ok (.int .u8 ((t.data.toList.getD k 0).toNat : Int)) w := by
  rw [run_index_string _ 9 t .i64 _ Tryz.underlying9, dif_pos (by omega)]
  have e2 : t.data.toList.getD k 0 = t[k] := by
    have hl : k < t.data.toList.length := by simpa using h
    rw [List.getD, List.getElem?_eq_getElem hl]
    rfl
  rw [e2]
  simp
theorem Pg.alloc {w : World} {s : ByteArray} {R : Nat} {limit : Int} {st : Rf.St} {ov : Value} (h : Pg w s R limit st ov) (o : Obj) : Pg (w.alloc o) s R limit st ov :=
  h.read ((Kp.refl (· = R) w).alloc o) (blk_old h.rd o) h.hp rfl h.nb h.nf
theorem FrP.alloc {R : Nat} {a w : World} (h : FrP R a w) (hR : R ≤ w.heap.size) (o : Obj) : FrP R a (w.alloc o) := h.trans (FrP.ofKp hR ((Kp.refl (· = R) w).alloc o))

set_option maxRecDepth 100000 in
set_option maxHeartbeats 4000000 in
theorem stored38 (s : ByteArray) (R : Nat) (limit : Int) (st : Rf.St) (ov : Value) (w : World) (h : Pg w s R limit st ov) (hout : Hid (st.out.length ≤ 10900000000)) :
    Calls Tryz.prog 120 #[.pointer (some ⟨R, 0, none⟩), sinkV R] w fun e w' => Ends s R limit w (Rf.plain (lw s) limit st) e w' := by
  have hs := h.hs
  have hp := h.hp
  have hlt := h.lt
  have hnb := h.nb
  have hnf := h.nf
  obtain ⟨F, hF⟩ : ∃ F, F = Rf.plain (lw s) limit st := ⟨_, rfl⟩
  rw [← hF]
  have HF : Hid (F = Rf.plain (lw s) limit st) := hF
  have h1 := h.alloc (.cells (sinkC R) 154)
  have F1 := (FrP.refl R w).alloc (by omega) (.cells (sinkC R) 154)
  have HBX : Hid ((w.alloc (.cells (sinkC R) 154)).heap[w.heap.size]? = some (.cells (sinkC R) 154 (0, 0))) := blk_new w _
  clear hF
  go_enter Tryz.func120, Tryz.ntmps120
  go_wp2_with fail
  refine (skip63 s R st.pos _ h1.rd (by omega)).mono ?_
  rintro e w2 ⟨rfl, r2, k2⟩
  have h2 : Pg w2 s R limit { st with pos := (st.pos + 7) / 8 * 8 } ov := h1.read k2 r2 (by show (st.pos + 7) / 8 * 8 ≤ _; omega) rfl hnb hnf
  have F2 := F1.trans (FrP.ofKp (by have := h1.lt; omega) k2)
  have HB2 : Hid (w2.heap[w.heap.size]? = some (.cells (sinkC R) 154 (0, 0))) := (k2.block _ (by simp) (by omega)).trans HBX.out
  clear k2 r2 h1 F1 HBX h
  go_wp2_with fail
  refine (number37 16 s R { st with pos := (st.pos + 7) / 8 * 8 } _ h2.rd hs h2.hp hnb (by omega)).mono ?_
  have g1 := Rf.take_range (lw_bits s) { st with pos := (st.pos + 7) / 8 * 8 } 16
  have o1 := Rf.take_out (lw s) { st with pos := (st.pos + 7) / 8 * 8 } 16
  have p1 := Rf.take_pos (lw s) { st with pos := (st.pos + 7) / 8 * 8 } 16 (by rw [lw_length]; exact h2.hp)
  have HM := plain_miss (lw s) limit st hnf
  have HP2 := plain_two (lw s) limit st
  have hb2 := Rf.take_bad (lw s) { st with pos := (st.pos + 7) / 8 * 8 } 16
  generalize hA : Rf.take (lw s) { st with pos := (st.pos + 7) / 8 * 8 } 16 = A at *
  obtain ⟨a, st2⟩ := A
  simp only at *
  rintro e w3 (⟨q1, rfl, r3, k3⟩ | ⟨q1, rfl, k3⟩)
  case inr =>
    go_wp2
    have hbad2 : (Rf.take (lw s) st2 16).2.bad = true := by
      cases hc : (Rf.take (lw s) st2 16).2.bad
      · have := Rf.take_bad (lw s) st2 16 hc
        rw [q1] at this
        exact absurd this.2 (by decide)
      · rfl
    have hm := HM hbad2
    exact ⟨rfl, ends_bad (by rw [HF.out]; exact hm.1) (by rw [HF.out]; exact hm.2) (F2.below.trans (k3.below (by have := h2.lt; omega) (fun k _ h => by omega)))⟩
  case inl =>
  have h3 : Pg w3 s R limit st2 ov := h2.read k3 r3 (by rw [lw_length] at p1; exact p1) o1.1 q1 (o1.2.2.trans hnf)
  have F3 := F2.trans (FrP.ofKp (by have := h2.lt; omega) k3)
  have lt2 := lt_of_block HB2.out
  have HB3 : Hid (w3.heap[w.heap.size]? = some (.cells (sinkC R) 154 (0, 0))) := (k3.block _ lt2 (by omega)).trans HB2.out
  have hb3 := hb2 q1
  have ho3 := o1.1
  have hf3 := o1.2.2
  clear k3 r3 h2 F2 HB2 o1 p1 hb2 lt2
  go_wp2_with fail
  refine (number37 16 s R st2 _ h3.rd hs h3.hp q1 (by omega)).mono ?_
  have g2 := Rf.take_range (lw_bits s) st2 16
  have o2 := Rf.take_out (lw s) st2 16
  have p2 := Rf.take_pos (lw s) st2 16 (by rw [lw_length]; exact h3.hp)
  have hb4 := Rf.take_bad (lw s) st2 16
  have HP3 := HP2 st2
  generalize hB : Rf.take (lw s) st2 16 = B at *
  obtain ⟨b, st3⟩ := B
  simp only at *
  rintro e w4 (⟨q2, rfl, r4, k4⟩ | ⟨q2, rfl, k4⟩)
  case inr =>
    go_wp2
    have hm := HM q2
    exact ⟨rfl, ends_bad (by rw [HF.out]; exact hm.1) (by rw [HF.out]; exact hm.2) (F3.below.trans (k4.below (by have := h3.lt; omega) (fun k _ h => by omega)))⟩
  case inl =>
  have h4 : Pg w4 s R limit st3 ov := h3.read k4 r4 (by rw [lw_length] at p2; exact p2) o2.1 q2 (o2.2.2.trans h3.nf)
  have F4 := F3.trans (FrP.ofKp (by have := h3.lt; omega) k4)
  have lt3 := lt_of_block HB3.out
  have HB4 : Hid (w4.heap[w.heap.size]? = some (.cells (sinkC R) 154 (0, 0))) := (k4.block _ lt3 (by omega)).trans HB3.out
  have hpos : st3.pos = (st.pos + 7) / 8 * 8 + 32 := by have := (hb4 q2).1; have := hb3.1; omega
  have ho4 : st3.out = st.out := o2.1.trans ho3
  have HP4 := HP3 st3 a b rfl rfl q2
  obtain ⟨c, rfl⟩ : ∃ c : Nat, a = (c : Int) := ⟨a.toNat, by omega⟩
  obtain ⟨d, rfl⟩ : ∃ d : Nat, b = (d : Int) := ⟨b.toNat, by omega⟩
  have hc16 : c < 65536 := by have := g1.2; omega
  have hd16 : d < 65536 := by have := g2.2; omega
  have hx := i64_xor_16 d hd16
  have HP5 : Hid (Rf.plain (lw s) limit st = _) := HP4
  have hnf3 := h4.nf
  have HO4 : Hid (st3.out = st.out) := ho4
  obtain ⟨c0, c1, c2, cz, clt⟩ := tcells HB4.out
  clear HP4 HP3 HP2 HM k4 r4 h3 F3 HB3 o2 p2 hb3 hb4 hA hB g1 g2 ho3 hf3 ho4 lt3
  by_cases hcd : c + d = 65535
  · have e1 : 65535 - d = c := by omega
    rw [e1] at hx
    rw [if_pos (by omega)] at HP5
    go_wp2_with fail
    refine (room55 c s R limit st3 ov _ h4 (by omega)).mono ?_
    rintro e w5 (⟨hr, rfl, hol, m, rfl⟩ | ⟨hr, rfl, m, rfl⟩)
    case inr =>
      go_wp2
      have HE : F = { st3 with full := true } := by rw [HF.out, HP5.out]; simp only [Int.toNat_natCast]; rw [hr]; simp
      exact ⟨rfl, .inr ⟨by rw [HE]; simp, by rw [HE]; rfl, F4.below.trans (below_drewN (Below.refl _ _) _)⟩⟩
    case inl =>
    have HP6 : Hid (F = Rf.plF (lw s) c st3) := by show _ = _; rw [HF.out, HP5.out]; simp only [Int.toNat_natCast]; rw [hr]; simp
    have HOL : Hid (((st3.out.length + c : Nat) : Int) ≤ max limit 0) := hol
    have h5 := h4.drewN m
    have F5 := F4.drewN m
    have HB5 : Hid ((w4.drewN m).heap[w.heap.size]? = some (.cells (sinkC R) 154 (0, 0))) := HB4.out
    clear hr hol HP5 h4 F4 HB4 c0 c1 c2 cz clt hx
    generalize w4.drewN m = w6 at *
    obtain ⟨c0, c1, c2, cz, clt⟩ := tcells HB5.out
    obtain ⟨q, hq⟩ : ∃ q : Nat, st3.pos = 8 * q := ⟨st3.pos / 8, by omega⟩
    have hrd := h5.rd
    rw [hq] at hrd
    have hqs : q ≤ s.size := by have := h5.hp; omega
    by_cases hqc : q + c ≤ s.size
    · go_wp2_with fail
      refine (bytes_yes s R q c _ hrd hs (by omega) hqc).mono ?_
      rintro e w7 ⟨rfl, r7, k7⟩
      have h7 : Pg w7 s R limit { st3 with pos := 8 * (q + c) } ov := h5.read k7 r7 (by show 8 * (q + c) ≤ _; omega) rfl q2 hnf3
      have F7 := F5.trans (FrP.ofKp (by have := h5.lt; omega) k7)
      have HB7 : Hid (w7.heap[w.heap.size]? = some (.cells (sinkC R) 154 (0, 0))) := (k7.block _ clt (by omega)).trans HB5.out
      obtain ⟨T, hT⟩ : ∃ T : ByteArray, T = s.extract q (q + c) := ⟨_, rfl⟩
      have hTs : T.size = c := by rw [hT]; simp; omega
      have hTl : T.data.toList = (s.data.toList.drop q).take c := by
        rw [hT, ByteArray.data_extract, Array.toList_extract]
        simp
      rw [← hT]
      have HE : Hid (F = { st3 with pos := 8 * (q + c), out := st3.out ++ T.data.toList }) := by show _ = _; rw [HP6.out, plF_all s c q st3 hq q2 hqc, hTl]
      clear hT hTl HP6 h5 F5 HB5 k7 r7 hrd c0 c1 c2 cz clt hnb hnf hpos
      go_wp2
      go_loopw [27] (fun v wr => ∃ k : Nat, k ≤ c ∧ v = .int .i64 k ∧ (∃ ov', Pg wr s R limit { st3 with pos := 8 * (q + c), out := st3.out ++ T.data.toList.take k } ov') ∧ FrP R w wr ∧ Hid (wr.heap[w.heap.size]? = some (.cells (sinkC R) 154 (0, 0)))) (fun v _ => c - (intOf v).toNat)
      case atStart => exact ⟨0, Nat.zero_le _, rfl, ⟨ov, by simpa using h7⟩, F7, HB7⟩
      case round =>
        clear h7 F7 HB7
        obtain ⟨k, hk, rfl, ⟨ov8, h8⟩, F8, HB8⟩ := hrel
        obtain ⟨c0, c1, c2, cz, clt⟩ := tcells HB8.out
        by_cases hkc : k < c
        · have hix := idx_at T k (by omega)
          have HLK : Hid ((T.data.toList.take k).length = k) := by show _ = _; rw [List.length_take]; simp; omega
          have HTK : Hid (T.data.toList.take (k + 1) = T.data.toList.take k ++ [T.data.toList.getD k 0]) := by
            have hl : k < T.data.toList.length := by simp; omega
            show _ = _
            rw [List.take_succ_eq_append_getElem hl]; simp [List.getD, List.getElem?_eq_getElem hl]
          have HLEN : Hid ((st3.out ++ T.data.toList.take k).length ≤ 11000000000) := by show _ ≤ _; rw [List.length_append, HLK.out, HO4.out]; have := hout.out; omega
          have HRM : Hid (Rf.room limit { st3 with pos := 8 * (q + c), out := st3.out ++ T.data.toList.take k } 1 = (true, { st3 with pos := 8 * (q + c), out := st3.out ++ T.data.toList.take k })) := room_yes (by show ¬ max limit 0 < (((st3.out ++ T.data.toList.take k).length : Nat) : Int) + ((1 : Nat) : Int); rw [List.length_append, HLK.out]; have := HOL.out; omega)
          obtain ⟨y, hy⟩ : ∃ y : UInt8, y = T.data.toList.getD k 0 := ⟨_, rfl⟩
          rw [← hy] at hix
          have HY : Hid (y = T.data.toList.getD k 0) := hy
          clear hy
          go_wp2
          have hS : wr.drew.cell? ⟨w.heap.size, 1, none⟩ = some (putV R) := c1
          refine regionZ (by kernel_rfl) (fun w' => w'.cell? ⟨w.heap.size, 1, none⟩ = some (putV R)) 6 ?_
          refine anyZ_take (i := 0) (v := ?_) rfl (by kernel_rfl) (by kernel_rfl) (by kernel_rfl) (by kernel_rfl) (fun _ _ _ h => h) (by rfl) ?_ hS ?_
          rotate_left
          · intro w hSw; (try dsimp only at hSw); go_simp; try with_reducible rfl
          try simp only [Act.put]
          refine anyZ_take (i := 1) (v := ?_) rfl (by kernel_rfl) (by kernel_rfl) (by kernel_rfl) (by kernel_rfl) (fun _ _ _ h => h) (by rfl) ?_ hS ?_
          rotate_left
          · intro w hSw; (try dsimp only at hSw); go_simp; try with_reducible rfl
          try simp only [Act.put]
          refine anyZ_take (i := 2) (v := ?_) rfl (by kernel_rfl) (by kernel_rfl) (by kernel_rfl) (by kernel_rfl) (fun _ _ _ h => h) (by rfl) ?_ hS ?_
          rotate_left
          · intro w hSw; (try dsimp only at hSw); go_simp; try with_reducible rfl
          try simp only [Act.put]
          refine anyZ_take (i := 3) (v := ?_) rfl (by kernel_rfl) (by kernel_rfl) (by kernel_rfl) (by kernel_rfl) (fun _ _ _ h => h) (by rfl) ?_ hS ?_
          rotate_left
          · intro w hSw; (try dsimp only at hSw); go_simp; try with_reducible rfl
          try simp only [Act.put]
          refine anyZ_one (i := 4) (by kernel_rfl) rfl (fun K hK => ?_)
          go_simp
          refine hK _ _ (fun _ => hS) ?_
          clear hK K
          refine anyZ_one (i := 5) (by kernel_rfl) rfl (fun K hK => ?_)
          go_simp
          refine (put56 y s R limit _ ov8 _ (h8.drewN 1) HLEN).mono ?_
          rintro e w9 (⟨q9, rfl, ⟨ov9, h9⟩, F9⟩ | ⟨q9, rfl, F9⟩)
          case inr =>
            rw [HRM.out] at q9
            cases q9
          case inl =>
          have HB9 : Hid (w9.heap[w.heap.size]? = some (.cells (sinkC R) 154 (0, 0))) := (F9.other _ clt (by omega) (by omega) (fun c fr => by show wr.heap[w.heap.size]? ≠ _; rw [HB8.out]; simp)).trans HB8.out
          refine hK _ _ (fun _ => (tcells HB9.out).2.1) ?_
          clear hK K
          refine anyZ_done (by kernel_rfl) ?_ _
          clear q9 h8 HB8 c0 c1 c2 cz clt hS hix
          go_wp2
          go_roundw
          case rel =>
            refine ⟨k + 1, by omega, by go_num, ⟨ov9, ?_⟩, F8.trans (((FrP.refl R wr).drewN 1).trans F9), HB9⟩
            rw [HTK.out, ← HY.out, ← List.append_assoc]
            exact h9
          case measure => simp [intOf]; omega
        · have hkc2 : k = c := by omega
          subst hkc2
          go_wp2
          go_end0
          refine .inl ⟨by rw [HE.out]; exact q2, by rw [HE.out]; exact hnf3, rfl, ⟨ov8, ?_⟩, F8⟩
          rw [HE.out]
          have e : T.data.toList.take k = T.data.toList := List.take_of_length_le (by simp; omega)
          rw [e] at h8
          exact h8
    · go_wp2_with fail
      refine (bytes_no s R q c _ hrd hs hqs (by omega) (by omega)).mono ?_
      rintro e w7 ⟨rfl, rfl⟩
      go_wp2
      have hm := plF_short s c q st3 hq hqs (by omega)
      exact ⟨rfl, ends_bad (by rw [HP6.out]; exact hm.1) (by rw [HP6.out, hm.2]; exact hnf3) F5.below⟩
  · have hne : ¬ (c : Int) = ((65535 - d : Nat) : Int) := by omega
    rw [if_neg (by omega)] at HP5
    go_wp2
    have HE : F = { st3 with bad := true } := by rw [HF.out, HP5.out]
    exact ⟨rfl, ends_bad (by rw [HE]) (by rw [HE]; exact hnf3) F4.below⟩

end Go.Proofs.YtmfijackgekioaaGreatDoor
