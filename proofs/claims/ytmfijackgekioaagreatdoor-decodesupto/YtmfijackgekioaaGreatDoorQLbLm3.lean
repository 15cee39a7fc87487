import Derived.Test.YtmfijackgekioaaGreatDoorQLa
import Derived.Test.YtmfijackgekioaaGreatDoorQRd
import Derived.Test.YtmfijackgekioaaGreatDoorQSbSl2
import Derived.BigQuiet

/-
  The first chunk of some bytes: the program. For Decodes.
-/
namespace Go.Proofs.YtmfijackgekioaaGreatDoor
open Go.RowKit

def capB (c : Nat) : Bool := decide (65 ≤ c) && decide (c ≤ 90)
set_option maxHeartbeats 400000 in
theorem capitalP (c : Nat) (w : World) :
    Calls Tryz.prog 201 #[.int .u8 c] w fun e w' => e = .returned (.bool (capB c)) ∧ w' = w := by
  by_cases h1 : 65 ≤ c
  · have h1i : (65 : Int) ≤ (c : Int) := by omega
    have HC : Hid (capB c = decide ((c : Int) ≤ 90)) := by show _ = _; unfold capB; rw [Bool.eq_iff_iff]; simp; omega
    go_enter Tryz.func201, Tryz.ntmps201
    go_wp2
    all_goals go_ret
    all_goals refine ⟨ret_bool ?_, rfl⟩
    all_goals (rw [HC.out]; try (first | rfl | (simp; omega) | simp))
  · have h1i : ¬ (65 : Int) ≤ (c : Int) := by omega
    have HC : Hid (capB c = false) := by show _ = _; unfold capB; simp; omega
    go_enter Tryz.func201, Tryz.ntmps201
    go_wp2
    all_goals go_ret
    all_goals exact ⟨ret_bool (by rw [HC.out]), rfl⟩

/-- The first k bytes are letters. -/
def allL (s : ByteArray) : Nat → Bool
  | 0 => true
  | k + 1 => allL s k && letterN (byteAt s k)
theorem allL_no {s : ByteArray} {k : Nat} (h : letterN (byteAt s k) = false) : ∀ m, k < m → allL s m = false
  | 0, hm => absurd hm (by omega)
  | m + 1, hm => by
    by_cases e : k = m
    · subst e
      rw [allL, h, Bool.and_false]
    · rw [allL, allL_no h m (by omega), Bool.false_and]
set_option maxRecDepth 100000 in
set_option maxHeartbeats 1000000 in
theorem allLettersP (s : ByteArray) (w : World) (hs : s.size ≤ 1000000000) :
    Calls Tryz.prog 200 #[.string s] w fun e w' => e = .returned (.bool (allL s s.size)) ∧ w' = w := by
  go_enter Tryz.func200, Tryz.ntmps200
  go_wp2
  go_loop [7] (fun i => ∃ k : Nat, k ≤ s.size ∧ i = .int .i64 k ∧ Hid (allL s k = true)) (fun i => s.size - (intOf i).toNat)
  case atStart => exact ⟨0, Nat.zero_le _, rfl, rfl⟩
  case round =>
    obtain ⟨k, hk, rfl, HK⟩ := hrel
    by_cases hlt : k < s.size
    · have hb := byteAt_eq s k hlt
      have hb2 := byteAt_lt s k
      have hlti : (k : Int) < (s.size : Int) := by omega
      have HN : Hid (letterN (byteAt s k) = false → allL s s.size = false) := fun h => allL_no h _ hlt
      have HY : Hid (letterN (byteAt s k) = true → allL s (k + 1) = true) := fun h => by rw [allL, HK.out, h]; rfl
      have hcap := fun v => capitalP (byteAt s k) v
      have HL : Hid (letterN (byteAt s k) = ((decide (97 ≤ byteAt s k) && decide (byteAt s k ≤ 122)) || capB (byteAt s k))) := by
        show _ = _
        unfold letterN capB
        rw [Bool.or_comm]
      generalize byteAt s k = c at *
      by_cases hsm : 97 ≤ c ∧ c ≤ 122
      · have q1 : (97 : Int) ≤ (c : Int) := by omega
        have q2 : (c : Int) ≤ 122 := by omega
        have hl : letterN c = true := by rw [HL.out]; simp [hsm.1, hsm.2]
        have HY2 : Hid (allL s (k + 1) = true) := HY.out hl
        clear hl HN HY HL
        go_wp2
        go_round
        case rel => exact ⟨k + 1, by omega, by go_num, HY2⟩
        case measure => simp [intOf]; omega
      · have hd : (decide (97 ≤ c) && decide (c ≤ 122)) = false := by
          rw [Bool.eq_false_iff]; intro h; simp at h; exact hsm h
        have hl : letterN c = capB c := by rw [HL.out, hd, Bool.false_or]
        rw [hl] at HN HY
        have hor : ¬ (97 : Int) ≤ (c : Int) ∨ ((97 : Int) ≤ (c : Int) ∧ ¬ (c : Int) ≤ 122) := by omega
        clear HL hd hl hsm
        generalize capB c = cb at *
        cases cb
        · have HN2 : Hid (allL s s.size = false) := HN.out rfl
          clear HN HY
          rcases hor with q1 | ⟨q1, q2⟩
          all_goals
            go_wp2_with (go_at_call 201; refine (hcap _).mono ?_; rintro e w' ⟨rfl, rfl⟩)
            go_ret
            exact ⟨ret_bool (by rw [HN2.out]), rfl⟩
        · have HY2 : Hid (allL s (k + 1) = true) := HY.out rfl
          clear HN HY
          rcases hor with q1 | ⟨q1, q2⟩
          all_goals
            go_wp2_with (go_at_call 201; refine (hcap _).mono ?_; rintro e w' ⟨rfl, rfl⟩)
            go_round
            case rel => exact ⟨k + 1, by omega, by go_num, HY2⟩
            case measure => simp [intOf]; omega
    · have hlti : ¬ (k : Int) < (s.size : Int) := by omega
      have e : k = s.size := by omega
      go_wp2
      go_ret
      exact ⟨ret_bool (by rw [← e, HK.out]), rfl⟩

theorem byteAt_extract (b : ByteArray) (i j k : Nat) (h1 : i + k < j) (_h2 : j ≤ b.size) : byteAt (b.extract i j) k = byteAt b (i + k) := by
  unfold byteAt
  rw [ByteArray.data_extract, Array.toList_extract, List.extract_eq_take_drop]
  simp only [List.getD_eq_getElem?_getD]
  rw [List.getElem?_take, if_pos (by omega), List.getElem?_drop]
theorem fourAt_extract (b : ByteArray) (i j k : Nat) (h1 : i + k + 3 < j) (h2 : j ≤ b.size) : fourAt (b.extract i j) k = fourAt b (i + k) := by
  unfold fourAt
  rw [byteAt_extract b i j k (by omega) h2, byteAt_extract b i j (k + 1) (by omega) h2, byteAt_extract b i j (k + 2) (by omega) h2, byteAt_extract b i j (k + 3) (by omega) h2]
  rfl
theorem fromF_four_at (b : ByteArray) : fromF b.data.toList = fourAt b 0 := by unfold fromF fourAt byteAt; simp
theorem letters_extract (b : ByteArray) (h : 8 ≤ b.size) : allL (b.extract 4 8) (b.extract 4 8).size = lettersB b 4 := by
  have e : (b.extract 4 8).size = 4 := by rw [ByteArray.size_extract]; omega
  rw [e]
  simp only [allL, lettersB, Bool.true_and]
  rw [byteAt_extract b 4 8 0 (by omega) h, byteAt_extract b 4 8 1 (by omega) h, byteAt_extract b 4 8 2 (by omega) h, byteAt_extract b 4 8 3 (by omega) h]
  simp only [Bool.and_assoc]

/-- What the first chunk comes to. -/
def EndsC (b : ByteArray) (w : World) (e : Ending) (w' : World) : Prop :=
  ((chOk b = true ∧ e = .returned (.agg #[.string (chOf b).name, .string (chOf b).data])) ∨ (chOk b = false ∧ e = dies 11)) ∧ Below w.heap.size w w'

theorem ext_ext (b : ByteArray) (i j k l : Nat) (h : i + l ≤ j) : (b.extract i j).extract k l = b.extract (i + k) (i + l) := by
  rw [ByteArray.extract_extract]
  congr 1
  omega
set_option maxRecDepth 100000 in
set_option maxHeartbeats 4000000 in
theorem firstP (b : ByteArray) (w : World) (hs : b.size ≤ 1000000000) :
    Calls Tryz.prog 171 #[.string b] w fun e w' => EndsC b w e w' := by
  unfold EndsC
  by_cases h12 : b.size < 12
  · have HE : Hid (chOk b = false) := by show _ = _; unfold chOk; rw [show decide (12 ≤ b.size) = false from decide_eq_false (by omega), Bool.false_and]
    have h12i : (b.size : Int) - 4 - 4 - 4 < 0 := by omega
    go_enter Tryz.func171, Tryz.ntmps171
    go_wp2
    exact ⟨rfl, .inr ⟨HE.out, rfl⟩, below_alloc _ _⟩
  · have h12i : ¬ (b.size : Int) - 4 - 4 - 4 < 0 := by omega
    have hff := fun v => fromFourP b v (by omega)
    rw [fromF_four_at, chLen_eq] at hff
    have HOK : Hid (chOk b = (decide (chLen b ≤ 2147483647) && (decide (chLen b + 12 ≤ b.size) && (lettersB b 4 && decide (fourAt b (8 + chLen b) = crcI (b.extract 4 (8 + chLen b))))))) := by
      show _ = _
      unfold chOk
      rw [show decide (12 ≤ b.size) = true from decide_eq_true (by omega), Bool.true_and]
    have hch : chOf b = ⟨b.extract 4 8, b.extract 8 (8 + chLen b)⟩ := rfl
    have hn2 : chLen b < 4294967296 := by have := fourAt_range b 0; have := chLen_eq b; omega
    rw [hch]
    generalize chLen b = n at *
    by_cases hbig : n ≤ 2147483647 ∧ n + 12 ≤ b.size
    · obtain ⟨hb1, hb2⟩ := hbig
      have hal := fun v => allLettersP (b.extract 4 8) v (by rw [ByteArray.size_extract]; omega)
      rw [letters_extract b (by omega)] at hal
      have hfr := fun v => fromFourP (b.extract (8 + n) b.size) v (by rw [ByteArray.size_extract]; omega)
      rw [fromF_four_at, fourAt_extract b (8 + n) b.size 0 (by omega) (Nat.le_refl _), Nat.add_zero] at hfr
      have hcr := fun v => crc8 (b.extract 4 (8 + n)) v (by rw [ByteArray.size_extract]; unfold maxLen; omega)
      have hK : (b.extract 4 (8 + n)).size = n + 4 := by rw [ByteArray.size_extract]; omega
      have hx1 : (b.extract 4 (8 + n)).extract 0 4 = b.extract 4 8 := ext_ext b 4 (8 + n) 0 4 (by omega)
      have hx2 : (b.extract 4 (8 + n)).extract 4 (n + 4) = b.extract 8 (8 + n) := by
        rw [ext_ext b 4 (8 + n) 4 (n + 4) (by omega)]
        congr 1
        omega
      have HOK2 : Hid (chOk b = (lettersB b 4 && decide (fourAt b (8 + n) = 4294967295 - (Mx.crcR (b.extract 4 (8 + n)).data.toList : Int)))) := by
        show _ = _
        rw [HOK.out, decide_eq_true hb1, decide_eq_true hb2, Bool.true_and, Bool.true_and]
        rfl
      have n1 : ¬ (n : Int) > 2147483647 := by omega
      have n2 : ¬ (n : Int) > (b.size : Int) - 4 - 4 - 4 := by omega
      have s1 : IntKind.i64.wrap (8 + (n : Int)) = ((8 + n : Nat) : Int) := (IntWalk.i64_in _ (by omega)).trans (by omega)
      have s2 : ((8 + n : Nat) : Int) ≤ (b.size : Int) := by omega
      have s3 : (4 : Int) ≤ ((8 + n : Nat) : Int) := by omega
      have HB : Hid (b.size ≤ 1000000000 ∧ n ≤ 2147483647 ∧ n + 12 ≤ b.size) := ⟨hs, hb1, hb2⟩
      obtain ⟨rm, hrm⟩ : ∃ rm, (b.size : Int) - 4 - 4 - 4 = rm := ⟨_, rfl⟩
      have r1 : IntKind.i64.wrap ((b.size : Int) - 4) = (b.size : Int) - 4 := IntWalk.i64_in _ (by omega)
      have r2 : IntKind.i64.wrap ((b.size : Int) - 4 - 4) = (b.size : Int) - 4 - 4 := IntWalk.i64_in _ (by omega)
      have r3 : IntKind.i64.wrap ((b.size : Int) - 4 - 4 - 4) = rm := (IntWalk.i64_in _ (by omega)).trans hrm
      rw [hrm] at h12i n2
      have d1 : decide ((2147483647 : Int) < (n : Int)) = false := decide_eq_false n1
      have d2 : decide (rm < (n : Int)) = false := decide_eq_false n2
      have d3 : decide (rm < 0) = false := decide_eq_false h12i
      clear HOK hch hs hb1 hb2 hn2 h12 hrm n1 n2 h12i
      generalize (4294967295 - (Mx.crcR (b.extract 4 (8 + n)).data.toList : Int)) = CR at *
      generalize fourAt b (8 + n) = FR at *
      generalize lettersB b 4 = LB at *
      generalize hCO : chOk b = CO at *
      generalize hKE : b.extract 4 (8 + n) = KK at *
      generalize hR : b.extract (8 + n) b.size = RS at *
      generalize b.extract 4 8 = NM at *
      generalize b.extract 8 (8 + n) = DT at *
      go_enter Tryz.func171, Tryz.ntmps171
      go_wp2_with fail
      refine (hff _).mono ?_
      rintro e w1 ⟨rfl, m1, rfl⟩
      go_wp2_with fail
      go_quiet (fail)
      rw [hKE, hR]
      have HRB : (((w.alloc (.cells #[.string ⟨#[]⟩, .string ⟨#[]⟩] 94)).drewN m1).drewN nq).heap[w.heap.size]? = some (.cells #[.string ⟨#[]⟩, .string ⟨#[]⟩] 94 (0, 0)) := blk_new w _
      have B1 : Below w.heap.size w (((w.alloc (.cells #[.string ⟨#[]⟩, .string ⟨#[]⟩] 94)).drewN m1).drewN nq) := below_drewN (below_drewN (below_alloc w _) m1) nq
      generalize (((w.alloc (.cells #[.string ⟨#[]⟩, .string ⟨#[]⟩] 94)).drewN m1).drewN nq) = u at *
      have hS : True := trivial
      clear hff s1 s2 s3 r1 r2 r3 d1 d2 d3
      go_wp2_with fail
      refine regionZ (by kernel_rfl) (fun _ => True) 999 ?_
      have B2 := B1.drew
      have HR2 : u.drew.heap[w.heap.size]? = some (.cells #[.string ⟨#[]⟩, .string ⟨#[]⟩] 94 (0, 0)) := HRB
      clear B1 HRB
      generalize u.drew = v at *
      have hK4 : (4 : Int) ≤ (KK.size : Int) := by omega
      refine anyZ_take (i := 0) (v := ?_) rfl (by kernel_rfl) (by kernel_rfl) (by kernel_rfl) (by kernel_rfl) (fun _ _ _ h => h) (by kernel_rfl) ?_ hS ?_
      rotate_left
      · intro w hSw; (try dsimp only at hSw); go_simp; try with_reducible rfl
      try simp only [Act.put]
      refine anyZ_take (i := 1) (v := .string NM) rfl (by kernel_rfl) (by kernel_rfl) (by kernel_rfl) (by kernel_rfl) (fun _ _ _ h => h) (by kernel_rfl) ?_ hS ?_
      · intro w hSw; (try dsimp only at hSw); go_simp; try (intro h9; exact absurd h9 (by omega))
      simp only [Act.put]
      refine anyZ_take (i := 2) (v := ?_) rfl (by kernel_rfl) (by kernel_rfl) (by kernel_rfl) (by kernel_rfl) (fun _ _ _ h => h) (by kernel_rfl) ?_ hS ?_
      rotate_left
      · intro w hSw; (try dsimp only at hSw); go_simp; try with_reducible rfl
      try simp only [Act.put]
      refine anyZ_take (i := 3) (v := .string DT) rfl (by kernel_rfl) (by kernel_rfl) (by kernel_rfl) (by kernel_rfl) (fun _ _ _ h => h) (by kernel_rfl) ?_ hS ?_
      · intro w hSw; (try dsimp only at hSw); go_simp; try (intro h9; exact absurd h9 (by omega))
      simp only [Act.put]
      refine anyZ_take (i := 4) (v := ?_) rfl (by kernel_rfl) (by kernel_rfl) (by kernel_rfl) (by kernel_rfl) (fun _ _ _ h => h) (by kernel_rfl) ?_ hS ?_
      rotate_left
      · intro w hSw; (try dsimp only at hSw); go_simp; try with_reducible rfl
      try simp only [Act.put]
      refine anyZ_one (i := 5) (by kernel_rfl) rfl (fun K hK => ?_)
      go_simp
      refine hK _ _ (fun _ => trivial) ?_
      clear hK K
      refine anyZ_one (i := 6) (by kernel_rfl) rfl (fun K hK => ?_)
      go_simp
      refine hK _ _ (fun _ => trivial) ?_
      clear hK K
      refine anyZ_done (by kernel_rfl) ?_ _
      have hC := blk_new v (.cells #[.string NM, .string DT] 94)
      have HR3 := (Below.heap_alloc v (.cells #[.string NM, .string DT] 94) w.heap.size (lt_of_block HR2)).trans HR2
      have B3 : Below w.heap.size w (v.alloc (.cells #[.string NM, .string DT] 94)) := B2.trans ((below_alloc v _).mono B2.size)
      obtain ⟨C, hCe⟩ : ∃ C, v.heap.size = C := ⟨_, rfl⟩
      have hne : w.heap.size ≠ C := by have := lt_of_block HR2; omega
      rw [hCe] at hC ⊢
      clear B2 HR2 hCe hx1 hx2 hK hK4 hKE hR
      generalize v.alloc (.cells #[.string NM, .string DT] 94) = v2 at *
      obtain ⟨c0, c1, cf, cl⟩ := cells2 hC
      cases LB
      · have HF : Hid (CO = false) := by show _ = _; rw [HOK2.out]; rfl
        go_wp2_with fail
        refine (hal _).mono ?_
        rintro e w' ⟨rfl, rfl⟩
        go_wp2
        exact ⟨rfl, .inr ⟨HF.out, rfl⟩, B3⟩
      · go_wp2_with fail
        refine (hal _).mono ?_
        rintro e w' ⟨rfl, rfl⟩
        go_wp2_with fail
        refine (hfr _).mono ?_
        rintro e w' ⟨rfl, m2, rfl⟩
        have B4 : Below w.heap.size w (w'.drewN m2) := below_drewN B3 m2
        have hC4 : (w'.drewN m2).heap[C]? = some (.cells #[.string NM, .string DT] 94 (0, 0)) := hC
        have HR4 : (w'.drewN m2).heap[w.heap.size]? = some (.cells #[.string ⟨#[]⟩, .string ⟨#[]⟩] 94 (0, 0)) := HR3
        clear c0 c1 cf cl hC HR3 B3
        generalize w'.drewN m2 = v3 at *
        go_wp2_with fail
        refine (hcr _).mono ?_
        rintro e w'' ⟨rfl, rfl⟩
        by_cases hq : FR = CR
        · have hqb : (FR != CR) = false := by rw [bne_eq_false_iff_eq]; exact hq
          have HF : Hid (CO = true) := by show _ = _; rw [HOK2.out, decide_eq_true hq]; rfl
          obtain ⟨c0, c1, cf, cl⟩ := cells2 hC4
          obtain ⟨x0, x1, xf, xl⟩ := cells2 HR4
          have hset := set2_row HR4 (.string NM) (.string DT)
          obtain ⟨y0, y1, _, _⟩ := cells2 hset
          clear hC4 HR4 hset hq
          go_wp2
          refine bodyPost_ret (v := .agg #[.string NM, .string DT]) (by simp [results, Tryz.results171, go_sem, y0, y1]) rfl ⟨.inl ⟨HF.out, rfl⟩, (B4.setCell (p := ⟨w.heap.size, 0, none⟩) (Nat.le_refl _) _).setCell (p := ⟨w.heap.size, 1, none⟩) (Nat.le_refl _) _⟩
        · have hqb : (FR != CR) = true := by rw [bne_iff_ne]; exact hq
          have HF : Hid (CO = false) := by show _ = _; rw [HOK2.out, decide_eq_false hq]; rfl
          clear hq
          go_wp2
          exact ⟨rfl, .inr ⟨HF.out, rfl⟩, B4⟩
    · have HF : Hid (chOk b = false) := by
        show _ = _
        rw [HOK.out]
        by_cases q : n ≤ 2147483647
        · rw [decide_eq_false (show ¬ n + 12 ≤ b.size from fun h => hbig ⟨q, h⟩), Bool.false_and, Bool.and_false]
        · rw [decide_eq_false q, Bool.false_and]
      obtain ⟨rm, hrm⟩ : ∃ rm, (b.size : Int) - 4 - 4 - 4 = rm := ⟨_, rfl⟩
      have r1 : IntKind.i64.wrap ((b.size : Int) - 4) = (b.size : Int) - 4 := IntWalk.i64_in _ (by omega)
      have r2 : IntKind.i64.wrap ((b.size : Int) - 4 - 4) = (b.size : Int) - 4 - 4 := IntWalk.i64_in _ (by omega)
      have r3 : IntKind.i64.wrap ((b.size : Int) - 4 - 4 - 4) = rm := (IntWalk.i64_in _ (by omega)).trans hrm
      have d3 : decide (rm < 0) = false := decide_eq_false (by omega)
      have hor : (decide ((2147483647 : Int) < (n : Int)) = true) ∨ (decide ((2147483647 : Int) < (n : Int)) = false ∧ decide (rm < (n : Int)) = true) := by
        by_cases q : (2147483647 : Int) < (n : Int)
        · exact .inl (decide_eq_true q)
        · exact .inr ⟨decide_eq_false q, decide_eq_true (by omega)⟩
      clear hs hn2 h12 h12i hrm hbig HOK hch
      rcases hor with d1 | ⟨d1, d2⟩
      all_goals
        go_enter Tryz.func171, Tryz.ntmps171
        go_wp2_with fail
        refine (hff _).mono ?_
        rintro e w1 ⟨rfl, m1, rfl⟩
        go_wp2
        exact ⟨rfl, .inr ⟨HF.out, rfl⟩, below_drewN (below_alloc w _) m1⟩
end Go.Proofs.YtmfijackgekioaaGreatDoor

/-
  The order of chunks: plain. For Decodes.
-/
namespace Go.Proofs.YtmfijackgekioaaGreatDoor

abbrev nIHDR : List UInt8 := [73, 72, 68, 82]
abbrev nPLTE : List UInt8 := [80, 76, 84, 69]
abbrev nIDAT : List UInt8 := [73, 68, 65, 84]
abbrev nIEND : List UInt8 := [73, 69, 78, 68]
def isN (s : ByteArray) (l : List UInt8) : Bool := s.toList == l
theorem isN_eq {s : ByteArray} {l : List UInt8} (h : isN s l = true) : s.data.toList = l := by
  unfold isN at h
  rw [ByteArray.toList_eq] at h
  exact eq_of_beq h
theorem isN_other {s : ByteArray} {l m : List UInt8} (h : isN s l = true) (hne : l ≠ m) : isN s m = false := by
  rw [Bool.eq_false_iff]
  intro hm
  exact hne ((isN_eq h).symm.trans (isN_eq hm))
/-- The chunks between the first and the last, one behind another: the data, the palette. -/
def ordF : ByteArray → List ByteArray → Option ByteArray → List Ch → Option (List ByteArray × Option ByteArray)
  | _, d, p, [] => some (d, p)
  | a, d, p, c :: r =>
    if (isN c.name nIDAT && (d.isEmpty || isN a nIDAT)) = true then ordF c.name (d ++ [c.data]) p r
    else if (isN c.name nPLTE && d.isEmpty && p.isNone) = true then ordF c.name d (some c.data) r
    else if capB (byteAt c.name 0) = true then none
    else ordF c.name d p r
def catB : List ByteArray → ByteArray
  | [] => ⟨#[]⟩
  | x :: r => x ++ catB r
/-- What a picture's chunks hold. -/
structure Parts where
  head : ByteArray
  pal : Option ByteArray
  data : ByteArray
def lastC (L : List Ch) : Ch := L.getD (L.length - 1) ⟨⟨#[]⟩, ⟨#[]⟩⟩
def firstC (L : List Ch) : Ch := L.getD 0 ⟨⟨#[]⟩, ⟨#[]⟩⟩
def midC (L : List Ch) : List Ch := (L.take (L.length - 1)).drop 1
def endsOk (L : List Ch) : Bool := decide (2 ≤ L.length) && (isN (firstC L).name nIHDR && (isN (lastC L).name nIEND && (lastC L).data.toList.isEmpty))
def ordOf (L : List Ch) : Option Parts :=
  if endsOk L = true then
    match ordF (firstC L).name [] none (midC L) with
    | some (d, p) => if d.isEmpty = true then none else some ⟨(firstC L).data, p, catB d⟩
    | none => none
  else none

/-- By the document's counting. -/
def roF : Nat → Nat → Int → Int → Nat → List Ch → Bool
  | _, p, f, l, d, [] => decide (p ≤ 1) && (decide (0 < d) && decide (l - f + 1 = (d : Int)))
  | i, p, f, l, d, c :: r =>
    if isN c.name nPLTE = true then (if 0 ≤ f then false else roF (i + 1) (p + 1) f l d r)
    else if isN c.name nIDAT = true then roF (i + 1) p (if f < 0 then (i : Int) else f) (i : Int) (d + 1) r
    else if byteAt c.name 0 ≤ 90 then false
    else roF (i + 1) p f l d r
def roOf (L : List Ch) : Bool := endsOk L && roF 1 0 (-1) (-1) 0 (midC L)
/-- What can no more be right. -/
theorem roF_doom : ∀ (r : List Ch) (i p : Nat) (f l : Int) (d : Nat), (2 ≤ p ∨ (0 ≤ f ∧ l ≤ (i : Int) - 1 ∧ (d : Int) < l - f + 1 ∧ 0 < d)) → roF i p f l d r = false
  | [], i, p, f, l, d, h => by
    rw [roF]
    rcases h with h | h
    · rw [decide_eq_false (by omega), Bool.false_and]
    · rw [decide_eq_false (show ¬ l - f + 1 = (d : Int) by omega), Bool.and_false, Bool.and_false]
  | c :: r, i, p, f, l, d, h => by
    rw [roF]
    split
    · split
      · rfl
      · refine roF_doom r _ _ _ _ _ ?_
        rcases h with h | h
        · exact .inl (by omega)
        · exact .inr ⟨h.1, by omega, h.2.2⟩
    · split
      · refine roF_doom r _ _ _ _ _ ?_
        rcases h with h | h
        · exact .inl h
        · right
          rw [if_neg (by omega)]
          omega
      · split
        · rfl
        · refine roF_doom r _ _ _ _ _ ?_
          rcases h with h | h
          · exact .inl h
          · exact .inr ⟨h.1, by omega, h.2.2⟩
def palN : Option ByteArray → Nat | none => 0 | some _ => 1
/-- The two ways agree. -/
theorem ord_same : ∀ (r : List Ch) (a : ByteArray) (d : List ByteArray) (p : Option ByteArray) (i : Nat) (f l : Int), (∀ c ∈ r, letterN (byteAt c.name 0) = true) →
    (d = [] → f = -1 ∧ l = -1) → (d ≠ [] → 0 ≤ f ∧ l ≤ (i : Int) - 1 ∧ l - f + 1 = (d.length : Int) ∧ (isN a nIDAT = true ↔ l = (i : Int) - 1)) →
    roF i (palN p) f l d.length r = (match ordF a d p r with | some (d', _) => !d'.isEmpty | none => false)
  | [], a, d, p, i, f, l, _, h0, h1 => by
    rw [roF, ordF]
    simp only
    cases d with
    | nil =>
      obtain ⟨rfl, rfl⟩ := h0 rfl
      simp
    | cons x y =>
      obtain ⟨a1, a2, a3, _⟩ := h1 (by simp)
      rw [decide_eq_true a3, decide_eq_true (show 0 < (x :: y).length by simp), decide_eq_true (show palN p ≤ 1 by cases p <;> simp [palN])]
      rfl
  | c :: r, a, d, p, i, f, l, hl, h0, h1 => by
    have hlr : ∀ c ∈ r, letterN (byteAt c.name 0) = true := fun x hx => hl x (List.mem_cons_of_mem _ hx)
    have hlc := hl c (List.mem_cons_self)
    rw [roF, ordF]
    by_cases hI : isN c.name nIDAT = true
    · have hP : isN c.name nPLTE = false := isN_other hI (by decide)
      have hcap : capB (byteAt c.name 0) = true := by
        have := isN_eq hI
        unfold byteAt
        rw [this]
        rfl
      rw [if_neg (by rw [hP]; decide), if_pos hI]
      by_cases hgo : (d.isEmpty || isN a nIDAT) = true
      · rw [if_pos (show (isN c.name nIDAT && (d.isEmpty || isN a nIDAT)) = true by rw [hI, hgo]; rfl)]
        have := ord_same r c.name (d ++ [c.data]) p (i + 1) (if f < 0 then (i : Int) else f) (i : Int) hlr (fun e => absurd e (by simp)) (fun _ => by
          rw [List.length_append, List.length_singleton]
          cases d with
          | nil =>
            obtain ⟨rfl, rfl⟩ := h0 rfl
            rw [if_pos (by decide)]
            refine ⟨by omega, by omega, by simp, ?_⟩
            rw [hI]
            simp
          | cons x y =>
            obtain ⟨a1, a2, a3, a4⟩ := h1 (by simp)
            have : isN a nIDAT = true := by simpa using hgo
            have := a4.1 this
            rw [if_neg (by omega)]
            refine ⟨a1, by omega, by omega, ?_⟩
            rw [hI]
            simp)
        rw [List.length_append, List.length_singleton] at this
        exact this
      · have hgo' : (d.isEmpty || isN a nIDAT) = false := by simpa using hgo
        rw [if_neg (show ¬ (isN c.name nIDAT && (d.isEmpty || isN a nIDAT)) = true by rw [hgo', Bool.and_false]; decide), if_neg (show ¬ (isN c.name nPLTE && d.isEmpty && p.isNone) = true by rw [hP]; simp), if_pos hcap]
        simp only
        have hd : d ≠ [] := fun e => by subst e; simp at hgo'
        obtain ⟨a1, a2, a3, a4⟩ := h1 hd
        have hna : ¬ l = (i : Int) - 1 := fun e => by
          have := a4.2 e
          rw [this, Bool.or_true] at hgo'
          cases hgo'
        refine roF_doom r _ _ _ _ _ (.inr ?_)
        rw [if_neg (by omega)]
        have : 0 < d.length := List.length_pos_iff.2 hd
        omega
    · have hI' : isN c.name nIDAT = false := by simpa using hI
      rw [if_neg (show ¬ (isN c.name nIDAT && (d.isEmpty || isN a nIDAT)) = true by rw [hI', Bool.false_and]; decide)]
      by_cases hP : isN c.name nPLTE = true
      · have hcap : capB (byteAt c.name 0) = true := by
          have := isN_eq hP
          unfold byteAt
          rw [this]
          rfl
        rw [if_pos hP, hP, Bool.true_and]
        cases d with
        | nil =>
          obtain ⟨rfl, rfl⟩ := h0 rfl
          rw [if_neg (by decide)]
          cases p with
          | none =>
            rw [if_pos (by rfl)]
            exact ord_same r c.name [] (some c.data) (i + 1) (-1) (-1) hlr (fun _ => ⟨rfl, rfl⟩) (fun e => absurd rfl e)
          | some q =>
            rw [if_neg (by simp), if_pos hcap]
            simp only
            exact roF_doom r _ _ _ _ _ (.inl (by show 2 ≤ 1 + 1; omega))
        | cons x y =>
          obtain ⟨a1, _⟩ := h1 (by simp)
          rw [if_pos a1, if_neg (by simp), if_pos hcap]
      · have hP' : isN c.name nPLTE = false := by simpa using hP
        rw [if_neg hP, if_neg hI, if_neg (show ¬ (isN c.name nPLTE && d.isEmpty && p.isNone) = true by rw [hP', Bool.false_and, Bool.false_and]; decide)]
        have hcb : capB (byteAt c.name 0) = decide (byteAt c.name 0 ≤ 90) := by
          unfold letterN at hlc
          unfold capB
          rw [Bool.eq_iff_iff]
          simp at hlc ⊢
          omega
        by_cases hc : byteAt c.name 0 ≤ 90
        · rw [if_pos hc, if_pos (by rw [hcb]; exact decide_eq_true hc)]
        · rw [if_neg hc, if_neg (by rw [hcb, decide_eq_false hc]; decide)]
          refine ord_same r c.name d p (i + 1) f l hlr h0 (fun hd => ?_)
          obtain ⟨a1, a2, a3, a4⟩ := h1 hd
          refine ⟨a1, by omega, a3, ?_⟩
          rw [hI']
          simp
          omega
theorem ro_same (L : List Ch) (hl : ∀ c ∈ L, letterN (byteAt c.name 0) = true) : roOf L = (ordOf L).isSome := by
  unfold roOf ordOf
  cases he : endsOk L with
  | false => simp
  | true =>
    have := ord_same (midC L) (firstC L).name [] none 1 (-1) (-1) (fun c hc => hl c (List.mem_of_mem_take (List.mem_of_mem_drop hc))) (fun _ => ⟨rfl, rfl⟩) (fun e => absurd rfl e)
    have this : roF 1 0 (-1) (-1) 0 (midC L) = _ := this
    rw [Bool.true_and, this, if_pos rfl]
    cases ordF (firstC L).name [] none (midC L) with
    | none => rfl
    | some x =>
      obtain ⟨d, p⟩ := x
      simp only
      cases d <;> rfl
end Go.Proofs.YtmfijackgekioaaGreatDoor

/-
  The bytes of all chunks of a name: plain. For Decodes.
-/
namespace Go.Proofs.YtmfijackgekioaaGreatDoor

def joinS (nm : List UInt8) (L : List Ch) : ByteArray := L.foldl (fun s c => if isN c.name nm = true then s ++ c.data else s) ⟨#[]⟩
def joinN (nm : List UInt8) (L : List Ch) : Nat := L.foldl (fun n c => if isN c.name nm = true then n + 1 else n) 0
theorem joinS_snoc (nm : List UInt8) (L : List Ch) (c : Ch) : joinS nm (L ++ [c]) = if isN c.name nm = true then joinS nm L ++ c.data else joinS nm L := by
  unfold joinS
  rw [List.foldl_append]
  rfl
theorem joinN_snoc (nm : List UInt8) (L : List Ch) (c : Ch) : joinN nm (L ++ [c]) = if isN c.name nm = true then joinN nm L + 1 else joinN nm L := by
  unfold joinN
  rw [List.foldl_append]
  rfl
theorem cat_empty (b : ByteArray) : (⟨#[]⟩ : ByteArray) ++ b = b := ByteArray.ext (by simp [ByteArray.data_append])
theorem cat_empty' (b : ByteArray) : b ++ (⟨#[]⟩ : ByteArray) = b := ByteArray.ext (by simp [ByteArray.data_append])
theorem cat_assoc (a b c : ByteArray) : a ++ b ++ c = a ++ (b ++ c) := ByteArray.ext (by simp [ByteArray.data_append])
theorem joinS_from (nm : List UInt8) : ∀ (L : List Ch) (s : ByteArray), L.foldl (fun s c => if isN c.name nm = true then s ++ c.data else s) s = s ++ joinS nm L
  | [], s => (cat_empty' s).symm
  | c :: r, s => by
    have e : joinS nm (c :: r) = (if isN c.name nm = true then (⟨#[]⟩ : ByteArray) ++ c.data else ⟨#[]⟩) ++ joinS nm r := by
      show List.foldl _ _ (c :: r) = _
      rw [List.foldl_cons, joinS_from nm r]
    rw [List.foldl_cons, joinS_from nm r, e]
    split
    · rw [cat_empty, cat_assoc]
    · rw [cat_empty]
theorem joinN_from (nm : List UInt8) : ∀ (L : List Ch) (n : Nat), L.foldl (fun n c => if isN c.name nm = true then n + 1 else n) n = n + joinN nm L
  | [], n => rfl
  | c :: r, n => by
    have e : joinN nm (c :: r) = (if isN c.name nm = true then 0 + 1 else 0) + joinN nm r := by
      show List.foldl _ _ (c :: r) = _
      rw [List.foldl_cons, joinN_from nm r]
    rw [List.foldl_cons, joinN_from nm r, e]
    split <;> omega
theorem joinS_cons (nm : List UInt8) (c : Ch) (r : List Ch) : joinS nm (c :: r) = if isN c.name nm = true then c.data ++ joinS nm r else joinS nm r := by
  rw [joinS, List.foldl_cons, joinS_from]
  split
  · rw [cat_empty]
  · rw [cat_empty]
theorem joinN_cons (nm : List UInt8) (c : Ch) (r : List Ch) : joinN nm (c :: r) = if isN c.name nm = true then joinN nm r + 1 else joinN nm r := by
  rw [joinN, List.foldl_cons, joinN_from]
  split <;> omega
theorem catB_app (d : List ByteArray) (x : ByteArray) : catB (d ++ [x]) = catB d ++ x := by
  induction d with
  | nil => show x ++ _ = _; rw [show catB [] = ⟨#[]⟩ from rfl, cat_empty', cat_empty]
  | cons y r ih => show y ++ catB (r ++ [x]) = y ++ catB r ++ x; rw [ih, cat_assoc]
theorem cap_of {c : Ch} {nm : List UInt8} (h : isN c.name nm = true) (h0 : (nm.getD 0 0).toNat ≤ 90) (h1 : 65 ≤ (nm.getD 0 0).toNat) : capB (byteAt c.name 0) = true := by
  have := isN_eq h
  unfold byteAt
  rw [this]
  unfold capB
  simp at h0 h1 ⊢
  omega
/-- What the program's order takes is what the document joins. -/
theorem ordF_join : ∀ (r : List Ch) (a : ByteArray) (d : List ByteArray) (p : Option ByteArray) (d' : List ByteArray) (p' : Option ByteArray), ordF a d p r = some (d', p') →
    catB d' = catB d ++ joinS nIDAT r ∧ joinN nPLTE r + palN p = palN p' ∧ (p = none → joinS nPLTE r = p'.getD ⟨#[]⟩) ∧ (∀ x, p = some x → p' = some x)
  | [], a, d, p, d', p', h => by
    rw [ordF] at h
    injection h with h
    injection h with h1 h2
    subst h1 h2
    refine ⟨(cat_empty' _).symm, Nat.zero_add _, fun e => ?_, fun x e => e⟩
    rw [e]
    rfl
  | c :: r, a, d, p, d', p', h => by
    rw [ordF] at h
    rw [joinS_cons, joinN_cons, joinS_cons]
    by_cases h1 : (isN c.name nIDAT && (d.isEmpty || isN a nIDAT)) = true
    · rw [if_pos h1] at h
      obtain ⟨b1, b2, b3, b4⟩ := ordF_join r c.name _ p d' p' h
      have hI : isN c.name nIDAT = true := by rw [Bool.and_eq_true] at h1; exact h1.1
      have hP : isN c.name nPLTE = false := isN_other hI (by decide)
      rw [if_pos hI, if_neg (by rw [hP]; decide), if_neg (by rw [hP]; decide)]
      refine ⟨?_, b2, b3, b4⟩
      rw [b1, catB_app, cat_assoc]
    · rw [if_neg h1] at h
      by_cases h2 : (isN c.name nPLTE && d.isEmpty && p.isNone) = true
      · rw [if_pos h2] at h
        obtain ⟨b1, b2, b3, b4⟩ := ordF_join r c.name d (some c.data) d' p' h
        simp only [Bool.and_eq_true] at h2
        obtain ⟨⟨hP, _⟩, hp⟩ := h2
        have hI : isN c.name nIDAT = false := isN_other hP (by decide)
        have hp' : p = none := by cases p with | none => rfl | some x => cases hp
        subst hp'
        rw [if_neg (by rw [hI]; decide), if_pos hP, if_pos hP]
        have e := b4 _ rfl
        subst e
        have b2' : joinN nPLTE r + 1 = 1 := b2
        refine ⟨b1, ?_, fun _ => ?_, fun x e => by cases e⟩
        · show joinN nPLTE r + 1 + 0 = 1
          omega
        · have : joinS nPLTE r = ⟨#[]⟩ := join_none nPLTE r (by omega)
          rw [this, cat_empty']
          rfl
      · rw [if_neg h2] at h
        by_cases h3 : capB (byteAt c.name 0) = true
        · rw [if_pos h3] at h
          cases h
        · rw [if_neg h3] at h
          obtain ⟨b1, b2, b3, b4⟩ := ordF_join r c.name d p d' p' h
          have hI : ¬ isN c.name nIDAT = true := fun e => h3 (cap_of e (by decide) (by decide))
          have hP : ¬ isN c.name nPLTE = true := fun e => h3 (cap_of e (by decide) (by decide))
          rw [if_neg hI, if_neg hP, if_neg hP]
          exact ⟨b1, b2, b3, b4⟩
 where
  join_none (nm : List UInt8) : ∀ (r : List Ch), joinN nm r = 0 → joinS nm r = ⟨#[]⟩
    | [], _ => rfl
    | c :: r, h => by
      rw [joinN_cons] at h
      rw [joinS_cons]
      split
      · rename_i e
        rw [if_pos e] at h
        omega
      · rename_i e
        rw [if_neg e] at h
        exact join_none nm r h
/-- A list of two at least: the first, those between, the last. -/
theorem split_ends {L : List Ch} (h : 2 ≤ L.length) : L = firstC L :: (midC L ++ [lastC L]) := by
  cases L with
  | nil => simp at h
  | cons x r =>
    have hr : r ≠ [] := fun e => by subst e; simp at h
    have e1 : midC (x :: r) = r.dropLast := by
      unfold midC
      rw [List.length_cons, Nat.add_sub_cancel]
      obtain ⟨n, hn⟩ : ∃ n, r.length = n + 1 := ⟨r.length - 1, by have := List.length_pos_iff.2 hr; omega⟩
      rw [hn, List.take_succ_cons, List.drop_succ_cons, List.drop_zero, List.dropLast_eq_take, hn]
      rfl
    have e2 : lastC (x :: r) = r.getLast hr := by
      unfold lastC
      rw [List.length_cons, Nat.add_sub_cancel]
      obtain ⟨n, hn⟩ : ∃ n, r.length = n + 1 := ⟨r.length - 1, by have := List.length_pos_iff.2 hr; omega⟩
      rw [hn, List.getD_cons_succ, List.getLast_eq_getElem, List.getD_eq_getElem?_getD, List.getElem?_eq_getElem (by omega)]
      simp only [Option.getD_some, hn, Nat.add_sub_cancel]
    show x :: r = x :: _
    rw [e1, e2, List.dropLast_concat_getLast]
theorem join_parts {L : List Ch} {P : Parts} (h : ordOf L = some P) : joinS nIDAT L = P.data ∧ joinN nPLTE L = palN P.pal ∧ joinS nPLTE L = P.pal.getD ⟨#[]⟩ := by
  unfold ordOf at h
  split at h
  · rename_i he
    simp only [endsOk, Bool.and_eq_true, decide_eq_true_eq] at he
    obtain ⟨h2, hf, hl, _⟩ := he
    cases ho : ordF (firstC L).name [] none (midC L) with
    | none => rw [ho] at h; cases h
    | some x =>
      obtain ⟨d, p⟩ := x
      rw [ho] at h
      simp only at h
      split at h
      · cases h
      · injection h with h
        subst h
        obtain ⟨b1, b2, b3, _⟩ := ordF_join _ _ _ _ _ _ ho
        have hs := split_ends h2
        have fI : isN (firstC L).name nIDAT = false := isN_other hf (by decide)
        have fP : isN (firstC L).name nPLTE = false := isN_other hf (by decide)
        have lI : isN (lastC L).name nIDAT = false := isN_other hl (by decide)
        have lP : isN (lastC L).name nPLTE = false := isN_other hl (by decide)
        rw [hs]
        generalize firstC L = x at *
        generalize lastC L = z at *
        generalize midC L = mid at *
        rw [joinS_cons, joinS_cons, joinN_cons, joinS_snoc, joinS_snoc, joinN_snoc]
        simp only [fI, fP, lI, lP, Bool.false_eq_true, if_false]
        refine ⟨?_, b2, b3 rfl⟩
        show joinS nIDAT mid = catB d
        rw [b1]
        exact (cat_empty _).symm
  · cases h
end Go.Proofs.YtmfijackgekioaaGreatDoor
