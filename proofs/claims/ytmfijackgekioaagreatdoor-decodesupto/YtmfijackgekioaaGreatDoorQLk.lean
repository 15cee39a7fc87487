import Derived.Test.YtmfijackgekioaaGreatDoorQLhLj3
import Derived.Test.YtmfijackgekioaaGreatDoorQVd
import Derived.Test.YtmfijackgekioaaGreatDoorQSc

/-
  The document's chunks. For Decodes.
-/
namespace Go.Proofs.YtmfijackgekioaaGreatDoor
open Go.RowKit Go.Maps

theorem letters_no {s : ByteArray} {j : Nat} (hj : j < 4) (h : letterN (byteAt s (4 + j)) = false) : lettersB s 4 = false := by
  unfold lettersB
  match j, hj with
  | 0, _ => rw [show byteAt s 4 = byteAt s (4 + 0) from rfl, h, Bool.false_and]
  | 1, _ => rw [h, Bool.false_and, Bool.and_false]
  | 2, _ => rw [h, Bool.false_and, Bool.and_false, Bool.and_false]
  | 3, _ => rw [h, Bool.and_false, Bool.and_false, Bool.and_false]
theorem letters_yes {s : ByteArray} (h : ∀ j, j < 4 → letterN (byteAt s (4 + j)) = true) : lettersB s 4 = true := by
  unfold lettersB
  rw [show byteAt s 4 = byteAt s (4 + 0) from rfl, h 0 (by omega), h 1 (by omega), h 2 (by omega), h 3 (by omega)]
  rfl
theorem Tryz.infoChunkR : (Tryz.prog.info? 46).map (fun i => (i.zero, i.size, i.bytes)) = some (some (.agg #[.string ⟨#[]⟩, .string ⟨#[]⟩]), 2, 32) := by kernel_rfl
/-- A list of chunks of the document. -/
abbrev ChO (w : World) (B : Nat) (v : Value) (L : List Ch) : Prop := w.ownsRow B 46 2 v L.length (chCells L)
theorem pushK (B : Nat) (c : Ch) (L : List Ch) (v : Value) (u : World) (h : ChO u B v L) (hL : L.length ≤ 100000000) (hB : B ≤ u.heap.size) :
    ∃ v' w', (Builtin.append_ #[40, 40] 40 #[v, .slice (some ⟨u.heap.size, 0, none⟩) 1 1]).run Tryz.prog (u.alloc (.cells #[.string c.name, .string c.data] 46)) = .ok v' w' ∧ ChO w' B v' (L ++ [c]) ∧ Below B u w' := by
  obtain ⟨i0, hi, hz0, hz1, hz2⟩ := info_parts Tryz.infoChunkR
  have q1 := blk_new u (.cells #[.string c.name, .string c.data] 46)
  have k0 := below_alloc u (.cells #[.string c.name, .string c.data] 46)
  obtain ⟨v', w', hr, ho', hg', _, _⟩ := run_append_own_at (P := Tryz.prog) (u.alloc (.cells #[.string c.name, .string c.data] 46)) B 40 40 46 i0 _ 2 32 Tryz.underlying40 hi hz0 hz1 hz2 rfl (by decide) v L.length (chCells L) (h.alloc _) ⟨u.heap.size, 0, none⟩ 1 1 [.string c.name, .string c.data] rfl (fun j y hj => by
      rw [add_at, Nat.zero_add, cell_at q1]
      simpa using hj) (fun u hu => by
      simp only [List.mem_cons, List.not_mem_nil, or_false] at hu
      rcases hu with rfl | rfl <;> rfl) (by unfold maxLen; omega) (by omega) (by simp; omega)
  refine ⟨v', w', hr, ?_, ?_⟩
  · show w'.ownsRow B _ 2 v' (L ++ [c]).length (chCells (L ++ [c]))
    rw [List.length_append, chCells_snoc]
    exact ho'
  · exact (k0.mono hB).grown hg' (by simp; omega) (fun b hb => (h.lt b hb).1)
/-- What the document's reading of chunks comes to. -/
inductive EndsK (b : ByteArray) (w : World) : Ending → World → Prop
  | no {w'} : chunksOf b = none → Below w.heap.size w w' → EndsK b w (.returned (.tuple #[.slice none 0 0, .bool false])) w'
  | ok {w' L v} : chunksOf b = some L → ChO w' w.heap.size v L → Below w.heap.size w w' → EndsK b w (.returned (.tuple #[v, .bool true])) w'
theorem isEmpty_iff (s : ByteArray) : s.toList.isEmpty = decide (s.size = 0) := by
  rw [ByteArray.toList_eq, Bool.eq_iff_iff, List.isEmpty_iff_length_eq_zero, decide_eq_true_eq]
  exact Iff.rfl
set_option maxRecDepth 100000 in
set_option maxHeartbeats 600000 in
theorem chunksR (b : ByteArray) (w : World) (hs : b.size ≤ 5000000) : Calls Tryz.prog 34 #[.string b] w fun e w' => EndsK b w e w' := by
  generalize hB : w.heap.size = B
  go_enter Tryz.func34, Tryz.ntmps34
  go_wp2
  go_loopw [0, 4] (fun bv ov wr => ∃ (r : ByteArray) (L : List Ch), bv = .string r ∧ Hid (chunksOf b = (chunksOf r).map (fun l => L ++ l)) ∧ Hid (ChO wr B ov L) ∧ Hid (L.length * 12 + r.size ≤ 5000000) ∧ Below B w wr) (fun bv _ _ => lenS bv)
  case atStart => exact ⟨b, [], rfl, by show _ = _; cases chunksOf b <;> rfl, World.ownsRow_nil _ _ _ _, by show _ ≤ _; simp; omega, Below.refl _ _⟩
  case round =>
    clear hs
    obtain ⟨r, L, rfl, HC, HL, HZ, hbl⟩ := hrel
    have hem := isEmpty_iff r
    by_cases hr0 : r.size = 0
    · have HD : Hid (chunksOf b = some L) := by show _ = _; rw [HC.out, chunks_nil hr0]; simp
      rw [decide_eq_true hr0] at hem
      clear HC
      obtain ⟨oa, oc, rfl⟩ := own_slice2 HL.out
      go_wp2
      exact bodyPost_ret (v := .tuple #[.slice oa L.length oc, .bool true]) (by simp [results, Tryz.results34, go_sem]) rfl (.ok HD.out (by rw [hB]; exact HL.out) (by rw [hB]; exact hbl))
    · rw [decide_eq_false hr0] at hem
      have HR0 : Hid (r.size ≠ 0) := hr0
      have HBad : Hid (chOk r = false → chunksOf b = none) := fun h => by rw [HC.out, chunks_bad hr0 h]; rfl
      have hrs : r.size ≤ 5000000 := by have := HZ.out; omega
      clear hr0
      by_cases h12 : 12 ≤ r.size
      · have hn12 : ¬ (r.size : Int) < 12 := by omega
        have hf0 := fun u => four33 r 0 u hrs (by omega)
        rw [chLen_eq] at hf0
        obtain ⟨n, hn⟩ : ∃ n, n = chLen r := ⟨_, rfl⟩
        rw [← hn] at hf0
        have hnr : n < 4294967296 := by have := fourAt_range r 0; rw [chLen_eq, ← hn] at this; omega
        by_cases h2 : n ≤ 2147483647 ∧ n + 12 ≤ r.size
        · have hn1 : ¬ (n : Int) > 2147483647 := by omega
          have hn2 : ¬ (n : Int) > (r.size : Int) - 12 := by omega
          have hok : chOk r = (lettersB r 4 && decide (fourAt r (8 + n) = crcI (r.extract 4 (8 + n)))) := by
            unfold chOk
            rw [← hn, decide_eq_true h12, decide_eq_true h2.1, decide_eq_true h2.2, Bool.true_and, Bool.true_and, Bool.true_and]
          have HOK : Hid (_) := hok
          have HN : Hid (n = chLen r) := hn
          clear hok hn
          go_wp2_with fail
          refine (hf0 _).mono ?_
          rintro e w' ⟨rfl, m, rfl⟩
          go_wp2
          go_loop [6] (fun ix => ∃ k : Nat, k ≤ 4 ∧ ix = .int .i64 ((4 + k : Nat) : Int) ∧ Hid (∀ j, j < k → letterN (byteAt r (4 + j)) = true)) (fun ix => 8 - (intOf ix).toNat)
          case atStart => exact ⟨0, Nat.zero_le _, rfl, fun j hj => absurd hj (Nat.not_lt_zero _)⟩
          case round =>
            obtain ⟨k, hk, rfl, HLT⟩ := hrel
            obtain ⟨k4, hk4⟩ : ∃ k4, k4 = 4 + k := ⟨_, rfl⟩
            rw [← hk4]
            by_cases hlt : k < 4
            · have l8 : (k4 : Int) < 8 := by omega
              have hk4r : k4 < r.size := by omega
              have g1 := byteAt_eq r k4 hk4r
              have lr : (k4 : Int) < (r.size : Int) := by omega
              have hle := fun u => letter70 (byteAt r k4) u
              obtain ⟨lt, hlte⟩ : ∃ lt, lt = letterN (byteAt r k4) := ⟨_, rfl⟩
              rw [← hlte] at hle
              have HLE : Hid (lt = letterN (byteAt r (4 + k)) ∧ k4 = 4 + k) := ⟨by rw [hlte, hk4], hk4⟩
              clear hlte hk4
              cases lt
              · go_wp2_with fail
                refine (hle _).mono ?_
                rintro e w' ⟨rfl, rfl⟩
                have HD : Hid (chunksOf b = none) := HBad.out (by rw [HOK.out, letters_no hlt HLE.out.1.symm, Bool.false_and])
                go_wp2
                exact bodyPost_ret (v := .tuple #[.slice none 0 0, .bool false]) (by simp [results, Tryz.results34, go_sem]) rfl (.no HD.out (by rw [hB]; exact below_drewN hbl _))
              · go_wp2_with fail
                refine (hle _).mono ?_
                rintro e w' ⟨rfl, hw'⟩
                subst w'
                go_wp2
                go_round
                case rel =>
                  refine ⟨k + 1, by omega, ?_, fun j hj => ?_⟩
                  · rw [show 4 + (k + 1) = k4 + 1 by have := HLE.out.2; omega]
                    go_num
                  · by_cases hj2 : j < k
                    · exact HLT.out j hj2
                    · obtain rfl : j = k := by omega
                      exact HLE.out.1.symm
                case measure => simp [intOf]; omega
            · have hl4 : k = 4 := by omega
              have l8 : ¬ (k4 : Int) < 8 := by omega
              have HL4 : Hid (lettersB r 4 = true) := letters_yes (fun j hj => HLT.out j (by omega))
              clear hk4 hl4
              have hcr := crc6 (r.extract 4 (8 + n)) _ (wr.drewN m) (by rw [ByteArray.size_extract]; omega) rfl
              have hf8 := fun u => four33 r (8 + n) u hrs (by omega)
              rw [show ((8 + n : Nat) : Int) = 8 + (n : Int) by push_cast; rfl] at hf8
              rw [show (4294967295 - (Mx.crcR (r.extract 4 (8 + n)).data.toList : Int)) = crcI (r.extract 4 (8 + n)) from rfl] at hcr
              obtain ⟨cr, hcre⟩ : ∃ cr, cr = crcI (r.extract 4 (8 + n)) := ⟨_, rfl⟩
              obtain ⟨f8, hf8e⟩ : ∃ f8, f8 = fourAt r (8 + n) := ⟨_, rfl⟩
              rw [← hcre] at hcr
              rw [← hf8e] at hf8
              have HOK2 : Hid (chOk r = decide (f8 = cr)) := by show _ = _; rw [HOK.out, HL4.out, Bool.true_and, hcre, hf8e]
              clear hcre hf8e HOK hf0
              go_wp2_with fail
              refine hcr.mono ?_
              rintro e w2 ⟨rfl, b2⟩
              have b2' : Below wr.heap.size wr w2 := (below_drewN (Below.refl _ wr) m).trans b2
              clear b2 hcr
              go_wp2_with fail
              refine (hf8 _).mono ?_
              rintro e w3 ⟨rfl, m3, hw3⟩
              have b3 : Below wr.heap.size wr w3 := by rw [hw3]; exact below_drewN b2' m3
              clear hw3 hf8 b2'
              by_cases heq : f8 = cr
              · have hne : (f8 != cr) = false := by rw [heq]; simp
                have hok : chOk r = true := by rw [HOK2.out]; exact decide_eq_true heq
                have hrs2 := chRest_size hok
                have HD : Hid (chunksOf b = (chunksOf (chRest r)).map (fun l => (L ++ [chOf r]) ++ l)) := by
                  show _ = _
                  rw [HC.out, chunks_cons HR0.out hok]
                  cases chunksOf (chRest r) <;> simp
                have hL3 : ChO w3.drew B u4 L := own_keep HL.out (fun g hg => b3.block g (HL.out.lt g hg).2)
                have hzs := hbl.size
                have hzs3 := b3.size
                have hpk := pushK B (chOf r) L u4 w3.drew hL3 (by have := HZ.out; omega) (by show B ≤ w3.heap.size; omega)
                obtain ⟨v', w', hr, ho', hb'⟩ := hpk
                have hce : (chOf r).name = r.extract 4 8 ∧ (chOf r).data = r.extract 8 (8 + n) := ⟨rfl, by rw [HN.out]; rfl⟩
                rw [hce.1, hce.2] at hr
                have hre : r.extract (12 + n) r.size = chRest r := by rw [HN.out]; rfl
                have HF : Hid (ChO w' B v' (L ++ [chOf r]) ∧ Below B w w' ∧ (L ++ [chOf r]).length * 12 + (chRest r).size ≤ 5000000 ∧ (chRest r).size < r.size) := by
                  refine ⟨ho', ?_, ?_, by omega⟩
                  · exact (hbl.trans (b3.mono (by omega))).drew.trans hb'
                  · have := HZ.out
                    rw [List.length_append, List.length_singleton]
                    have := HN.out
                    omega
                obtain ⟨oa, oc, hu4⟩ := own_slice2 HL.out
                subst hu4
                obtain ⟨oa', oc', hv'⟩ := own_slice2 ho'
                subst hv'
                have s1 : (8 : Int) ≤ (r.size : Int) := by omega
                have s2 : IntKind.i64.wrap (8 + (n : Int)) = 8 + (n : Int) := IntWalk.i64_in _ (by omega)
                have s3 : IntKind.i64.wrap (12 + (n : Int)) = 12 + (n : Int) := IntWalk.i64_in _ (by omega)
                have s4 : (8 : Int) + (n : Int) ≤ (r.size : Int) := by omega
                have s5 : (12 : Int) + (n : Int) ≤ (r.size : Int) := by omega
                have s6 : (0 : Int) ≤ 8 + (n : Int) := by omega
                have s7 : (8 : Int) ≤ 8 + (n : Int) := by omega
                have s8 : (8 + (n : Int)).toNat = 8 + n := by omega
                have s9 : (12 + (n : Int)).toNat = 12 + n := by omega
                have HRE : Hid (_) := hre
                clear HBad HOK2 HC HL HZ hbl b3 hL3 ho' hb' hce heq hok hrs2 hre
                go_wp2
                refine regionZ (by kernel_rfl) (fun _ => True) 99 ?_
                have hTr : True := trivial
                refine anyZ_takeT (i := 0) (t := 46) (v := ?_) (T := ?_) ?ht rfl rfl (by kernel_rfl) (by kernel_rfl) (by kernel_rfl) (by kernel_rfl) (fun _ _ _ h => h) (by kernel_rfl) ?hy hTr ?_
                case hy => intro w hSw; (try dsimp only at hSw); go_simp; try with_reducible rfl
                case ht => go_simp; try with_reducible rfl
                refine anyZ_takeT (i := 1) (t := 47) (v := ?_) (T := ?_) ?ht rfl rfl (by kernel_rfl) (by kernel_rfl) (by kernel_rfl) (by kernel_rfl) (fun _ _ _ h => h) (by kernel_rfl) ?hy hTr ?_
                case hy => intro w hSw; (try dsimp only at hSw); go_simp; try with_reducible rfl
                case ht => go_simp; try with_reducible rfl
                refine anyZ_takeT (i := 2) (t := 48) (v := ?_) (T := ?_) ?ht rfl rfl (by kernel_rfl) (by kernel_rfl) (by kernel_rfl) (by kernel_rfl) (fun _ _ _ h => h) (by kernel_rfl) ?hy hTr ?_
                case hy => intro w hSw; (try dsimp only at hSw); go_simp; try with_reducible rfl
                case ht => go_simp; try with_reducible rfl
                refine anyZ_takeT (i := 3) (t := 49) (v := ?_) (T := ?_) ?ht rfl rfl (by kernel_rfl) (by kernel_rfl) (by kernel_rfl) (by kernel_rfl) (fun _ _ _ h => h) (by kernel_rfl) ?hy hTr ?_
                case hy => intro w hSw; (try dsimp only at hSw); go_simp; try with_reducible rfl
                case ht => go_simp; try with_reducible rfl
                refine anyZ_takeT (i := 4) (t := 50) (v := ?_) (T := ?_) ?ht rfl rfl (by kernel_rfl) (by kernel_rfl) (by kernel_rfl) (by kernel_rfl) (fun _ _ _ h => h) (by kernel_rfl) ?hy hTr ?_
                case hy => intro w hSw; (try dsimp only at hSw); go_simp; try with_reducible rfl
                case ht => go_simp; try with_reducible rfl
                refine anyZ_takeT (i := 5) (t := 51) (v := ?_) (T := ?_) ?ht rfl rfl (by kernel_rfl) (by kernel_rfl) (by kernel_rfl) (by kernel_rfl) (fun _ _ _ h => h) (by kernel_rfl) ?hy hTr ?_
                case hy => intro w hSw; (try dsimp only at hSw); go_simp; try with_reducible rfl
                case ht => go_simp; try with_reducible rfl
                refine anyZ_takeT (i := 6) (t := 52) (v := ?_) (T := ?_) ?ht rfl rfl (by kernel_rfl) (by kernel_rfl) (by kernel_rfl) (by kernel_rfl) (fun _ _ _ h => h) (by kernel_rfl) ?hy hTr ?_
                case hy => intro w hSw; (try dsimp only at hSw); go_simp; try with_reducible rfl
                case ht => go_simp; try with_reducible rfl
                refine anyZ_takeT (i := 7) (t := 53) (v := ?_) (T := ?_) ?ht rfl rfl (by kernel_rfl) (by kernel_rfl) (by kernel_rfl) (by kernel_rfl) (fun _ _ _ h => h) (by kernel_rfl) ?hy hTr ?_
                case hy => intro w hSw; (try dsimp only at hSw); go_simp; try with_reducible rfl
                case ht => go_simp; try with_reducible rfl
                refine anyZ_one (i := 8) (by kernel_rfl) rfl (fun K hK => ?_)
                go_simp
                refine hK _ _ (fun _ => trivial) ?_
                clear hK K
                refine anyZ_one (i := 9) (by kernel_rfl) rfl (fun K hK => ?_)
                rw [if_pos (by kernel_rfl)]
                refine Lib.wp_append_run _ _ _ _ _ rfl _ _ rfl rfl _ _ hr ?_
                refine hK _ _ (fun _ => trivial) ?_
                clear hK K
                simp only [Act.put]
                refine anyZ_takeT (i := 10) (t := 4) (v := ?_) (T := ?_) ?ht rfl rfl (by kernel_rfl) (by kernel_rfl) (by kernel_rfl) (by kernel_rfl) (fun _ _ _ h => h) (by kernel_rfl) ?hy hTr ?_
                case hy => intro w hSw; (try dsimp only at hSw); go_simp; try with_reducible rfl
                case ht => go_simp; try with_reducible rfl
                refine anyZ_done (by kernel_rfl) ?_ _
                go_wp2
                go_roundw
                case rel => exact ⟨chRest r, L ++ [chOf r], by rw [HRE.out], HD, by have := HF.out.1; rw [List.length_append, List.length_singleton] at this; exact this, HF.out.2.2.1, HF.out.2.1⟩
                case measure => simp [lenS]; have := HF.out.2.2.2; omega
              · have hne : (f8 != cr) = true := by simp [heq]
                have HD : Hid (chunksOf b = none) := HBad.out (by rw [HOK2.out]; exact decide_eq_false heq)
                go_wp2
                exact bodyPost_ret (v := .tuple #[.slice none 0 0, .bool false]) (by simp [results, Tryz.results34, go_sem]) rfl (.no HD.out (by rw [hB]; exact hbl.trans (b3.mono (by have := hbl.size; omega))))
        · have HD : Hid (chunksOf b = none) := HBad.out (by
            unfold chOk
            rw [← hn]
            rcases Nat.lt_or_ge 2147483647 n with h | h
            · rw [decide_eq_false (show ¬ n ≤ 2147483647 by omega)]; simp
            · rw [decide_eq_false (show ¬ n + 12 ≤ r.size by omega)]; simp)
          by_cases h3 : (n : Int) > 2147483647
          · clear hn h2
            go_wp2_with fail
            refine (hf0 _).mono ?_
            rintro e w' ⟨rfl, m, rfl⟩
            go_wp2
            exact bodyPost_ret (v := .tuple #[.slice none 0 0, .bool false]) (by simp [results, Tryz.results34, go_sem]) rfl (.no HD.out (by rw [hB]; exact below_drewN hbl _))
          · have h4 : (n : Int) > (r.size : Int) - 12 := by omega
            clear hn h2
            go_wp2_with fail
            refine (hf0 _).mono ?_
            rintro e w' ⟨rfl, m, rfl⟩
            go_wp2
            exact bodyPost_ret (v := .tuple #[.slice none 0 0, .bool false]) (by simp [results, Tryz.results34, go_sem]) rfl (.no HD.out (by rw [hB]; exact below_drewN hbl _))
      · have hn12 : (r.size : Int) < 12 := by omega
        have HD : Hid (chunksOf b = none) := HBad.out (by unfold chOk; rw [decide_eq_false h12, Bool.false_and])
        go_wp2
        exact bodyPost_ret (v := .tuple #[.slice none 0 0, .bool false]) (by simp [results, Tryz.results34, go_sem]) rfl (.no HD.out (by rw [hB]; exact hbl))
end Go.Proofs.YtmfijackgekioaaGreatDoor
