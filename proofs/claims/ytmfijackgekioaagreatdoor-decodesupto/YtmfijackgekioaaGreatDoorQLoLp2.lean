import Derived.Test.YtmfijackgekioaaGreatDoorQLnLq2
import Derived.Test.YtmfijackgekioaaGreatDoorQNj

/-
  The palette's numbers: the document. For Decodes.
-/
namespace Go.Proofs.YtmfijackgekioaaGreatDoor
open Go.RowKit Go.Maps

/-- What the document's palette comes to. -/
inductive EndsJ (kd dp : Int) (p : Option ByteArray) (w : World) : Ending → World → Prop
  | no {w'} : palOk kd dp p = false → Below w.heap.size w w' → EndsJ kd dp p w (.returned (.tuple #[.slice none 0 0, .bool false])) w'
  | ok {w' v} : palOk kd dp p = true → w'.ownsRow w.heap.size 3 1 v (palOf kd p).length (vals (palOf kd p)) → Below w.heap.size w w' → EndsJ kd dp p w (.returned (.tuple #[v, .bool true])) w'
theorem palL_take (p : ByteArray) (k : Nat) (h : k < p.size) : (palL p).take (k + 1) = (palL p).take k ++ [(byteAt p k : Int)] := by
  rw [List.take_succ_eq_append_getElem (by rw [palL_length]; exact h)]
  congr 1
  simp [palL]
theorem palOf_other2 {kd : Int} (h : kd ≠ 3) (p : Option ByteArray) : palOf kd p = [] := by unfold palOf; rw [if_neg h]
theorem nilOwn (w : World) (B : Nat) : w.ownsRow B 3 1 (.slice none 0 0) ([] : List Int).length (vals []) := World.ownsRow_nil _ _ _ _
set_option maxRecDepth 100000 in
set_option maxHeartbeats 600000 in
theorem coloursR (W H kd : Int) (D : Nat) (ps : Bool) (pv sv : Value) (L : List Ch) (p : Option ByteArray) (v : Value) (w : World) (hv : ChV w v L) (hL : L.length ≤ 1000000) (hs : sumC L ≤ 5000000) (hjn : joinN nPLTE L = palN p) (hjs : joinS nPLTE L = p.getD ⟨#[]⟩)
    (hch : Pm.chan kd D ≠ 0) (hps : ∀ q, p = some q → q.size ≤ 5000000) (hvl : ∃ ao n c, v = .slice ao n c) :
    Calls Tryz.prog 37 #[img W H kd D ps pv sv, v] w fun e w' => EndsJ kd D p w e w' := by
  obtain ⟨i0, hi0, hz0, hz1, hz2⟩ := info_parts Tryz.info3
  have k0 := below_alloc w (.cells #[.int .i64 W, .int .i64 H, .int .i64 kd, .int .i64 (D : Nat), .bool ps, pv, sv] 30)
  have m0 := blk_new w (.cells #[.int .i64 W, .int .i64 H, .int .i64 kd, .int .i64 (D : Nat), .bool ps, pv, sv] 30)
  have hv0 : ChV (w.alloc (.cells #[.int .i64 W, .int .i64 H, .int .i64 kd, .int .i64 (D : Nat), .bool ps, pv, sv] 30)) v L := by
    constructor
    rcases hv.shape with h | ⟨g, cap, h1, h2, h3, h4⟩
    · exact .inl h
    · exact .inr ⟨g, cap, h1, by rw [World.size_alloc]; omega, h3, fun j hj => ⟨(k0.cell (p := ⟨g, j * 2, none⟩) h2).trans (h4 j hj).1, (k0.cell (p := ⟨g, j * 2 + 1, none⟩) h2).trans (h4 j hj).2⟩⟩
  have hj := joinedR ⟨#[80, 76, 84, 69]⟩ nPLTE (by rw [ByteArray.toList_eq]) L v _ hv0 hL hs
  rw [hjn, hjs] at hj
  obtain ⟨vao, vn, vc, rfl⟩ := hvl
  have hd := Pm.chan_depth _ _ hch
  have hw := wrap_two D hd
  have htr := Pm.two_range D hd
  have HK : Hid (_) := k0
  clear hv hv0 hjn hjs k0
  cases p with
  | none =>
    have e0 : palOk kd D none = !(kd == 3) := rfl
    by_cases h3 : kd = 3
    · have e3 : (kd != 3) = false := by simp [h3]
      have HP : Hid (palOk kd D none = false) := by show _ = _; rw [e0, h3]; rfl
      clear e0 h3
      go_enter Tryz.func37, Tryz.ntmps37
      go_wp2_with fail
      refine hj.mono ?_
      rintro e w' ⟨rfl, rfl⟩
      go_wp2
      go_quiet (fail)
      go_wp2
      exact bodyPost_ret (v := .tuple #[.slice none 0 0, .bool false]) (by simp [results, Tryz.results37, go_sem]) rfl (.no HP.out (below_drewN HK.out _))
    · have e3 : (kd != 3) = true := by simp [h3]
      have HP : Hid (palOk kd D none = true ∧ palOf kd none = []) := ⟨by rw [e0]; simp [h3], palOf_other2 h3 none⟩
      clear e0 h3
      go_enter Tryz.func37, Tryz.ntmps37
      go_wp2_with fail
      refine hj.mono ?_
      rintro e w' ⟨rfl, rfl⟩
      go_wp2
      go_quiet (fail)
      go_wp2
      exact bodyPost_ret (v := .tuple #[.slice none 0 0, .bool true]) (by simp [results, Tryz.results37, go_sem]) rfl (.ok HP.out.1 (by rw [HP.out.2]; exact nilOwn _ _) (below_drewN HK.out _))
  | some q =>
    have hq := hps q rfl
    have e1 : palOk kd D (some q) = if kd = 0 ∨ kd = 4 then false else if kd = 3 then coloursB q.size (Pm.two D) else coloursB q.size 256 := rfl
    have hd3 : kd = 3 → D ≤ 8 := fun h => by
      rw [h] at hch
      unfold Pm.chan at hch
      repeat' split at hch
      all_goals omega
    have ht3 : kd = 3 → Pm.two D ≤ 256 := fun h => by
      have h8 := hd3 h
      unfold Pm.two
      rw [Int.toNat_natCast]
      have h2 : (2 : Nat) ^ D ≤ 2 ^ 8 := Nat.pow_le_pow_right (by omega) h8
      have e : ((2 : Int) ^ D) = ((2 ^ D : Nat) : Int) := by push_cast; rfl
      rw [e]
      omega
    have hw2 : IntKind.i64.wrap (2 ^ D) = Pm.two D := by
      have := IntWalk.i64_in (Pm.two D) (by omega)
      unfold Pm.two at this ⊢
      rw [Int.toNat_natCast] at this ⊢
      exact this
    obtain ⟨sz, hsz⟩ : ∃ sz, sz = q.size := ⟨_, rfl⟩
    rw [← hsz] at e1
    have hcb : ∀ m : Int, coloursB (sz : Nat) m = (decide ((sz : Int) % 3 = 0) && (decide (1 ≤ (sz : Int) / 3) && decide ((sz : Int) / 3 ≤ m))) := fun _ => rfl
    have HSZ : Hid (sz = q.size) := hsz
    have hqs : (q.size : Int) = (sz : Int) := by omega
    obtain ⟨tw, htw⟩ : ∃ tw, tw = Pm.two D := ⟨_, rfl⟩
    rw [← htw] at e1 ht3 hw2 htr
    have HE1 : Hid (_) := e1
    have HCB : Hid (_) := hcb
    clear e1 hcb hsz htw hw hch hd3
    by_cases a0 : kd = 0
    · have HP : Hid (palOk kd D (some q) = false) := by show _ = _; rw [HE1.out, if_pos (.inl a0)]
      subst a0
      go_enter Tryz.func37, Tryz.ntmps37
      go_wp2_with fail
      refine hj.mono ?_
      rintro e w' ⟨rfl, rfl⟩
      go_wp2
      exact bodyPost_ret (v := .tuple #[.slice none 0 0, .bool false]) (by simp [results, Tryz.results37, go_sem]) rfl (.no HP.out HK.out)
    · by_cases a4 : kd = 4
      · have HP : Hid (palOk kd D (some q) = false) := by show _ = _; rw [HE1.out, if_pos (.inr a4)]
        subst a4
        go_enter Tryz.func37, Tryz.ntmps37
        go_wp2_with fail
        refine hj.mono ?_
        rintro e w' ⟨rfl, rfl⟩
        go_wp2
        exact bodyPost_ret (v := .tuple #[.slice none 0 0, .bool false]) (by simp [results, Tryz.results37, go_sem]) rfl (.no HP.out HK.out)
      · have b0 : (kd == 0) = false := beq_eq_false_iff_ne.2 a0
        have b4 : (kd == 4) = false := beq_eq_false_iff_ne.2 a4
        by_cases a3 : (sz : Int) % 3 = 0
        · have b3 : ((sz : Int) % 3 != 0) = false := by rw [a3]; rfl
          by_cases a5 : (sz : Int) / 3 < 1
          · have HP : Hid (palOk kd D (some q) = false) := by
              show _ = _
              rw [HE1.out, if_neg (by omega), HCB.out, HCB.out, decide_eq_false (show ¬ 1 ≤ (sz : Int) / 3 by omega)]
              simp
            clear a3
            go_enter Tryz.func37, Tryz.ntmps37
            go_wp2_with fail
            refine hj.mono ?_
            rintro e w' ⟨rfl, rfl⟩
            go_wp2
            exact bodyPost_ret (v := .tuple #[.slice none 0 0, .bool false]) (by simp [results, Tryz.results37, go_sem]) rfl (.no HP.out HK.out)
          · by_cases a6 : (sz : Int) / 3 > 256
            · have HP : Hid (palOk kd D (some q) = false) := by
                show _ = _
                rw [HE1.out, if_neg (by omega), HCB.out, HCB.out]
                split
                · rename_i h
                  have := ht3 h
                  rw [decide_eq_false (show ¬ (sz : Int) / 3 ≤ tw by omega)]
                  simp
                · rw [decide_eq_false (show ¬ (sz : Int) / 3 ≤ 256 by omega)]
                  simp
              clear a3
              go_enter Tryz.func37, Tryz.ntmps37
              go_wp2_with fail
              refine hj.mono ?_
              rintro e w' ⟨rfl, rfl⟩
              go_wp2
              exact bodyPost_ret (v := .tuple #[.slice none 0 0, .bool false]) (by simp [results, Tryz.results37, go_sem]) rfl (.no HP.out HK.out)
            · by_cases k3 : kd = 3
              · have bk : (kd == 3) = true := beq_iff_eq.2 k3
                have bk' : (kd != 3) = false := by rw [k3]; rfl
                by_cases a7 : (sz : Int) / 3 > tw
                · have HP : Hid (palOk kd D (some q) = false) := by
                    show _ = _
                    rw [HE1.out, if_neg (by omega), if_pos k3, HCB.out, decide_eq_false (show ¬ (sz : Int) / 3 ≤ tw by omega)]
                    simp
                  clear a3 k3
                  go_enter Tryz.func37, Tryz.ntmps37
                  go_wp2_with fail
                  refine hj.mono ?_
                  rintro e w' ⟨rfl, rfl⟩
                  go_wp2
                  exact bodyPost_ret (v := .tuple #[.slice none 0 0, .bool false]) (by simp [results, Tryz.results37, go_sem]) rfl (.no HP.out HK.out)
                · have HP : Hid (palOk kd D (some q) = true ∧ palOf kd (some q) = palL q) := by
                    refine ⟨?_, by unfold palOf; rw [if_pos k3]; rfl⟩
                    rw [HE1.out, if_neg (by omega), if_pos k3, HCB.out, decide_eq_true a3, decide_eq_true (show 1 ≤ (sz : Int) / 3 by omega), decide_eq_true (show (sz : Int) / 3 ≤ tw by omega)]
                    rfl
                  clear a3 k3
                  go_enter Tryz.func37, Tryz.ntmps37
                  go_wp2_with fail
                  refine hj.mono ?_
                  rintro e w' ⟨rfl, rfl⟩
                  generalize hBw : w.heap.size = B at *
                  have HW0 : Hid (∃ w0, w0 = w.alloc (.cells #[.int .i64 W, .int .i64 H, .int .i64 kd, .int .i64 (D : Nat), .bool ps, pv, sv] 30)) := ⟨_, rfl⟩
                  go_wp2
                  go_loopw [9, 10] (fun ov ix wr => ∃ k : Nat, k ≤ sz ∧ ix = .int .i64 k ∧ wr.ownsRow B 3 1 ov k (vals ((palL q).take k)) ∧ Below B w wr) (fun _ ix _ => sz - (intOf ix).toNat)
                  case atStart => exact ⟨0, Nat.zero_le _, rfl, World.ownsRow_nil _ _ _ _, HK.out⟩
                  case round =>
                    obtain ⟨k, hk, rfl, hown, hbl⟩ := hrel
                    by_cases hlt : k < sz
                    · have hlt' : (k : Int) < (sz : Int) := by omega
                      have hkq : k < q.size := by have := HSZ.out; omega
                      have g1 := byteAt_eq q k hkq
                      have bl := byteAt_lt q k
                      have xw : IntKind.i64.wrap (byteAt q k : Int) = (byteAt q k : Int) := IntWalk.i64_in _ (by omega)
                      have HT : Hid (_) := palL_take q k hkq
                      obtain ⟨oa, oc, rfl⟩ := own_slice hown
                      go_wp2_with (at_builtin; refine wpList_append_own _ rfl _ _ 24 rfl B 3 i0 (.int .i64 0) 1 8 Tryz.underlying24 hi0 hz0 hz1 hz2 rfl (by decide) _ _ _ rfl (hown.alloc _) ⟨wr.heap.size, 0, none⟩ 1 1 [_] rfl rfl (cell_one_new _ _ _) (by intro u hu; simp at hu; subst hu; rfl) (by unfold maxLen; omega) (by omega) (by have := hbl.size; simp; omega) ?_; intro v' w2 hown' hgrow _)
                      have R2 : w2.ownsRow B 3 1 v' (k + 1) (vals ((palL q).take (k + 1))) ∧ Below B w w2 := by
                        refine ⟨?_, (hbl.alloc (by have := hbl.size; omega) _).grown hgrow (by have := hbl.size; simp; omega) (fun b hb => (hown.lt b hb).1)⟩
                        rw [HT.out]
                        simpa [vals] using hown'
                      clear hown' hgrow hown hbl
                      (try go_wp2)
                      go_roundw
                      case rel => exact ⟨k + 1, by omega, by go_num, R2.1, R2.2⟩
                      case measure => simp [intOf]; omega
                    · have hke : k = sz := by omega
                      have hnlt : ¬ (k : Int) < (sz : Int) := by omega
                      obtain ⟨oa, oc, rfl⟩ := own_slice hown
                      have HF : Hid (wr.ownsRow B 3 1 (.slice oa k oc) (palL q).length (vals (palL q)) ∧ Below B w wr) := by
                        refine ⟨?_, hbl⟩
                        have h1 := hown
                        rw [List.take_of_length_le (by rw [palL_length, ← HSZ.out]; omega)] at h1
                        rw [palL_length, ← HSZ.out, ← hke]
                        exact h1
                      clear hown hbl hke
                      go_wp2
                      refine bodyPost_ret (v := .tuple #[.slice oa k oc, .bool true]) (by simp [results, Tryz.results37, go_sem]) rfl (.ok HP.out.1 (by rw [HP.out.2, hBw]; exact HF.out.1) (by rw [hBw]; exact HF.out.2))
              · have bk : (kd == 3) = false := beq_eq_false_iff_ne.2 k3
                have bk' : (kd != 3) = true := by simp [k3]
                have HP : Hid (palOk kd D (some q) = true ∧ palOf kd (some q) = []) := by
                  refine ⟨?_, palOf_other2 k3 _⟩
                  rw [HE1.out, if_neg (by omega), if_neg k3, HCB.out, decide_eq_true a3, decide_eq_true (show 1 ≤ (sz : Int) / 3 by omega), decide_eq_true (show (sz : Int) / 3 ≤ 256 by omega)]
                  rfl
                clear a3 k3
                go_enter Tryz.func37, Tryz.ntmps37
                go_wp2_with fail
                refine hj.mono ?_
                rintro e w' ⟨rfl, rfl⟩
                go_wp2
                exact bodyPost_ret (v := .tuple #[.slice none 0 0, .bool true]) (by simp [results, Tryz.results37, go_sem]) rfl (.ok HP.out.1 (by rw [HP.out.2]; exact nilOwn _ _) HK.out)
        · have b3 : ((sz : Int) % 3 != 0) = true := by simp [a3]
          have HP : Hid (palOk kd D (some q) = false) := by
            show _ = _
            rw [HE1.out, if_neg (by omega), HCB.out, HCB.out, decide_eq_false a3]
            simp
          clear a3
          go_enter Tryz.func37, Tryz.ntmps37
          go_wp2_with fail
          refine hj.mono ?_
          rintro e w' ⟨rfl, rfl⟩
          go_wp2
          exact bodyPost_ret (v := .tuple #[.slice none 0 0, .bool false]) (by simp [results, Tryz.results37, go_sem]) rfl (.no HP.out HK.out)
end Go.Proofs.YtmfijackgekioaaGreatDoor

/-
  The head of a picture: the document. For Decodes.
-/
namespace Go.Proofs.YtmfijackgekioaaGreatDoor
open Go.RowKit Go.Maps

section
variable {P : Program} {ops : Array Oper} {Q : Exit → Act → World → Prop} {md : Region.Mode} {S : World → Prop} {z : Nat}
/-- An operation that is not wanted. -/
theorem anyZ_skipT {i t : Nat} {oi : Oper} {fuel : Nat} {listed : Array Bool} {X T : Array Value} {df} {w : World} (ht : X.setIfInBounds t undef = T) (hi : ops[i]? = some oi) (hd : oi.dst = some t)
    (hs : Region.noSelect ops = true) (hf : Region.free md ops listed i = true) (hr : (Region.ready md ops listed).contains i = true) (hz : waits md ops z i = true)
    (hQ : ∀ c a w, Q (.panic c) (a.put oi.dst undef) w → Q (.panic c) a w) (hw : Region.wanted oi (yielded ops X) = false) (hS : S w)
    (h : anyZ P md ops Q S z fuel (listed.setIfInBounds i true) ⟨T, df⟩ w) : anyZ P md ops Q S z (fuel + 1) listed ⟨X, df⟩ w := by
  refine anyZ_first hi hs hQ (waits_spec hz) fuel listed ⟨X, df⟩ w (Region.free_spec hi hf) (by simpa using hr) (.inr ⟨hw, rfl⟩) hS ?_
  rw [hd]
  show anyZ P md ops Q S z fuel _ ⟨X.setIfInBounds t undef, df⟩ w
  rw [ht]
  exact h
end
theorem heap_drew {w : World} {k : Nat} {o : Obj} (h : w.heap[k]? = some o) : w.drew.heap[k]? = some o := h
/-- What the document's head comes to. -/
inductive EndsHR (b : ByteArray) (w : World) : Ending → World → Prop
  | no {w' h} : hdOk b = false → Below w.heap.size w w' → EndsHR b w (.returned (.tuple #[.agg (hdCells h), .bool false])) w'
  | ok {w'} : hdOk b = true → Below w.heap.size w w' → EndsHR b w (.returned (.tuple #[.agg (hdCells (hdOf b)), .bool true])) w'
set_option maxRecDepth 100000 in
set_option maxHeartbeats 1000000 in
theorem headR (b : ByteArray) (w : World) : Calls Tryz.prog 36 #[.string b] w fun e w' => EndsHR b w e w' := by
  by_cases h13 : b.size = 13
  · have h8 : (8 : Int) < (b.size : Int) := by omega
    have h9 : (9 : Int) < (b.size : Int) := by omega
    have h12 : (12 : Int) < (b.size : Int) := by omega
    have g8 := byteAt_eq b 8 (by omega)
    have g9 := byteAt_eq b 9 (by omega)
    have g12 := byteAt_eq b 12 (by omega)
    have hf0 := fun v => four33 b 0 v (by omega) (by omega)
    have hf4 := fun v => four33 b 4 v (by omega) (by omega)
    have h13i : (b.size : Int) = 13 := by omega
    have l8 := byteAt_lt b 8
    have l9 := byteAt_lt b 9
    have l12 := byteAt_lt b 12
    have x8 : IntKind.i64.wrap (byteAt b 8 : Int) = byteAt b 8 := IntWalk.i64_in _ (by omega)
    have x9 : IntKind.i64.wrap (byteAt b 9 : Int) = byteAt b 9 := IntWalk.i64_in _ (by omega)
    have x12 : ((byteAt b 12 : Int) == 1) = decide (byteAt b 12 = 1) := by
      rw [Bool.eq_iff_iff, beq_iff_eq, decide_eq_true_eq]; omega
    go_enter Tryz.func36, Tryz.ntmps36
    go_wp2_with fail
    apply share1 (F := HdAt w (hdCells (hdOf b)))
    · intro rest
      have hTr : True := trivial
      have q0 := blk_new w (.cells hdZero 30)
      have k0 := (below_alloc w (.cells hdZero 30)).drew
      refine regionZ (by kernel_rfl) (fun _ => True) 99 ?_
      have Z0 : (w.alloc (.cells hdZero 30)).drew.heap[w.heap.size]? = some (.cells hdZero 30 (0, 0)) := q0
      have hsz : (w.alloc (.cells hdZero 30)).drew.heap.size = w.heap.size + 1 := by simp
      generalize (w.alloc (.cells hdZero 30)).drew = v0 at *
      refine anyZ_takeT (i := 0) (t := 11) (v := ?_) (T := ?_) ?ht rfl rfl (by kernel_rfl) (by kernel_rfl) (by kernel_rfl) (by kernel_rfl) (fun _ _ _ h => h) (by kernel_rfl) ?hy hTr ?_
      case hy => intro w hSw; (try dsimp only at hSw); go_simp; try with_reducible rfl
      case ht => go_simp; try with_reducible rfl
      refine anyZ_takeT (i := 2) (t := 13) (v := ?_) (T := ?_) ?ht rfl rfl (by kernel_rfl) (by kernel_rfl) (by kernel_rfl) (by kernel_rfl) (fun _ _ _ h => h) (by kernel_rfl) ?hy hTr ?_
      case hy => intro w hSw; (try dsimp only at hSw); go_simp; try with_reducible rfl
      case ht => go_simp; try with_reducible rfl
      refine anyZ_takeT (i := 4) (t := 15) (v := ?_) (T := ?_) ?ht rfl rfl (by kernel_rfl) (by kernel_rfl) (by kernel_rfl) (by kernel_rfl) (fun _ _ _ h => h) (by kernel_rfl) ?hy hTr ?_
      case hy => intro w hSw; (try dsimp only at hSw); go_simp; try with_reducible rfl
      case ht => go_simp; try with_reducible rfl
      refine anyZ_takeT (i := 5) (t := 16) (v := ?_) (T := ?_) ?ht rfl rfl (by kernel_rfl) (by kernel_rfl) (by kernel_rfl) (by kernel_rfl) (fun _ _ _ h => h) (by kernel_rfl) ?hy hTr ?_
      case hy => intro w hSw; (try dsimp only at hSw); go_simp; try with_reducible rfl
      case ht => go_simp; try with_reducible rfl
      refine anyZ_takeT (i := 6) (t := 17) (v := ?_) (T := ?_) ?ht rfl rfl (by kernel_rfl) (by kernel_rfl) (by kernel_rfl) (by kernel_rfl) (fun _ _ _ h => h) (by kernel_rfl) ?hy hTr ?_
      case hy => intro w hSw; (try dsimp only at hSw); go_simp; try with_reducible rfl
      case ht => go_simp; try with_reducible rfl
      refine anyZ_takeT (i := 7) (t := 18) (v := ?_) (T := ?_) ?ht rfl rfl (by kernel_rfl) (by kernel_rfl) (by kernel_rfl) (by kernel_rfl) (fun _ _ _ h => h) (by kernel_rfl) ?hy hTr ?_
      case hy => intro w hSw; (try dsimp only at hSw); go_simp; try with_reducible rfl
      case ht => go_simp; try with_reducible rfl
      refine anyZ_takeT (i := 8) (t := 19) (v := ?_) (T := ?_) ?ht rfl rfl (by kernel_rfl) (by kernel_rfl) (by kernel_rfl) (by kernel_rfl) (fun _ _ _ h => h) (by kernel_rfl) ?hy hTr ?_
      case hy => intro w hSw; (try dsimp only at hSw); go_simp; try with_reducible rfl
      case ht => go_simp; try with_reducible rfl
      refine anyZ_takeT (i := 9) (t := 20) (v := ?_) (T := ?_) ?ht rfl rfl (by kernel_rfl) (by kernel_rfl) (by kernel_rfl) (by kernel_rfl) (fun _ _ _ h => h) (by kernel_rfl) ?hy hTr ?_
      case hy => intro w hSw; (try dsimp only at hSw); go_simp; try with_reducible rfl
      case ht => go_simp; try with_reducible rfl
      refine anyZ_takeT (i := 10) (t := 21) (v := ?_) (T := ?_) ?ht rfl rfl (by kernel_rfl) (by kernel_rfl) (by kernel_rfl) (by kernel_rfl) (fun _ _ _ h => h) (by kernel_rfl) ?hy hTr ?_
      case hy => intro w hSw; (try dsimp only at hSw); go_simp; try with_reducible rfl
      case ht => go_simp; try with_reducible rfl
      refine anyZ_takeT (i := 11) (t := 22) (v := ?_) (T := ?_) ?ht rfl rfl (by kernel_rfl) (by kernel_rfl) (by kernel_rfl) (by kernel_rfl) (fun _ _ _ h => h) (by kernel_rfl) ?hy hTr ?_
      case hy => intro w hSw; (try dsimp only at hSw); go_simp; try with_reducible rfl
      case ht => go_simp; try with_reducible rfl
      refine anyZ_takeT (i := 12) (t := 23) (v := ?_) (T := ?_) ?ht rfl rfl (by kernel_rfl) (by kernel_rfl) (by kernel_rfl) (by kernel_rfl) (fun _ _ _ h => h) (by kernel_rfl) ?hy hTr ?_
      case hy => intro w hSw; (try dsimp only at hSw); go_simp; try with_reducible rfl
      case ht => go_simp; try with_reducible rfl
      refine anyZ_two (i := 1) (j := 14) (by kernel_rfl) rfl rfl (fun K hK => ?_) (fun K hK => ?_)
      · go_simp
        refine (hf0 _).mono ?_
        rintro e v1 ⟨rfl, m1, hv1⟩
        have k1 : Below w.heap.size w v1 := by rw [hv1]; exact below_drewN k0 m1
        have Z1 : v1.heap[w.heap.size]? = some (.cells hdZero 30 (0, 0)) := by rw [hv1]; exact Z0
        have s1 : v1.heap.size = w.heap.size + 1 := by rw [hv1]; exact hsz
        refine hK _ _ (fun _ => trivial) ?_
        clear hK K hv1
        refine anyZ_two (i := 3) (j := 14) (by kernel_rfl) rfl rfl (fun K hK => ?_) (fun K hK => ?_)
        · go_simp
          refine (hf4 _).mono ?_
          rintro e v2 ⟨rfl, m2, hv2⟩
          have k2 : Below w.heap.size w v2 := by rw [hv2]; exact below_drewN k1 m2
          have Z2 : v2.heap[w.heap.size]? = some (.cells hdZero 30 (0, 0)) := by rw [hv2]; exact Z1
          have s2 : v2.heap.size = w.heap.size + 1 := by rw [hv2]; exact s1
          refine hK _ _ (fun _ => trivial) ?_
          clear hK K hv2
          refine anyZ_takeT (i := 13) (t := 24) (v := ?_) (T := ?_) ?ht rfl rfl (by kernel_rfl) (by kernel_rfl) (by kernel_rfl) (by kernel_rfl) (fun _ _ _ h => h) (by kernel_rfl) ?hy hTr ?_
          case hy => intro w hSw; (try dsimp only at hSw); go_simp; try with_reducible rfl
          case ht => go_simp; try with_reducible rfl
          refine anyZ_one (i := 14) (by kernel_rfl) rfl (fun K hK => ?_)
          go_simp
          have ka := below_alloc v2 (.cells hdZero 30)
          have X3 := blk_new v2 (.cells hdZero 30)
          rw [s2] at X3
          have k3 := k2.trans (ka.mono (by omega))
          have Z3 := (ka.block _ (by omega)).trans Z2
          generalize v2.alloc (.cells hdZero 30) = v3 at *
          refine hK _ _ (fun _ => trivial) ?_
          clear hK K ka
          obtain ⟨y0, y1, y2, y3, y4, y5, y6, yf, yl⟩ := cells7H X3
          refine anyZ_one (i := 15) (by kernel_rfl) rfl (fun K hK => ?_)
          go_simp
          refine hK _ _ (fun _ => trivial) ?_
          clear hK K
          refine anyZ_done (by kernel_rfl) ?_ _
          have hat : HdAt w (hdCells (hdOf b)) (set7 v3 (w.heap.size + 1) (.int .i64 (fourAt b 0)) (.int .i64 (fourAt b 4)) (.int .i64 (byteAt b 9)) (.int .i64 (byteAt b 8)) (.bool (decide (byteAt b 12 = 1))) (.slice none 0 0) (.slice none 0 0)) := ⟨set7_below k3 _ (by omega) .., (set7_far _ _ _ _ _ _ _ _ _ _ (by omega)).trans Z3, set7_row X3 ..⟩
          unfold set7 at hat
          revert hat
          generalize World.setCell _ _ _ = u
          intro hat
          have r := rest u hat
          clear hat
          exact r
        · go_simp
          have ka := below_alloc v1 (.cells hdZero 30)
          have X2 := blk_new v1 (.cells hdZero 30)
          rw [s1] at X2
          have k2 := k1.trans (ka.mono (by omega))
          have Z2 := (ka.block _ (by omega)).trans Z1
          generalize v1.alloc (.cells hdZero 30) = v2 at *
          refine hK _ _ (fun _ => trivial) ?_
          clear hK K ka
          refine anyZ_one (i := 3) (by kernel_rfl) rfl (fun K hK => ?_)
          go_simp
          refine (hf4 _).mono ?_
          rintro e v3 ⟨rfl, m3, hv3⟩
          have k3 : Below w.heap.size w v3 := by rw [hv3]; exact below_drewN k2 m3
          have Z3 : v3.heap[w.heap.size]? = some (.cells hdZero 30 (0, 0)) := by rw [hv3]; exact Z2
          have X3 : v3.heap[w.heap.size + 1]? = some (.cells hdZero 30 (0, 0)) := by rw [hv3]; exact X2
          refine hK _ _ (fun _ => trivial) ?_
          clear hK K hv3
          refine anyZ_takeT (i := 13) (t := 24) (v := ?_) (T := ?_) ?ht rfl rfl (by kernel_rfl) (by kernel_rfl) (by kernel_rfl) (by kernel_rfl) (fun _ _ _ h => h) (by kernel_rfl) ?hy hTr ?_
          case hy => intro w hSw; (try dsimp only at hSw); go_simp; try with_reducible rfl
          case ht => go_simp; try with_reducible rfl
          obtain ⟨y0, y1, y2, y3, y4, y5, y6, yf, yl⟩ := cells7H X3
          refine anyZ_one (i := 15) (by kernel_rfl) rfl (fun K hK => ?_)
          go_simp
          refine hK _ _ (fun _ => trivial) ?_
          clear hK K
          refine anyZ_done (by kernel_rfl) ?_ _
          have hat : HdAt w (hdCells (hdOf b)) (set7 v3 (w.heap.size + 1) (.int .i64 (fourAt b 0)) (.int .i64 (fourAt b 4)) (.int .i64 (byteAt b 9)) (.int .i64 (byteAt b 8)) (.bool (decide (byteAt b 12 = 1))) (.slice none 0 0) (.slice none 0 0)) := ⟨set7_below k3 _ (by omega) .., (set7_far _ _ _ _ _ _ _ _ _ _ (by omega)).trans Z3, set7_row X3 ..⟩
          unfold set7 at hat
          revert hat
          generalize World.setCell _ _ _ = u
          intro hat
          have r := rest u hat
          clear hat
          exact r
      · go_simp
        have ka := below_alloc v0 (.cells hdZero 30)
        have X1 := blk_new v0 (.cells hdZero 30)
        rw [hsz] at X1
        have k1 := k0.trans (ka.mono (by omega))
        have Z1 := (ka.block _ (by omega)).trans Z0
        generalize v0.alloc (.cells hdZero 30) = v1 at *
        refine hK _ _ (fun _ => trivial) ?_
        clear hK K ka
        refine anyZ_one (i := 1) (by kernel_rfl) rfl (fun K hK => ?_)
        go_simp
        refine (hf0 _).mono ?_
        rintro e v2 ⟨rfl, m2, hv2⟩
        have k2 : Below w.heap.size w v2 := by rw [hv2]; exact below_drewN k1 m2
        have Z2 : v2.heap[w.heap.size]? = some (.cells hdZero 30 (0, 0)) := by rw [hv2]; exact Z1
        have X2 : v2.heap[w.heap.size + 1]? = some (.cells hdZero 30 (0, 0)) := by rw [hv2]; exact X1
        refine hK _ _ (fun _ => trivial) ?_
        clear hK K hv2
        refine anyZ_one (i := 3) (by kernel_rfl) rfl (fun K hK => ?_)
        go_simp
        refine (hf4 _).mono ?_
        rintro e v3 ⟨rfl, m3, hv3⟩
        have k3 : Below w.heap.size w v3 := by rw [hv3]; exact below_drewN k2 m3
        have Z3 : v3.heap[w.heap.size]? = some (.cells hdZero 30 (0, 0)) := by rw [hv3]; exact Z2
        have X3 : v3.heap[w.heap.size + 1]? = some (.cells hdZero 30 (0, 0)) := by rw [hv3]; exact X2
        refine hK _ _ (fun _ => trivial) ?_
        clear hK K hv3
        refine anyZ_takeT (i := 13) (t := 24) (v := ?_) (T := ?_) ?ht rfl rfl (by kernel_rfl) (by kernel_rfl) (by kernel_rfl) (by kernel_rfl) (fun _ _ _ h => h) (by kernel_rfl) ?hy hTr ?_
        case hy => intro w hSw; (try dsimp only at hSw); go_simp; try with_reducible rfl
        case ht => go_simp; try with_reducible rfl
        obtain ⟨y0, y1, y2, y3, y4, y5, y6, yf, yl⟩ := cells7H X3
        refine anyZ_one (i := 15) (by kernel_rfl) rfl (fun K hK => ?_)
        go_simp
        refine hK _ _ (fun _ => trivial) ?_
        clear hK K
        refine anyZ_done (by kernel_rfl) ?_ _
        have hat : HdAt w (hdCells (hdOf b)) (set7 v3 (w.heap.size + 1) (.int .i64 (fourAt b 0)) (.int .i64 (fourAt b 4)) (.int .i64 (byteAt b 9)) (.int .i64 (byteAt b 8)) (.bool (decide (byteAt b 12 = 1))) (.slice none 0 0) (.slice none 0 0)) := ⟨set7_below k3 _ (by omega) .., (set7_far _ _ _ _ _ _ _ _ _ _ (by omega)).trans Z3, set7_row X3 ..⟩
        unfold set7 at hat
        revert hat
        generalize World.setCell _ _ _ = u
        intro hat
        have r := rest u hat
        clear hat
        exact r
    · intro u hu
      have hm : u.heap[w.heap.size + 1]? = some (.cells #[.int .i64 (fourAt b 0), .int .i64 (fourAt b 4), .int .i64 (byteAt b 9), .int .i64 (byteAt b 8), .bool (decide (byteAt b 12 = 1)), .slice none 0 0, .slice none 0 0] 30 (0, 0)) := hu.m
      have hz : u.heap[w.heap.size]? = some (.cells #[.int .i64 0, .int .i64 0, .int .i64 0, .int .i64 0, .bool false, .slice none 0 0, .slice none 0 0] 30 (0, 0)) := hu.z
      obtain ⟨y0, y1, y2, y3, y4, y5, y6, yf, yl⟩ := cells7H hm
      obtain ⟨z0, z1, z2, z3, z4, z5, z6, zf, zl⟩ := cells7H hz
      have h10 : (10 : Int) < (b.size : Int) := by omega
      have h11 : (11 : Int) < (b.size : Int) := by omega
      have g10 := byteAt_eq b 10 (by omega)
      have g11 := byteAt_eq b 11 (by omega)
      have hC := fun v => chan13 (byteAt b 9) (byteAt b 8) v
      have hcr := Pm.chan_range (byteAt b 9) (byteAt b 8)
      have x10 : ((byteAt b 10 : Int) == 0) = decide (byteAt b 10 = 0) := by rw [Bool.eq_iff_iff, beq_iff_eq, decide_eq_true_eq]; omega
      have x11 : ((byteAt b 11 : Int) == 0) = decide (byteAt b 11 = 0) := by rw [Bool.eq_iff_iff, beq_iff_eq, decide_eq_true_eq]; omega
      have x13 : decide ((byteAt b 12 : Int) ≤ 1) = decide (byteAt b 12 ≤ 1) := by rw [Bool.eq_iff_iff, decide_eq_true_eq, decide_eq_true_eq]; omega
      have HOK : Hid (hdOk b = ((Pm.sideB (fourAt b 0) && Pm.sideB (fourAt b 4)) && ((decide (byteAt b 10 = 0) && (decide (byteAt b 11 = 0) && decide (byteAt b 12 ≤ 1))) && !(Pm.chan (byteAt b 9) (byteAt b 8) == 0)))) := by show _ = _; unfold hdOk; rw [decide_eq_true h13, Bool.true_and]
      have HM : Hid (_) := hm
      have HZ : Hid (_) := hz
      have HBE : Hid (_) := hu.be
      have HHD : Hid (hdOf b = ⟨fourAt b 0, fourAt b 4, byteAt b 9, byteAt b 8, decide (byteAt b 12 = 1)⟩) := rfl
      have s1e := fun v => side14 (fourAt b 0) v
      have s2e := fun v => side14 (fourAt b 4) v
      have hend := set7_row hz (.int .i64 (fourAt b 0)) (.int .i64 (fourAt b 4)) (.int .i64 (byteAt b 9)) (.int .i64 (byteAt b 8)) (.bool (decide (byteAt b 12 = 1))) (.slice none 0 0) (.slice none 0 0)
      have hbe := (set7_below hu.be w.heap.size (Nat.le_refl _) (.int .i64 (fourAt b 0)) (.int .i64 (fourAt b 4)) (.int .i64 (byteAt b 9)) (.int .i64 (byteAt b 8)) (.bool (decide (byteAt b 12 = 1))) (.slice none 0 0) (.slice none 0 0)).drew
      have hm9 := (set7_far u w.heap.size (.int .i64 (fourAt b 0)) (.int .i64 (fourAt b 4)) (.int .i64 (byteAt b 9)) (.int .i64 (byteAt b 8)) (.bool (decide (byteAt b 12 = 1))) (.slice none 0 0) (.slice none 0 0) (w.heap.size + 1) (by omega)).trans hm
      have hend := heap_drew hend
      have hm9 := heap_drew hm9
      have HE : Hid (_ ∧ _ ∧ _) := ⟨hend, hbe, hm9⟩
      clear hf0 hf4 hm hz hu hend hbe hm9
      generalize hs1 : Pm.sideB (fourAt b 0) = s1 at *
      generalize hs2 : Pm.sideB (fourAt b 4) = s2 at *
      generalize decide (byteAt b 10 = 0) = c10 at *
      generalize decide (byteAt b 11 = 0) = c11 at *
      generalize decide (byteAt b 12 ≤ 1) = c12 at *
      generalize Pm.chan (byteAt b 9) (byteAt b 8) = CH at *
      generalize fourAt b 0 = A at *
      generalize fourAt b 4 = B at *
      clear hs1 hs2
      go_wp2_with fail
      refine (s1e _).mono ?_
      rintro e w' ⟨rfl, rfl⟩
      go_wp2_with fail
      refine (s2e _).mono ?_
      rintro e w' ⟨rfl, rfl⟩
      clear s1e s2e
      rcases s1 with _ | _
      · have HNO : Hid (hdOk b = false) := by show _ = _; rw [HOK.out]; simp
        go_wp2
        have hS : w'.drew.cell? ⟨w.heap.size + 1, 0, none⟩ = some (.int .i64 A) ∧ w'.drew.cell? ⟨w.heap.size + 1, 1, none⟩ = some (.int .i64 B) ∧ w'.drew.cell? ⟨w.heap.size + 1, 2, none⟩ = some (.int .i64 (byteAt b 9 : Nat)) ∧ w'.drew.cell? ⟨w.heap.size + 1, 3, none⟩ = some (.int .i64 (byteAt b 8 : Nat)) ∧ w'.drew.cell? ⟨w.heap.size + 1, 4, none⟩ = some (.bool (decide (byteAt b 12 = 1))) ∧ w'.drew.cell? ⟨w.heap.size + 1, 5, none⟩ = some (.slice none 0 0) ∧ w'.drew.cell? ⟨w.heap.size + 1, 6, none⟩ = some (.slice none 0 0) := ⟨y0, y1, y2, y3, y4, y5, y6⟩
        refine regionZ (by kernel_rfl) (fun u => u.cell? ⟨w.heap.size + 1, 0, none⟩ = some (.int .i64 A) ∧ u.cell? ⟨w.heap.size + 1, 1, none⟩ = some (.int .i64 B) ∧ u.cell? ⟨w.heap.size + 1, 2, none⟩ = some (.int .i64 (byteAt b 9 : Nat)) ∧ u.cell? ⟨w.heap.size + 1, 3, none⟩ = some (.int .i64 (byteAt b 8 : Nat)) ∧ u.cell? ⟨w.heap.size + 1, 4, none⟩ = some (.bool (decide (byteAt b 12 = 1))) ∧ u.cell? ⟨w.heap.size + 1, 5, none⟩ = some (.slice none 0 0) ∧ u.cell? ⟨w.heap.size + 1, 6, none⟩ = some (.slice none 0 0)) 99 ?_
        refine anyZ_takeT (i := 0) (t := 31) (v := ?_) (T := ?_) ?ht rfl rfl (by kernel_rfl) (by kernel_rfl) (by kernel_rfl) (by kernel_rfl) (fun _ _ _ h => h) (by kernel_rfl) ?hy hS ?_
        case hy => intro w hSw; (try dsimp only at hSw); go_simp; try with_reducible rfl
        case ht => go_simp; try with_reducible rfl
        refine anyZ_takeT (i := 1) (t := 32) (v := ?_) (T := ?_) ?ht rfl rfl (by kernel_rfl) (by kernel_rfl) (by kernel_rfl) (by kernel_rfl) (fun _ _ _ h => h) (by kernel_rfl) ?hy hS ?_
        case hy => intro w hSw; (try dsimp only at hSw); go_simp; try with_reducible rfl
        case ht => go_simp; try with_reducible rfl
        refine anyZ_takeT (i := 2) (t := 33) (v := ?_) (T := ?_) ?ht rfl rfl (by kernel_rfl) (by kernel_rfl) (by kernel_rfl) (by kernel_rfl) (fun _ _ _ h => h) (by kernel_rfl) ?hy hS ?_
        case hy => intro w hSw; (try dsimp only at hSw); go_simp; try with_reducible rfl
        case ht => go_simp; try with_reducible rfl
        refine anyZ_skipT (i := 3) (t := 34) (T := ?_) ?ht rfl rfl (by kernel_rfl) (by kernel_rfl) (by kernel_rfl) (by kernel_rfl) (fun _ _ _ h => h) (by kernel_rfl) hS ?_
        case ht => go_simp; try with_reducible rfl
        refine anyZ_takeT (i := 4) (t := 35) (v := ?_) (T := ?_) ?ht rfl rfl (by kernel_rfl) (by kernel_rfl) (by kernel_rfl) (by kernel_rfl) (fun _ _ _ h => h) (by kernel_rfl) ?hy hS ?_
        case hy => intro w hSw; (try dsimp only at hSw); go_simp; try with_reducible rfl
        case ht => go_simp; try with_reducible rfl
        refine anyZ_takeT (i := 5) (t := 36) (v := ?_) (T := ?_) ?ht rfl rfl (by kernel_rfl) (by kernel_rfl) (by kernel_rfl) (by kernel_rfl) (fun _ _ _ h => h) (by kernel_rfl) ?hy hS ?_
        case hy => intro w hSw; (try dsimp only at hSw); go_simp; try with_reducible rfl
        case ht => go_simp; try with_reducible rfl
        refine anyZ_skipT (i := 6) (t := 37) (T := ?_) ?ht rfl rfl (by kernel_rfl) (by kernel_rfl) (by kernel_rfl) (by kernel_rfl) (fun _ _ _ h => h) (by kernel_rfl) hS ?_
        case ht => go_simp; try with_reducible rfl
        refine anyZ_skipT (i := 7) (t := 38) (T := ?_) ?ht rfl rfl (by kernel_rfl) (by kernel_rfl) (by kernel_rfl) (by kernel_rfl) (fun _ _ _ h => h) (by kernel_rfl) hS ?_
        case ht => go_simp; try with_reducible rfl
        refine anyZ_skipT (i := 8) (t := 39) (T := ?_) ?ht rfl rfl (by kernel_rfl) (by kernel_rfl) (by kernel_rfl) (by kernel_rfl) (fun _ _ _ h => h) (by kernel_rfl) hS ?_
        case ht => go_simp; try with_reducible rfl
        refine anyZ_skipT (i := 9) (t := 40) (T := ?_) ?ht rfl rfl (by kernel_rfl) (by kernel_rfl) (by kernel_rfl) (by kernel_rfl) (fun _ _ _ h => h) (by kernel_rfl) hS ?_
        case ht => go_simp; try with_reducible rfl
        refine anyZ_skipT (i := 10) (t := 41) (T := ?_) ?ht rfl rfl (by kernel_rfl) (by kernel_rfl) (by kernel_rfl) (by kernel_rfl) (fun _ _ _ h => h) (by kernel_rfl) hS ?_
        case ht => go_simp; try with_reducible rfl
        refine anyZ_skipT (i := 11) (t := 42) (T := ?_) ?ht rfl rfl (by kernel_rfl) (by kernel_rfl) (by kernel_rfl) (by kernel_rfl) (fun _ _ _ h => h) (by kernel_rfl) hS ?_
        case ht => go_simp; try with_reducible rfl
        refine anyZ_takeT (i := 12) (t := 43) (v := ?_) (T := ?_) ?ht rfl rfl (by kernel_rfl) (by kernel_rfl) (by kernel_rfl) (by kernel_rfl) (fun _ _ _ h => h) (by kernel_rfl) ?hy hS ?_
        case hy => intro w hSw; (try dsimp only at hSw); go_simp; try with_reducible rfl
        case ht => go_simp; try with_reducible rfl
        refine anyZ_takeT (i := 13) (t := 44) (v := ?_) (T := ?_) ?ht rfl rfl (by kernel_rfl) (by kernel_rfl) (by kernel_rfl) (by kernel_rfl) (fun _ _ _ h => h) (by kernel_rfl) ?hy hS ?_
        case hy => intro w hSw; (try dsimp only at hSw); go_simp; try with_reducible rfl
        case ht => go_simp; try with_reducible rfl
        refine anyZ_skipT (i := 14) (t := 45) (T := ?_) ?ht rfl rfl (by kernel_rfl) (by kernel_rfl) (by kernel_rfl) (by kernel_rfl) (fun _ _ _ h => h) (by kernel_rfl) hS ?_
        case ht => go_simp; try with_reducible rfl
        refine anyZ_skipT (i := 15) (t := 46) (T := ?_) ?ht rfl rfl (by kernel_rfl) (by kernel_rfl) (by kernel_rfl) (by kernel_rfl) (fun _ _ _ h => h) (by kernel_rfl) hS ?_
        case ht => go_simp; try with_reducible rfl
        refine anyZ_skipT (i := 16) (t := 47) (T := ?_) ?ht rfl rfl (by kernel_rfl) (by kernel_rfl) (by kernel_rfl) (by kernel_rfl) (fun _ _ _ h => h) (by kernel_rfl) hS ?_
        case ht => go_simp; try with_reducible rfl
        refine anyZ_takeT (i := 17) (t := 48) (v := ?_) (T := ?_) ?ht rfl rfl (by kernel_rfl) (by kernel_rfl) (by kernel_rfl) (by kernel_rfl) (fun _ _ _ h => h) (by kernel_rfl) ?hy hS ?_
        case hy => intro w hSw; (try dsimp only at hSw); go_simp; try with_reducible rfl
        case ht => go_simp; try with_reducible rfl
        refine anyZ_takeT (i := 18) (t := 49) (v := ?_) (T := ?_) ?ht rfl rfl (by kernel_rfl) (by kernel_rfl) (by kernel_rfl) (by kernel_rfl) (fun _ _ _ h => h) (by kernel_rfl) ?hy hS ?_
        case hy => intro w hSw; (try dsimp only at hSw); go_simp; try with_reducible rfl
        case ht => go_simp; try with_reducible rfl
        refine anyZ_skipT (i := 19) (t := 50) (T := ?_) ?ht rfl rfl (by kernel_rfl) (by kernel_rfl) (by kernel_rfl) (by kernel_rfl) (fun _ _ _ h => h) (by kernel_rfl) hS ?_
        case ht => go_simp; try with_reducible rfl
        refine anyZ_skipT (i := 20) (t := 51) (T := ?_) ?ht rfl rfl (by kernel_rfl) (by kernel_rfl) (by kernel_rfl) (by kernel_rfl) (fun _ _ _ h => h) (by kernel_rfl) hS ?_
        case ht => go_simp; try with_reducible rfl
        refine anyZ_skipT (i := 21) (t := 52) (T := ?_) ?ht rfl rfl (by kernel_rfl) (by kernel_rfl) (by kernel_rfl) (by kernel_rfl) (fun _ _ _ h => h) (by kernel_rfl) hS ?_
        case ht => go_simp; try with_reducible rfl
        refine anyZ_takeT (i := 22) (t := 53) (v := ?_) (T := ?_) ?ht rfl rfl (by kernel_rfl) (by kernel_rfl) (by kernel_rfl) (by kernel_rfl) (fun _ _ _ h => h) (by kernel_rfl) ?hy hS ?_
        case hy => intro w hSw; (try dsimp only at hSw); go_simp; try with_reducible rfl
        case ht => go_simp; try with_reducible rfl
        refine anyZ_takeT (i := 23) (t := 54) (v := ?_) (T := ?_) ?ht rfl rfl (by kernel_rfl) (by kernel_rfl) (by kernel_rfl) (by kernel_rfl) (fun _ _ _ h => h) (by kernel_rfl) ?hy hS ?_
        case hy => intro w hSw; (try dsimp only at hSw); go_simp; try with_reducible rfl
        case ht => go_simp; try with_reducible rfl
        refine anyZ_skipT (i := 24) (t := 55) (T := ?_) ?ht rfl rfl (by kernel_rfl) (by kernel_rfl) (by kernel_rfl) (by kernel_rfl) (fun _ _ _ h => h) (by kernel_rfl) hS ?_
        case ht => go_simp; try with_reducible rfl
        refine anyZ_skipT (i := 25) (t := 56) (T := ?_) ?ht rfl rfl (by kernel_rfl) (by kernel_rfl) (by kernel_rfl) (by kernel_rfl) (fun _ _ _ h => h) (by kernel_rfl) hS ?_
        case ht => go_simp; try with_reducible rfl
        refine anyZ_skipT (i := 26) (t := 57) (T := ?_) ?ht rfl rfl (by kernel_rfl) (by kernel_rfl) (by kernel_rfl) (by kernel_rfl) (fun _ _ _ h => h) (by kernel_rfl) hS ?_
        case ht => go_simp; try with_reducible rfl
        refine anyZ_takeT (i := 27) (t := 58) (v := ?_) (T := ?_) ?ht rfl rfl (by kernel_rfl) (by kernel_rfl) (by kernel_rfl) (by kernel_rfl) (fun _ _ _ h => h) (by kernel_rfl) ?hy hS ?_
        case hy => intro w hSw; (try dsimp only at hSw); go_simp; try with_reducible rfl
        case ht => go_simp; try with_reducible rfl
        obtain ⟨hend, hbe, hm9⟩ := HE.out
        obtain ⟨t0, t1, t2, t3, t4, t5, t6⟩ := cells7 hm9
        obtain ⟨r0, r1, r2, r3, r4, r5, r6⟩ := cells7 hend
        have hS9 := And.intro t0 (And.intro t1 (And.intro t2 (And.intro t3 (And.intro t4 (And.intro t5 t6)))))
        refine anyZ_one (i := 28) (by kernel_rfl) rfl (fun K hK => ?_)
        go_simp
        refine hK _ _ (fun _ => hS9) ?_
        clear hK K
        refine anyZ_takeT (i := 29) (t := 3) (v := ?_) (T := ?_) ?ht rfl rfl (by kernel_rfl) (by kernel_rfl) (by kernel_rfl) (by kernel_rfl) (fun _ _ _ h => h) (by kernel_rfl) ?hy hS9 ?_
        case hy => intro w hSw; (try dsimp only at hSw); go_simp; try with_reducible rfl
        case ht => go_simp; try with_reducible rfl
        refine anyZ_done (by kernel_rfl) ?_ _
        go_wp2
        exact bodyPost_ret (v := .tuple #[.agg #[.int .i64 A, .int .i64 B, .int .i64 (byteAt b 9 : Nat), .int .i64 (byteAt b 8 : Nat), .bool (decide (byteAt b 12 = 1)), .slice none 0 0, .slice none 0 0], .bool false]) (by simp [results, Tryz.results36, go_sem, r0, r1, r2, r3, r4, r5, r6]) rfl (EndsHR.no (h := ⟨A, B, byteAt b 9, byteAt b 8, decide (byteAt b 12 = 1)⟩) HNO.out hbe)
      · rcases s2 with _ | _
        · have HNO : Hid (hdOk b = false) := by show _ = _; rw [HOK.out]; simp
          go_wp2
          have hS : w'.drew.cell? ⟨w.heap.size + 1, 0, none⟩ = some (.int .i64 A) ∧ w'.drew.cell? ⟨w.heap.size + 1, 1, none⟩ = some (.int .i64 B) ∧ w'.drew.cell? ⟨w.heap.size + 1, 2, none⟩ = some (.int .i64 (byteAt b 9 : Nat)) ∧ w'.drew.cell? ⟨w.heap.size + 1, 3, none⟩ = some (.int .i64 (byteAt b 8 : Nat)) ∧ w'.drew.cell? ⟨w.heap.size + 1, 4, none⟩ = some (.bool (decide (byteAt b 12 = 1))) ∧ w'.drew.cell? ⟨w.heap.size + 1, 5, none⟩ = some (.slice none 0 0) ∧ w'.drew.cell? ⟨w.heap.size + 1, 6, none⟩ = some (.slice none 0 0) := ⟨y0, y1, y2, y3, y4, y5, y6⟩
          refine regionZ (by kernel_rfl) (fun u => u.cell? ⟨w.heap.size + 1, 0, none⟩ = some (.int .i64 A) ∧ u.cell? ⟨w.heap.size + 1, 1, none⟩ = some (.int .i64 B) ∧ u.cell? ⟨w.heap.size + 1, 2, none⟩ = some (.int .i64 (byteAt b 9 : Nat)) ∧ u.cell? ⟨w.heap.size + 1, 3, none⟩ = some (.int .i64 (byteAt b 8 : Nat)) ∧ u.cell? ⟨w.heap.size + 1, 4, none⟩ = some (.bool (decide (byteAt b 12 = 1))) ∧ u.cell? ⟨w.heap.size + 1, 5, none⟩ = some (.slice none 0 0) ∧ u.cell? ⟨w.heap.size + 1, 6, none⟩ = some (.slice none 0 0)) 99 ?_
          refine anyZ_takeT (i := 0) (t := 31) (v := ?_) (T := ?_) ?ht rfl rfl (by kernel_rfl) (by kernel_rfl) (by kernel_rfl) (by kernel_rfl) (fun _ _ _ h => h) (by kernel_rfl) ?hy hS ?_
          case hy => intro w hSw; (try dsimp only at hSw); go_simp; try with_reducible rfl
          case ht => go_simp; try with_reducible rfl
          refine anyZ_takeT (i := 1) (t := 32) (v := ?_) (T := ?_) ?ht rfl rfl (by kernel_rfl) (by kernel_rfl) (by kernel_rfl) (by kernel_rfl) (fun _ _ _ h => h) (by kernel_rfl) ?hy hS ?_
          case hy => intro w hSw; (try dsimp only at hSw); go_simp; try with_reducible rfl
          case ht => go_simp; try with_reducible rfl
          refine anyZ_takeT (i := 2) (t := 33) (v := ?_) (T := ?_) ?ht rfl rfl (by kernel_rfl) (by kernel_rfl) (by kernel_rfl) (by kernel_rfl) (fun _ _ _ h => h) (by kernel_rfl) ?hy hS ?_
          case hy => intro w hSw; (try dsimp only at hSw); go_simp; try with_reducible rfl
          case ht => go_simp; try with_reducible rfl
          refine anyZ_takeT (i := 3) (t := 34) (v := ?_) (T := ?_) ?ht rfl rfl (by kernel_rfl) (by kernel_rfl) (by kernel_rfl) (by kernel_rfl) (fun _ _ _ h => h) (by kernel_rfl) ?hy hS ?_
          case hy => intro w hSw; (try dsimp only at hSw); go_simp; try with_reducible rfl
          case ht => go_simp; try with_reducible rfl
          refine anyZ_takeT (i := 4) (t := 35) (v := ?_) (T := ?_) ?ht rfl rfl (by kernel_rfl) (by kernel_rfl) (by kernel_rfl) (by kernel_rfl) (fun _ _ _ h => h) (by kernel_rfl) ?hy hS ?_
          case hy => intro w hSw; (try dsimp only at hSw); go_simp; try with_reducible rfl
          case ht => go_simp; try with_reducible rfl
          refine anyZ_takeT (i := 5) (t := 36) (v := ?_) (T := ?_) ?ht rfl rfl (by kernel_rfl) (by kernel_rfl) (by kernel_rfl) (by kernel_rfl) (fun _ _ _ h => h) (by kernel_rfl) ?hy hS ?_
          case hy => intro w hSw; (try dsimp only at hSw); go_simp; try with_reducible rfl
          case ht => go_simp; try with_reducible rfl
          refine anyZ_skipT (i := 6) (t := 37) (T := ?_) ?ht rfl rfl (by kernel_rfl) (by kernel_rfl) (by kernel_rfl) (by kernel_rfl) (fun _ _ _ h => h) (by kernel_rfl) hS ?_
          case ht => go_simp; try with_reducible rfl
          refine anyZ_skipT (i := 7) (t := 38) (T := ?_) ?ht rfl rfl (by kernel_rfl) (by kernel_rfl) (by kernel_rfl) (by kernel_rfl) (fun _ _ _ h => h) (by kernel_rfl) hS ?_
          case ht => go_simp; try with_reducible rfl
          refine anyZ_skipT (i := 8) (t := 39) (T := ?_) ?ht rfl rfl (by kernel_rfl) (by kernel_rfl) (by kernel_rfl) (by kernel_rfl) (fun _ _ _ h => h) (by kernel_rfl) hS ?_
          case ht => go_simp; try with_reducible rfl
          refine anyZ_skipT (i := 9) (t := 40) (T := ?_) ?ht rfl rfl (by kernel_rfl) (by kernel_rfl) (by kernel_rfl) (by kernel_rfl) (fun _ _ _ h => h) (by kernel_rfl) hS ?_
          case ht => go_simp; try with_reducible rfl
          refine anyZ_skipT (i := 10) (t := 41) (T := ?_) ?ht rfl rfl (by kernel_rfl) (by kernel_rfl) (by kernel_rfl) (by kernel_rfl) (fun _ _ _ h => h) (by kernel_rfl) hS ?_
          case ht => go_simp; try with_reducible rfl
          refine anyZ_skipT (i := 11) (t := 42) (T := ?_) ?ht rfl rfl (by kernel_rfl) (by kernel_rfl) (by kernel_rfl) (by kernel_rfl) (fun _ _ _ h => h) (by kernel_rfl) hS ?_
          case ht => go_simp; try with_reducible rfl
          refine anyZ_takeT (i := 12) (t := 43) (v := ?_) (T := ?_) ?ht rfl rfl (by kernel_rfl) (by kernel_rfl) (by kernel_rfl) (by kernel_rfl) (fun _ _ _ h => h) (by kernel_rfl) ?hy hS ?_
          case hy => intro w hSw; (try dsimp only at hSw); go_simp; try with_reducible rfl
          case ht => go_simp; try with_reducible rfl
          refine anyZ_takeT (i := 13) (t := 44) (v := ?_) (T := ?_) ?ht rfl rfl (by kernel_rfl) (by kernel_rfl) (by kernel_rfl) (by kernel_rfl) (fun _ _ _ h => h) (by kernel_rfl) ?hy hS ?_
          case hy => intro w hSw; (try dsimp only at hSw); go_simp; try with_reducible rfl
          case ht => go_simp; try with_reducible rfl
          refine anyZ_skipT (i := 14) (t := 45) (T := ?_) ?ht rfl rfl (by kernel_rfl) (by kernel_rfl) (by kernel_rfl) (by kernel_rfl) (fun _ _ _ h => h) (by kernel_rfl) hS ?_
          case ht => go_simp; try with_reducible rfl
          refine anyZ_skipT (i := 15) (t := 46) (T := ?_) ?ht rfl rfl (by kernel_rfl) (by kernel_rfl) (by kernel_rfl) (by kernel_rfl) (fun _ _ _ h => h) (by kernel_rfl) hS ?_
          case ht => go_simp; try with_reducible rfl
          refine anyZ_skipT (i := 16) (t := 47) (T := ?_) ?ht rfl rfl (by kernel_rfl) (by kernel_rfl) (by kernel_rfl) (by kernel_rfl) (fun _ _ _ h => h) (by kernel_rfl) hS ?_
          case ht => go_simp; try with_reducible rfl
          refine anyZ_takeT (i := 17) (t := 48) (v := ?_) (T := ?_) ?ht rfl rfl (by kernel_rfl) (by kernel_rfl) (by kernel_rfl) (by kernel_rfl) (fun _ _ _ h => h) (by kernel_rfl) ?hy hS ?_
          case hy => intro w hSw; (try dsimp only at hSw); go_simp; try with_reducible rfl
          case ht => go_simp; try with_reducible rfl
          refine anyZ_takeT (i := 18) (t := 49) (v := ?_) (T := ?_) ?ht rfl rfl (by kernel_rfl) (by kernel_rfl) (by kernel_rfl) (by kernel_rfl) (fun _ _ _ h => h) (by kernel_rfl) ?hy hS ?_
          case hy => intro w hSw; (try dsimp only at hSw); go_simp; try with_reducible rfl
          case ht => go_simp; try with_reducible rfl
          refine anyZ_skipT (i := 19) (t := 50) (T := ?_) ?ht rfl rfl (by kernel_rfl) (by kernel_rfl) (by kernel_rfl) (by kernel_rfl) (fun _ _ _ h => h) (by kernel_rfl) hS ?_
          case ht => go_simp; try with_reducible rfl
          refine anyZ_skipT (i := 20) (t := 51) (T := ?_) ?ht rfl rfl (by kernel_rfl) (by kernel_rfl) (by kernel_rfl) (by kernel_rfl) (fun _ _ _ h => h) (by kernel_rfl) hS ?_
          case ht => go_simp; try with_reducible rfl
          refine anyZ_skipT (i := 21) (t := 52) (T := ?_) ?ht rfl rfl (by kernel_rfl) (by kernel_rfl) (by kernel_rfl) (by kernel_rfl) (fun _ _ _ h => h) (by kernel_rfl) hS ?_
          case ht => go_simp; try with_reducible rfl
          refine anyZ_takeT (i := 22) (t := 53) (v := ?_) (T := ?_) ?ht rfl rfl (by kernel_rfl) (by kernel_rfl) (by kernel_rfl) (by kernel_rfl) (fun _ _ _ h => h) (by kernel_rfl) ?hy hS ?_
          case hy => intro w hSw; (try dsimp only at hSw); go_simp; try with_reducible rfl
          case ht => go_simp; try with_reducible rfl
          refine anyZ_takeT (i := 23) (t := 54) (v := ?_) (T := ?_) ?ht rfl rfl (by kernel_rfl) (by kernel_rfl) (by kernel_rfl) (by kernel_rfl) (fun _ _ _ h => h) (by kernel_rfl) ?hy hS ?_
          case hy => intro w hSw; (try dsimp only at hSw); go_simp; try with_reducible rfl
          case ht => go_simp; try with_reducible rfl
          refine anyZ_skipT (i := 24) (t := 55) (T := ?_) ?ht rfl rfl (by kernel_rfl) (by kernel_rfl) (by kernel_rfl) (by kernel_rfl) (fun _ _ _ h => h) (by kernel_rfl) hS ?_
          case ht => go_simp; try with_reducible rfl
          refine anyZ_skipT (i := 25) (t := 56) (T := ?_) ?ht rfl rfl (by kernel_rfl) (by kernel_rfl) (by kernel_rfl) (by kernel_rfl) (fun _ _ _ h => h) (by kernel_rfl) hS ?_
          case ht => go_simp; try with_reducible rfl
          refine anyZ_skipT (i := 26) (t := 57) (T := ?_) ?ht rfl rfl (by kernel_rfl) (by kernel_rfl) (by kernel_rfl) (by kernel_rfl) (fun _ _ _ h => h) (by kernel_rfl) hS ?_
          case ht => go_simp; try with_reducible rfl
          refine anyZ_takeT (i := 27) (t := 58) (v := ?_) (T := ?_) ?ht rfl rfl (by kernel_rfl) (by kernel_rfl) (by kernel_rfl) (by kernel_rfl) (fun _ _ _ h => h) (by kernel_rfl) ?hy hS ?_
          case hy => intro w hSw; (try dsimp only at hSw); go_simp; try with_reducible rfl
          case ht => go_simp; try with_reducible rfl
          obtain ⟨hend, hbe, hm9⟩ := HE.out
          obtain ⟨t0, t1, t2, t3, t4, t5, t6⟩ := cells7 hm9
          obtain ⟨r0, r1, r2, r3, r4, r5, r6⟩ := cells7 hend
          have hS9 := And.intro t0 (And.intro t1 (And.intro t2 (And.intro t3 (And.intro t4 (And.intro t5 t6)))))
          refine anyZ_one (i := 28) (by kernel_rfl) rfl (fun K hK => ?_)
          go_simp
          refine hK _ _ (fun _ => hS9) ?_
          clear hK K
          refine anyZ_takeT (i := 29) (t := 3) (v := ?_) (T := ?_) ?ht rfl rfl (by kernel_rfl) (by kernel_rfl) (by kernel_rfl) (by kernel_rfl) (fun _ _ _ h => h) (by kernel_rfl) ?hy hS9 ?_
          case hy => intro w hSw; (try dsimp only at hSw); go_simp; try with_reducible rfl
          case ht => go_simp; try with_reducible rfl
          refine anyZ_done (by kernel_rfl) ?_ _
          go_wp2
          exact bodyPost_ret (v := .tuple #[.agg #[.int .i64 A, .int .i64 B, .int .i64 (byteAt b 9 : Nat), .int .i64 (byteAt b 8 : Nat), .bool (decide (byteAt b 12 = 1)), .slice none 0 0, .slice none 0 0], .bool false]) (by simp [results, Tryz.results36, go_sem, r0, r1, r2, r3, r4, r5, r6]) rfl (EndsHR.no (h := ⟨A, B, byteAt b 9, byteAt b 8, decide (byteAt b 12 = 1)⟩) HNO.out hbe)
        · by_cases hch : CH = 0
          · have HNO : Hid (hdOk b = false) := by show _ = _; rw [HOK.out, hch]; simp
            have hgt : ¬ (0 < CH) := by omega
            have hdc : decide (0 < CH) = false := decide_eq_false hgt
            have hle0 : CH ≤ 0 := by omega
            clear hch
            go_wp2
            have hS : w'.drew.cell? ⟨w.heap.size + 1, 0, none⟩ = some (.int .i64 A) ∧ w'.drew.cell? ⟨w.heap.size + 1, 1, none⟩ = some (.int .i64 B) ∧ w'.drew.cell? ⟨w.heap.size + 1, 2, none⟩ = some (.int .i64 (byteAt b 9 : Nat)) ∧ w'.drew.cell? ⟨w.heap.size + 1, 3, none⟩ = some (.int .i64 (byteAt b 8 : Nat)) ∧ w'.drew.cell? ⟨w.heap.size + 1, 4, none⟩ = some (.bool (decide (byteAt b 12 = 1))) ∧ w'.drew.cell? ⟨w.heap.size + 1, 5, none⟩ = some (.slice none 0 0) ∧ w'.drew.cell? ⟨w.heap.size + 1, 6, none⟩ = some (.slice none 0 0) := ⟨y0, y1, y2, y3, y4, y5, y6⟩
            refine regionZ (by kernel_rfl) (fun u => u.cell? ⟨w.heap.size + 1, 0, none⟩ = some (.int .i64 A) ∧ u.cell? ⟨w.heap.size + 1, 1, none⟩ = some (.int .i64 B) ∧ u.cell? ⟨w.heap.size + 1, 2, none⟩ = some (.int .i64 (byteAt b 9 : Nat)) ∧ u.cell? ⟨w.heap.size + 1, 3, none⟩ = some (.int .i64 (byteAt b 8 : Nat)) ∧ u.cell? ⟨w.heap.size + 1, 4, none⟩ = some (.bool (decide (byteAt b 12 = 1))) ∧ u.cell? ⟨w.heap.size + 1, 5, none⟩ = some (.slice none 0 0) ∧ u.cell? ⟨w.heap.size + 1, 6, none⟩ = some (.slice none 0 0)) 99 ?_
            refine anyZ_takeT (i := 0) (t := 31) (v := ?_) (T := ?_) ?ht rfl rfl (by kernel_rfl) (by kernel_rfl) (by kernel_rfl) (by kernel_rfl) (fun _ _ _ h => h) (by kernel_rfl) ?hy hS ?_
            case hy => intro w hSw; (try dsimp only at hSw); go_simp; try with_reducible rfl
            case ht => go_simp; try with_reducible rfl
            refine anyZ_takeT (i := 1) (t := 32) (v := ?_) (T := ?_) ?ht rfl rfl (by kernel_rfl) (by kernel_rfl) (by kernel_rfl) (by kernel_rfl) (fun _ _ _ h => h) (by kernel_rfl) ?hy hS ?_
            case hy => intro w hSw; (try dsimp only at hSw); go_simp; try with_reducible rfl
            case ht => go_simp; try with_reducible rfl
            refine anyZ_takeT (i := 2) (t := 33) (v := ?_) (T := ?_) ?ht rfl rfl (by kernel_rfl) (by kernel_rfl) (by kernel_rfl) (by kernel_rfl) (fun _ _ _ h => h) (by kernel_rfl) ?hy hS ?_
            case hy => intro w hSw; (try dsimp only at hSw); go_simp; try with_reducible rfl
            case ht => go_simp; try with_reducible rfl
            refine anyZ_takeT (i := 3) (t := 34) (v := ?_) (T := ?_) ?ht rfl rfl (by kernel_rfl) (by kernel_rfl) (by kernel_rfl) (by kernel_rfl) (fun _ _ _ h => h) (by kernel_rfl) ?hy hS ?_
            case hy => intro w hSw; (try dsimp only at hSw); go_simp; try with_reducible rfl
            case ht => go_simp; try with_reducible rfl
            refine anyZ_takeT (i := 4) (t := 35) (v := ?_) (T := ?_) ?ht rfl rfl (by kernel_rfl) (by kernel_rfl) (by kernel_rfl) (by kernel_rfl) (fun _ _ _ h => h) (by kernel_rfl) ?hy hS ?_
            case hy => intro w hSw; (try dsimp only at hSw); go_simp; try with_reducible rfl
            case ht => go_simp; try with_reducible rfl
            refine anyZ_takeT (i := 5) (t := 36) (v := ?_) (T := ?_) ?ht rfl rfl (by kernel_rfl) (by kernel_rfl) (by kernel_rfl) (by kernel_rfl) (fun _ _ _ h => h) (by kernel_rfl) ?hy hS ?_
            case hy => intro w hSw; (try dsimp only at hSw); go_simp; try with_reducible rfl
            case ht => go_simp; try with_reducible rfl
            refine anyZ_takeT (i := 6) (t := 37) (v := ?_) (T := ?_) ?ht rfl rfl (by kernel_rfl) (by kernel_rfl) (by kernel_rfl) (by kernel_rfl) (fun _ _ _ h => h) (by kernel_rfl) ?hy hS ?_
            case hy => intro w hSw; (try dsimp only at hSw); go_simp; try with_reducible rfl
            case ht => go_simp; try with_reducible rfl
            refine anyZ_takeT (i := 7) (t := 38) (v := ?_) (T := ?_) ?ht rfl rfl (by kernel_rfl) (by kernel_rfl) (by kernel_rfl) (by kernel_rfl) (fun _ _ _ h => h) (by kernel_rfl) ?hy hS ?_
            case hy => intro w hSw; (try dsimp only at hSw); go_simp; try with_reducible rfl
            case ht => go_simp; try with_reducible rfl
            refine anyZ_takeT (i := 8) (t := 39) (v := ?_) (T := ?_) ?ht rfl rfl (by kernel_rfl) (by kernel_rfl) (by kernel_rfl) (by kernel_rfl) (fun _ _ _ h => h) (by kernel_rfl) ?hy hS ?_
            case hy => intro w hSw; (try dsimp only at hSw); go_simp; try with_reducible rfl
            case ht => go_simp; try with_reducible rfl
            refine anyZ_takeT (i := 9) (t := 40) (v := ?_) (T := ?_) ?ht rfl rfl (by kernel_rfl) (by kernel_rfl) (by kernel_rfl) (by kernel_rfl) (fun _ _ _ h => h) (by kernel_rfl) ?hy hS ?_
            case hy => intro w hSw; (try dsimp only at hSw); go_simp; try with_reducible rfl
            case ht => go_simp; try with_reducible rfl
            refine anyZ_one (i := 10) (by kernel_rfl) rfl (fun K hK => ?_)
            go_simp
            refine (hC _).mono ?_
            rintro e v1 ⟨rfl, hv1⟩
            subst v1
            refine hK _ _ (fun _ => hS) ?_
            clear hK K
            refine anyZ_takeT (i := 11) (t := 42) (v := ?_) (T := ?_) ?ht rfl rfl (by kernel_rfl) (by kernel_rfl) (by kernel_rfl) (by kernel_rfl) (fun _ _ _ h => h) (by kernel_rfl) ?hy hS ?_
            case hy => intro w hSw; (try dsimp only at hSw); go_simp; try with_reducible rfl
            case ht => go_simp; try with_reducible rfl
            refine anyZ_takeT (i := 12) (t := 43) (v := ?_) (T := ?_) ?ht rfl rfl (by kernel_rfl) (by kernel_rfl) (by kernel_rfl) (by kernel_rfl) (fun _ _ _ h => h) (by kernel_rfl) ?hy hS ?_
            case hy => intro w hSw; (try dsimp only at hSw); go_simp; try with_reducible rfl
            case ht => go_simp; try with_reducible rfl
            refine anyZ_takeT (i := 13) (t := 44) (v := ?_) (T := ?_) ?ht rfl rfl (by kernel_rfl) (by kernel_rfl) (by kernel_rfl) (by kernel_rfl) (fun _ _ _ h => h) (by kernel_rfl) ?hy hS ?_
            case hy => intro w hSw; (try dsimp only at hSw); go_simp; try with_reducible rfl
            case ht => go_simp; try with_reducible rfl
            refine anyZ_skipT (i := 14) (t := 45) (T := ?_) ?ht rfl rfl (by kernel_rfl) (by kernel_rfl) (by kernel_rfl) (by kernel_rfl) (fun _ _ _ h => h) (by kernel_rfl) hS ?_
            case ht => go_simp; try with_reducible rfl
            refine anyZ_skipT (i := 15) (t := 46) (T := ?_) ?ht rfl rfl (by kernel_rfl) (by kernel_rfl) (by kernel_rfl) (by kernel_rfl) (fun _ _ _ h => h) (by kernel_rfl) hS ?_
            case ht => go_simp; try with_reducible rfl
            refine anyZ_skipT (i := 16) (t := 47) (T := ?_) ?ht rfl rfl (by kernel_rfl) (by kernel_rfl) (by kernel_rfl) (by kernel_rfl) (fun _ _ _ h => h) (by kernel_rfl) hS ?_
            case ht => go_simp; try with_reducible rfl
            refine anyZ_takeT (i := 17) (t := 48) (v := ?_) (T := ?_) ?ht rfl rfl (by kernel_rfl) (by kernel_rfl) (by kernel_rfl) (by kernel_rfl) (fun _ _ _ h => h) (by kernel_rfl) ?hy hS ?_
            case hy => intro w hSw; (try dsimp only at hSw); go_simp; try with_reducible rfl
            case ht => go_simp; try with_reducible rfl
            refine anyZ_takeT (i := 18) (t := 49) (v := ?_) (T := ?_) ?ht rfl rfl (by kernel_rfl) (by kernel_rfl) (by kernel_rfl) (by kernel_rfl) (fun _ _ _ h => h) (by kernel_rfl) ?hy hS ?_
            case hy => intro w hSw; (try dsimp only at hSw); go_simp; try with_reducible rfl
            case ht => go_simp; try with_reducible rfl
            refine anyZ_skipT (i := 19) (t := 50) (T := ?_) ?ht rfl rfl (by kernel_rfl) (by kernel_rfl) (by kernel_rfl) (by kernel_rfl) (fun _ _ _ h => h) (by kernel_rfl) hS ?_
            case ht => go_simp; try with_reducible rfl
            refine anyZ_skipT (i := 20) (t := 51) (T := ?_) ?ht rfl rfl (by kernel_rfl) (by kernel_rfl) (by kernel_rfl) (by kernel_rfl) (fun _ _ _ h => h) (by kernel_rfl) hS ?_
            case ht => go_simp; try with_reducible rfl
            refine anyZ_skipT (i := 21) (t := 52) (T := ?_) ?ht rfl rfl (by kernel_rfl) (by kernel_rfl) (by kernel_rfl) (by kernel_rfl) (fun _ _ _ h => h) (by kernel_rfl) hS ?_
            case ht => go_simp; try with_reducible rfl
            refine anyZ_takeT (i := 22) (t := 53) (v := ?_) (T := ?_) ?ht rfl rfl (by kernel_rfl) (by kernel_rfl) (by kernel_rfl) (by kernel_rfl) (fun _ _ _ h => h) (by kernel_rfl) ?hy hS ?_
            case hy => intro w hSw; (try dsimp only at hSw); go_simp; try with_reducible rfl
            case ht => go_simp; try with_reducible rfl
            refine anyZ_takeT (i := 23) (t := 54) (v := ?_) (T := ?_) ?ht rfl rfl (by kernel_rfl) (by kernel_rfl) (by kernel_rfl) (by kernel_rfl) (fun _ _ _ h => h) (by kernel_rfl) ?hy hS ?_
            case hy => intro w hSw; (try dsimp only at hSw); go_simp; try with_reducible rfl
            case ht => go_simp; try with_reducible rfl
            refine anyZ_skipT (i := 24) (t := 55) (T := ?_) ?ht rfl rfl (by kernel_rfl) (by kernel_rfl) (by kernel_rfl) (by kernel_rfl) (fun _ _ _ h => h) (by kernel_rfl) hS ?_
            case ht => go_simp; try with_reducible rfl
            refine anyZ_skipT (i := 25) (t := 56) (T := ?_) ?ht rfl rfl (by kernel_rfl) (by kernel_rfl) (by kernel_rfl) (by kernel_rfl) (fun _ _ _ h => h) (by kernel_rfl) hS ?_
            case ht => go_simp; try with_reducible rfl
            refine anyZ_skipT (i := 26) (t := 57) (T := ?_) ?ht rfl rfl (by kernel_rfl) (by kernel_rfl) (by kernel_rfl) (by kernel_rfl) (fun _ _ _ h => h) (by kernel_rfl) hS ?_
            case ht => go_simp; try with_reducible rfl
            refine anyZ_takeT (i := 27) (t := 58) (v := ?_) (T := ?_) ?ht rfl rfl (by kernel_rfl) (by kernel_rfl) (by kernel_rfl) (by kernel_rfl) (fun _ _ _ h => h) (by kernel_rfl) ?hy hS ?_
            case hy => intro w hSw; (try dsimp only at hSw); go_simp; try with_reducible rfl
            case ht => go_simp; try with_reducible rfl
            obtain ⟨hend, hbe, hm9⟩ := HE.out
            obtain ⟨t0, t1, t2, t3, t4, t5, t6⟩ := cells7 hm9
            obtain ⟨r0, r1, r2, r3, r4, r5, r6⟩ := cells7 hend
            have hS9 := And.intro t0 (And.intro t1 (And.intro t2 (And.intro t3 (And.intro t4 (And.intro t5 t6)))))
            refine anyZ_one (i := 28) (by kernel_rfl) rfl (fun K hK => ?_)
            go_simp
            refine hK _ _ (fun _ => hS9) ?_
            clear hK K
            refine anyZ_takeT (i := 29) (t := 3) (v := ?_) (T := ?_) ?ht rfl rfl (by kernel_rfl) (by kernel_rfl) (by kernel_rfl) (by kernel_rfl) (fun _ _ _ h => h) (by kernel_rfl) ?hy hS9 ?_
            case hy => intro w hSw; (try dsimp only at hSw); go_simp; try with_reducible rfl
            case ht => go_simp; try with_reducible rfl
            refine anyZ_done (by kernel_rfl) ?_ _
            go_wp2
            exact bodyPost_ret (v := .tuple #[.agg #[.int .i64 A, .int .i64 B, .int .i64 (byteAt b 9 : Nat), .int .i64 (byteAt b 8 : Nat), .bool (decide (byteAt b 12 = 1)), .slice none 0 0, .slice none 0 0], .bool false]) (by simp [results, Tryz.results36, go_sem, r0, r1, r2, r3, r4, r5, r6]) rfl (EndsHR.no (h := ⟨A, B, byteAt b 9, byteAt b 8, decide (byteAt b 12 = 1)⟩) HNO.out hbe)
          · have hgt : 0 < CH := by omega
            have hdc : decide (0 < CH) = true := decide_eq_true hgt
            have hch0 : ¬ CH = 0 := hch
            rcases c10 with _ | _
            · have HNO : Hid (hdOk b = false) := by show _ = _; rw [HOK.out]; simp
              go_wp2
              have hS : w'.drew.cell? ⟨w.heap.size + 1, 0, none⟩ = some (.int .i64 A) ∧ w'.drew.cell? ⟨w.heap.size + 1, 1, none⟩ = some (.int .i64 B) ∧ w'.drew.cell? ⟨w.heap.size + 1, 2, none⟩ = some (.int .i64 (byteAt b 9 : Nat)) ∧ w'.drew.cell? ⟨w.heap.size + 1, 3, none⟩ = some (.int .i64 (byteAt b 8 : Nat)) ∧ w'.drew.cell? ⟨w.heap.size + 1, 4, none⟩ = some (.bool (decide (byteAt b 12 = 1))) ∧ w'.drew.cell? ⟨w.heap.size + 1, 5, none⟩ = some (.slice none 0 0) ∧ w'.drew.cell? ⟨w.heap.size + 1, 6, none⟩ = some (.slice none 0 0) := ⟨y0, y1, y2, y3, y4, y5, y6⟩
              refine regionZ (by kernel_rfl) (fun u => u.cell? ⟨w.heap.size + 1, 0, none⟩ = some (.int .i64 A) ∧ u.cell? ⟨w.heap.size + 1, 1, none⟩ = some (.int .i64 B) ∧ u.cell? ⟨w.heap.size + 1, 2, none⟩ = some (.int .i64 (byteAt b 9 : Nat)) ∧ u.cell? ⟨w.heap.size + 1, 3, none⟩ = some (.int .i64 (byteAt b 8 : Nat)) ∧ u.cell? ⟨w.heap.size + 1, 4, none⟩ = some (.bool (decide (byteAt b 12 = 1))) ∧ u.cell? ⟨w.heap.size + 1, 5, none⟩ = some (.slice none 0 0) ∧ u.cell? ⟨w.heap.size + 1, 6, none⟩ = some (.slice none 0 0)) 99 ?_
              refine anyZ_takeT (i := 0) (t := 31) (v := ?_) (T := ?_) ?ht rfl rfl (by kernel_rfl) (by kernel_rfl) (by kernel_rfl) (by kernel_rfl) (fun _ _ _ h => h) (by kernel_rfl) ?hy hS ?_
              case hy => intro w hSw; (try dsimp only at hSw); go_simp; try with_reducible rfl
              case ht => go_simp; try with_reducible rfl
              refine anyZ_takeT (i := 1) (t := 32) (v := ?_) (T := ?_) ?ht rfl rfl (by kernel_rfl) (by kernel_rfl) (by kernel_rfl) (by kernel_rfl) (fun _ _ _ h => h) (by kernel_rfl) ?hy hS ?_
              case hy => intro w hSw; (try dsimp only at hSw); go_simp; try with_reducible rfl
              case ht => go_simp; try with_reducible rfl
              refine anyZ_takeT (i := 2) (t := 33) (v := ?_) (T := ?_) ?ht rfl rfl (by kernel_rfl) (by kernel_rfl) (by kernel_rfl) (by kernel_rfl) (fun _ _ _ h => h) (by kernel_rfl) ?hy hS ?_
              case hy => intro w hSw; (try dsimp only at hSw); go_simp; try with_reducible rfl
              case ht => go_simp; try with_reducible rfl
              refine anyZ_takeT (i := 3) (t := 34) (v := ?_) (T := ?_) ?ht rfl rfl (by kernel_rfl) (by kernel_rfl) (by kernel_rfl) (by kernel_rfl) (fun _ _ _ h => h) (by kernel_rfl) ?hy hS ?_
              case hy => intro w hSw; (try dsimp only at hSw); go_simp; try with_reducible rfl
              case ht => go_simp; try with_reducible rfl
              refine anyZ_takeT (i := 4) (t := 35) (v := ?_) (T := ?_) ?ht rfl rfl (by kernel_rfl) (by kernel_rfl) (by kernel_rfl) (by kernel_rfl) (fun _ _ _ h => h) (by kernel_rfl) ?hy hS ?_
              case hy => intro w hSw; (try dsimp only at hSw); go_simp; try with_reducible rfl
              case ht => go_simp; try with_reducible rfl
              refine anyZ_takeT (i := 5) (t := 36) (v := ?_) (T := ?_) ?ht rfl rfl (by kernel_rfl) (by kernel_rfl) (by kernel_rfl) (by kernel_rfl) (fun _ _ _ h => h) (by kernel_rfl) ?hy hS ?_
              case hy => intro w hSw; (try dsimp only at hSw); go_simp; try with_reducible rfl
              case ht => go_simp; try with_reducible rfl
              refine anyZ_takeT (i := 6) (t := 37) (v := ?_) (T := ?_) ?ht rfl rfl (by kernel_rfl) (by kernel_rfl) (by kernel_rfl) (by kernel_rfl) (fun _ _ _ h => h) (by kernel_rfl) ?hy hS ?_
              case hy => intro w hSw; (try dsimp only at hSw); go_simp; try with_reducible rfl
              case ht => go_simp; try with_reducible rfl
              refine anyZ_takeT (i := 7) (t := 38) (v := ?_) (T := ?_) ?ht rfl rfl (by kernel_rfl) (by kernel_rfl) (by kernel_rfl) (by kernel_rfl) (fun _ _ _ h => h) (by kernel_rfl) ?hy hS ?_
              case hy => intro w hSw; (try dsimp only at hSw); go_simp; try with_reducible rfl
              case ht => go_simp; try with_reducible rfl
              refine anyZ_takeT (i := 8) (t := 39) (v := ?_) (T := ?_) ?ht rfl rfl (by kernel_rfl) (by kernel_rfl) (by kernel_rfl) (by kernel_rfl) (fun _ _ _ h => h) (by kernel_rfl) ?hy hS ?_
              case hy => intro w hSw; (try dsimp only at hSw); go_simp; try with_reducible rfl
              case ht => go_simp; try with_reducible rfl
              refine anyZ_takeT (i := 9) (t := 40) (v := ?_) (T := ?_) ?ht rfl rfl (by kernel_rfl) (by kernel_rfl) (by kernel_rfl) (by kernel_rfl) (fun _ _ _ h => h) (by kernel_rfl) ?hy hS ?_
              case hy => intro w hSw; (try dsimp only at hSw); go_simp; try with_reducible rfl
              case ht => go_simp; try with_reducible rfl
              refine anyZ_one (i := 10) (by kernel_rfl) rfl (fun K hK => ?_)
              go_simp
              refine (hC _).mono ?_
              rintro e v1 ⟨rfl, hv1⟩
              subst v1
              refine hK _ _ (fun _ => hS) ?_
              clear hK K
              refine anyZ_takeT (i := 11) (t := 42) (v := ?_) (T := ?_) ?ht rfl rfl (by kernel_rfl) (by kernel_rfl) (by kernel_rfl) (by kernel_rfl) (fun _ _ _ h => h) (by kernel_rfl) ?hy hS ?_
              case hy => intro w hSw; (try dsimp only at hSw); go_simp; try with_reducible rfl
              case ht => go_simp; try with_reducible rfl
              refine anyZ_takeT (i := 12) (t := 43) (v := ?_) (T := ?_) ?ht rfl rfl (by kernel_rfl) (by kernel_rfl) (by kernel_rfl) (by kernel_rfl) (fun _ _ _ h => h) (by kernel_rfl) ?hy hS ?_
              case hy => intro w hSw; (try dsimp only at hSw); go_simp; try with_reducible rfl
              case ht => go_simp; try with_reducible rfl
              refine anyZ_takeT (i := 13) (t := 44) (v := ?_) (T := ?_) ?ht rfl rfl (by kernel_rfl) (by kernel_rfl) (by kernel_rfl) (by kernel_rfl) (fun _ _ _ h => h) (by kernel_rfl) ?hy hS ?_
              case hy => intro w hSw; (try dsimp only at hSw); go_simp; try with_reducible rfl
              case ht => go_simp; try with_reducible rfl
              refine anyZ_takeT (i := 14) (t := 45) (v := ?_) (T := ?_) ?ht rfl rfl (by kernel_rfl) (by kernel_rfl) (by kernel_rfl) (by kernel_rfl) (fun _ _ _ h => h) (by kernel_rfl) ?hy hS ?_
              case hy => intro w hSw; (try dsimp only at hSw); go_simp; try with_reducible rfl
              case ht => go_simp; try with_reducible rfl
              refine anyZ_takeT (i := 15) (t := 46) (v := ?_) (T := ?_) ?ht rfl rfl (by kernel_rfl) (by kernel_rfl) (by kernel_rfl) (by kernel_rfl) (fun _ _ _ h => h) (by kernel_rfl) ?hy hS ?_
              case hy => intro w hSw; (try dsimp only at hSw); go_simp; try with_reducible rfl
              case ht => go_simp; try with_reducible rfl
              refine anyZ_takeT (i := 16) (t := 47) (v := ?_) (T := ?_) ?ht rfl rfl (by kernel_rfl) (by kernel_rfl) (by kernel_rfl) (by kernel_rfl) (fun _ _ _ h => h) (by kernel_rfl) ?hy hS ?_
              case hy => intro w hSw; (try dsimp only at hSw); go_simp; try with_reducible rfl
              case ht => go_simp; try with_reducible rfl
              refine anyZ_takeT (i := 17) (t := 48) (v := ?_) (T := ?_) ?ht rfl rfl (by kernel_rfl) (by kernel_rfl) (by kernel_rfl) (by kernel_rfl) (fun _ _ _ h => h) (by kernel_rfl) ?hy hS ?_
              case hy => intro w hSw; (try dsimp only at hSw); go_simp; try with_reducible rfl
              case ht => go_simp; try with_reducible rfl
              refine anyZ_takeT (i := 18) (t := 49) (v := ?_) (T := ?_) ?ht rfl rfl (by kernel_rfl) (by kernel_rfl) (by kernel_rfl) (by kernel_rfl) (fun _ _ _ h => h) (by kernel_rfl) ?hy hS ?_
              case hy => intro w hSw; (try dsimp only at hSw); go_simp; try with_reducible rfl
              case ht => go_simp; try with_reducible rfl
              refine anyZ_skipT (i := 19) (t := 50) (T := ?_) ?ht rfl rfl (by kernel_rfl) (by kernel_rfl) (by kernel_rfl) (by kernel_rfl) (fun _ _ _ h => h) (by kernel_rfl) hS ?_
              case ht => go_simp; try with_reducible rfl
              refine anyZ_skipT (i := 20) (t := 51) (T := ?_) ?ht rfl rfl (by kernel_rfl) (by kernel_rfl) (by kernel_rfl) (by kernel_rfl) (fun _ _ _ h => h) (by kernel_rfl) hS ?_
              case ht => go_simp; try with_reducible rfl
              refine anyZ_skipT (i := 21) (t := 52) (T := ?_) ?ht rfl rfl (by kernel_rfl) (by kernel_rfl) (by kernel_rfl) (by kernel_rfl) (fun _ _ _ h => h) (by kernel_rfl) hS ?_
              case ht => go_simp; try with_reducible rfl
              refine anyZ_takeT (i := 22) (t := 53) (v := ?_) (T := ?_) ?ht rfl rfl (by kernel_rfl) (by kernel_rfl) (by kernel_rfl) (by kernel_rfl) (fun _ _ _ h => h) (by kernel_rfl) ?hy hS ?_
              case hy => intro w hSw; (try dsimp only at hSw); go_simp; try with_reducible rfl
              case ht => go_simp; try with_reducible rfl
              refine anyZ_takeT (i := 23) (t := 54) (v := ?_) (T := ?_) ?ht rfl rfl (by kernel_rfl) (by kernel_rfl) (by kernel_rfl) (by kernel_rfl) (fun _ _ _ h => h) (by kernel_rfl) ?hy hS ?_
              case hy => intro w hSw; (try dsimp only at hSw); go_simp; try with_reducible rfl
              case ht => go_simp; try with_reducible rfl
              refine anyZ_skipT (i := 24) (t := 55) (T := ?_) ?ht rfl rfl (by kernel_rfl) (by kernel_rfl) (by kernel_rfl) (by kernel_rfl) (fun _ _ _ h => h) (by kernel_rfl) hS ?_
              case ht => go_simp; try with_reducible rfl
              refine anyZ_skipT (i := 25) (t := 56) (T := ?_) ?ht rfl rfl (by kernel_rfl) (by kernel_rfl) (by kernel_rfl) (by kernel_rfl) (fun _ _ _ h => h) (by kernel_rfl) hS ?_
              case ht => go_simp; try with_reducible rfl
              refine anyZ_skipT (i := 26) (t := 57) (T := ?_) ?ht rfl rfl (by kernel_rfl) (by kernel_rfl) (by kernel_rfl) (by kernel_rfl) (fun _ _ _ h => h) (by kernel_rfl) hS ?_
              case ht => go_simp; try with_reducible rfl
              refine anyZ_takeT (i := 27) (t := 58) (v := ?_) (T := ?_) ?ht rfl rfl (by kernel_rfl) (by kernel_rfl) (by kernel_rfl) (by kernel_rfl) (fun _ _ _ h => h) (by kernel_rfl) ?hy hS ?_
              case hy => intro w hSw; (try dsimp only at hSw); go_simp; try with_reducible rfl
              case ht => go_simp; try with_reducible rfl
              obtain ⟨hend, hbe, hm9⟩ := HE.out
              obtain ⟨t0, t1, t2, t3, t4, t5, t6⟩ := cells7 hm9
              obtain ⟨r0, r1, r2, r3, r4, r5, r6⟩ := cells7 hend
              have hS9 := And.intro t0 (And.intro t1 (And.intro t2 (And.intro t3 (And.intro t4 (And.intro t5 t6)))))
              refine anyZ_one (i := 28) (by kernel_rfl) rfl (fun K hK => ?_)
              go_simp
              refine hK _ _ (fun _ => hS9) ?_
              clear hK K
              refine anyZ_takeT (i := 29) (t := 3) (v := ?_) (T := ?_) ?ht rfl rfl (by kernel_rfl) (by kernel_rfl) (by kernel_rfl) (by kernel_rfl) (fun _ _ _ h => h) (by kernel_rfl) ?hy hS9 ?_
              case hy => intro w hSw; (try dsimp only at hSw); go_simp; try with_reducible rfl
              case ht => go_simp; try with_reducible rfl
              refine anyZ_done (by kernel_rfl) ?_ _
              go_wp2
              exact bodyPost_ret (v := .tuple #[.agg #[.int .i64 A, .int .i64 B, .int .i64 (byteAt b 9 : Nat), .int .i64 (byteAt b 8 : Nat), .bool (decide (byteAt b 12 = 1)), .slice none 0 0, .slice none 0 0], .bool false]) (by simp [results, Tryz.results36, go_sem, r0, r1, r2, r3, r4, r5, r6]) rfl (EndsHR.no (h := ⟨A, B, byteAt b 9, byteAt b 8, decide (byteAt b 12 = 1)⟩) HNO.out hbe)
            · rcases c11 with _ | _
              · have HNO : Hid (hdOk b = false) := by show _ = _; rw [HOK.out]; simp
                go_wp2
                have hS : w'.drew.cell? ⟨w.heap.size + 1, 0, none⟩ = some (.int .i64 A) ∧ w'.drew.cell? ⟨w.heap.size + 1, 1, none⟩ = some (.int .i64 B) ∧ w'.drew.cell? ⟨w.heap.size + 1, 2, none⟩ = some (.int .i64 (byteAt b 9 : Nat)) ∧ w'.drew.cell? ⟨w.heap.size + 1, 3, none⟩ = some (.int .i64 (byteAt b 8 : Nat)) ∧ w'.drew.cell? ⟨w.heap.size + 1, 4, none⟩ = some (.bool (decide (byteAt b 12 = 1))) ∧ w'.drew.cell? ⟨w.heap.size + 1, 5, none⟩ = some (.slice none 0 0) ∧ w'.drew.cell? ⟨w.heap.size + 1, 6, none⟩ = some (.slice none 0 0) := ⟨y0, y1, y2, y3, y4, y5, y6⟩
                refine regionZ (by kernel_rfl) (fun u => u.cell? ⟨w.heap.size + 1, 0, none⟩ = some (.int .i64 A) ∧ u.cell? ⟨w.heap.size + 1, 1, none⟩ = some (.int .i64 B) ∧ u.cell? ⟨w.heap.size + 1, 2, none⟩ = some (.int .i64 (byteAt b 9 : Nat)) ∧ u.cell? ⟨w.heap.size + 1, 3, none⟩ = some (.int .i64 (byteAt b 8 : Nat)) ∧ u.cell? ⟨w.heap.size + 1, 4, none⟩ = some (.bool (decide (byteAt b 12 = 1))) ∧ u.cell? ⟨w.heap.size + 1, 5, none⟩ = some (.slice none 0 0) ∧ u.cell? ⟨w.heap.size + 1, 6, none⟩ = some (.slice none 0 0)) 99 ?_
                refine anyZ_takeT (i := 0) (t := 31) (v := ?_) (T := ?_) ?ht rfl rfl (by kernel_rfl) (by kernel_rfl) (by kernel_rfl) (by kernel_rfl) (fun _ _ _ h => h) (by kernel_rfl) ?hy hS ?_
                case hy => intro w hSw; (try dsimp only at hSw); go_simp; try with_reducible rfl
                case ht => go_simp; try with_reducible rfl
                refine anyZ_takeT (i := 1) (t := 32) (v := ?_) (T := ?_) ?ht rfl rfl (by kernel_rfl) (by kernel_rfl) (by kernel_rfl) (by kernel_rfl) (fun _ _ _ h => h) (by kernel_rfl) ?hy hS ?_
                case hy => intro w hSw; (try dsimp only at hSw); go_simp; try with_reducible rfl
                case ht => go_simp; try with_reducible rfl
                refine anyZ_takeT (i := 2) (t := 33) (v := ?_) (T := ?_) ?ht rfl rfl (by kernel_rfl) (by kernel_rfl) (by kernel_rfl) (by kernel_rfl) (fun _ _ _ h => h) (by kernel_rfl) ?hy hS ?_
                case hy => intro w hSw; (try dsimp only at hSw); go_simp; try with_reducible rfl
                case ht => go_simp; try with_reducible rfl
                refine anyZ_takeT (i := 3) (t := 34) (v := ?_) (T := ?_) ?ht rfl rfl (by kernel_rfl) (by kernel_rfl) (by kernel_rfl) (by kernel_rfl) (fun _ _ _ h => h) (by kernel_rfl) ?hy hS ?_
                case hy => intro w hSw; (try dsimp only at hSw); go_simp; try with_reducible rfl
                case ht => go_simp; try with_reducible rfl
                refine anyZ_takeT (i := 4) (t := 35) (v := ?_) (T := ?_) ?ht rfl rfl (by kernel_rfl) (by kernel_rfl) (by kernel_rfl) (by kernel_rfl) (fun _ _ _ h => h) (by kernel_rfl) ?hy hS ?_
                case hy => intro w hSw; (try dsimp only at hSw); go_simp; try with_reducible rfl
                case ht => go_simp; try with_reducible rfl
                refine anyZ_takeT (i := 5) (t := 36) (v := ?_) (T := ?_) ?ht rfl rfl (by kernel_rfl) (by kernel_rfl) (by kernel_rfl) (by kernel_rfl) (fun _ _ _ h => h) (by kernel_rfl) ?hy hS ?_
                case hy => intro w hSw; (try dsimp only at hSw); go_simp; try with_reducible rfl
                case ht => go_simp; try with_reducible rfl
                refine anyZ_takeT (i := 6) (t := 37) (v := ?_) (T := ?_) ?ht rfl rfl (by kernel_rfl) (by kernel_rfl) (by kernel_rfl) (by kernel_rfl) (fun _ _ _ h => h) (by kernel_rfl) ?hy hS ?_
                case hy => intro w hSw; (try dsimp only at hSw); go_simp; try with_reducible rfl
                case ht => go_simp; try with_reducible rfl
                refine anyZ_takeT (i := 7) (t := 38) (v := ?_) (T := ?_) ?ht rfl rfl (by kernel_rfl) (by kernel_rfl) (by kernel_rfl) (by kernel_rfl) (fun _ _ _ h => h) (by kernel_rfl) ?hy hS ?_
                case hy => intro w hSw; (try dsimp only at hSw); go_simp; try with_reducible rfl
                case ht => go_simp; try with_reducible rfl
                refine anyZ_takeT (i := 8) (t := 39) (v := ?_) (T := ?_) ?ht rfl rfl (by kernel_rfl) (by kernel_rfl) (by kernel_rfl) (by kernel_rfl) (fun _ _ _ h => h) (by kernel_rfl) ?hy hS ?_
                case hy => intro w hSw; (try dsimp only at hSw); go_simp; try with_reducible rfl
                case ht => go_simp; try with_reducible rfl
                refine anyZ_takeT (i := 9) (t := 40) (v := ?_) (T := ?_) ?ht rfl rfl (by kernel_rfl) (by kernel_rfl) (by kernel_rfl) (by kernel_rfl) (fun _ _ _ h => h) (by kernel_rfl) ?hy hS ?_
                case hy => intro w hSw; (try dsimp only at hSw); go_simp; try with_reducible rfl
                case ht => go_simp; try with_reducible rfl
                refine anyZ_one (i := 10) (by kernel_rfl) rfl (fun K hK => ?_)
                go_simp
                refine (hC _).mono ?_
                rintro e v1 ⟨rfl, hv1⟩
                subst v1
                refine hK _ _ (fun _ => hS) ?_
                clear hK K
                refine anyZ_takeT (i := 11) (t := 42) (v := ?_) (T := ?_) ?ht rfl rfl (by kernel_rfl) (by kernel_rfl) (by kernel_rfl) (by kernel_rfl) (fun _ _ _ h => h) (by kernel_rfl) ?hy hS ?_
                case hy => intro w hSw; (try dsimp only at hSw); go_simp; try with_reducible rfl
                case ht => go_simp; try with_reducible rfl
                refine anyZ_takeT (i := 12) (t := 43) (v := ?_) (T := ?_) ?ht rfl rfl (by kernel_rfl) (by kernel_rfl) (by kernel_rfl) (by kernel_rfl) (fun _ _ _ h => h) (by kernel_rfl) ?hy hS ?_
                case hy => intro w hSw; (try dsimp only at hSw); go_simp; try with_reducible rfl
                case ht => go_simp; try with_reducible rfl
                refine anyZ_takeT (i := 13) (t := 44) (v := ?_) (T := ?_) ?ht rfl rfl (by kernel_rfl) (by kernel_rfl) (by kernel_rfl) (by kernel_rfl) (fun _ _ _ h => h) (by kernel_rfl) ?hy hS ?_
                case hy => intro w hSw; (try dsimp only at hSw); go_simp; try with_reducible rfl
                case ht => go_simp; try with_reducible rfl
                refine anyZ_takeT (i := 14) (t := 45) (v := ?_) (T := ?_) ?ht rfl rfl (by kernel_rfl) (by kernel_rfl) (by kernel_rfl) (by kernel_rfl) (fun _ _ _ h => h) (by kernel_rfl) ?hy hS ?_
                case hy => intro w hSw; (try dsimp only at hSw); go_simp; try with_reducible rfl
                case ht => go_simp; try with_reducible rfl
                refine anyZ_takeT (i := 15) (t := 46) (v := ?_) (T := ?_) ?ht rfl rfl (by kernel_rfl) (by kernel_rfl) (by kernel_rfl) (by kernel_rfl) (fun _ _ _ h => h) (by kernel_rfl) ?hy hS ?_
                case hy => intro w hSw; (try dsimp only at hSw); go_simp; try with_reducible rfl
                case ht => go_simp; try with_reducible rfl
                refine anyZ_takeT (i := 16) (t := 47) (v := ?_) (T := ?_) ?ht rfl rfl (by kernel_rfl) (by kernel_rfl) (by kernel_rfl) (by kernel_rfl) (fun _ _ _ h => h) (by kernel_rfl) ?hy hS ?_
                case hy => intro w hSw; (try dsimp only at hSw); go_simp; try with_reducible rfl
                case ht => go_simp; try with_reducible rfl
                refine anyZ_takeT (i := 17) (t := 48) (v := ?_) (T := ?_) ?ht rfl rfl (by kernel_rfl) (by kernel_rfl) (by kernel_rfl) (by kernel_rfl) (fun _ _ _ h => h) (by kernel_rfl) ?hy hS ?_
                case hy => intro w hSw; (try dsimp only at hSw); go_simp; try with_reducible rfl
                case ht => go_simp; try with_reducible rfl
                refine anyZ_takeT (i := 18) (t := 49) (v := ?_) (T := ?_) ?ht rfl rfl (by kernel_rfl) (by kernel_rfl) (by kernel_rfl) (by kernel_rfl) (fun _ _ _ h => h) (by kernel_rfl) ?hy hS ?_
                case hy => intro w hSw; (try dsimp only at hSw); go_simp; try with_reducible rfl
                case ht => go_simp; try with_reducible rfl
                refine anyZ_takeT (i := 19) (t := 50) (v := ?_) (T := ?_) ?ht rfl rfl (by kernel_rfl) (by kernel_rfl) (by kernel_rfl) (by kernel_rfl) (fun _ _ _ h => h) (by kernel_rfl) ?hy hS ?_
                case hy => intro w hSw; (try dsimp only at hSw); go_simp; try with_reducible rfl
                case ht => go_simp; try with_reducible rfl
                refine anyZ_takeT (i := 20) (t := 51) (v := ?_) (T := ?_) ?ht rfl rfl (by kernel_rfl) (by kernel_rfl) (by kernel_rfl) (by kernel_rfl) (fun _ _ _ h => h) (by kernel_rfl) ?hy hS ?_
                case hy => intro w hSw; (try dsimp only at hSw); go_simp; try with_reducible rfl
                case ht => go_simp; try with_reducible rfl
                refine anyZ_takeT (i := 21) (t := 52) (v := ?_) (T := ?_) ?ht rfl rfl (by kernel_rfl) (by kernel_rfl) (by kernel_rfl) (by kernel_rfl) (fun _ _ _ h => h) (by kernel_rfl) ?hy hS ?_
                case hy => intro w hSw; (try dsimp only at hSw); go_simp; try with_reducible rfl
                case ht => go_simp; try with_reducible rfl
                refine anyZ_takeT (i := 22) (t := 53) (v := ?_) (T := ?_) ?ht rfl rfl (by kernel_rfl) (by kernel_rfl) (by kernel_rfl) (by kernel_rfl) (fun _ _ _ h => h) (by kernel_rfl) ?hy hS ?_
                case hy => intro w hSw; (try dsimp only at hSw); go_simp; try with_reducible rfl
                case ht => go_simp; try with_reducible rfl
                refine anyZ_takeT (i := 23) (t := 54) (v := ?_) (T := ?_) ?ht rfl rfl (by kernel_rfl) (by kernel_rfl) (by kernel_rfl) (by kernel_rfl) (fun _ _ _ h => h) (by kernel_rfl) ?hy hS ?_
                case hy => intro w hSw; (try dsimp only at hSw); go_simp; try with_reducible rfl
                case ht => go_simp; try with_reducible rfl
                refine anyZ_skipT (i := 24) (t := 55) (T := ?_) ?ht rfl rfl (by kernel_rfl) (by kernel_rfl) (by kernel_rfl) (by kernel_rfl) (fun _ _ _ h => h) (by kernel_rfl) hS ?_
                case ht => go_simp; try with_reducible rfl
                refine anyZ_skipT (i := 25) (t := 56) (T := ?_) ?ht rfl rfl (by kernel_rfl) (by kernel_rfl) (by kernel_rfl) (by kernel_rfl) (fun _ _ _ h => h) (by kernel_rfl) hS ?_
                case ht => go_simp; try with_reducible rfl
                refine anyZ_skipT (i := 26) (t := 57) (T := ?_) ?ht rfl rfl (by kernel_rfl) (by kernel_rfl) (by kernel_rfl) (by kernel_rfl) (fun _ _ _ h => h) (by kernel_rfl) hS ?_
                case ht => go_simp; try with_reducible rfl
                refine anyZ_takeT (i := 27) (t := 58) (v := ?_) (T := ?_) ?ht rfl rfl (by kernel_rfl) (by kernel_rfl) (by kernel_rfl) (by kernel_rfl) (fun _ _ _ h => h) (by kernel_rfl) ?hy hS ?_
                case hy => intro w hSw; (try dsimp only at hSw); go_simp; try with_reducible rfl
                case ht => go_simp; try with_reducible rfl
                obtain ⟨hend, hbe, hm9⟩ := HE.out
                obtain ⟨t0, t1, t2, t3, t4, t5, t6⟩ := cells7 hm9
                obtain ⟨r0, r1, r2, r3, r4, r5, r6⟩ := cells7 hend
                have hS9 := And.intro t0 (And.intro t1 (And.intro t2 (And.intro t3 (And.intro t4 (And.intro t5 t6)))))
                refine anyZ_one (i := 28) (by kernel_rfl) rfl (fun K hK => ?_)
                go_simp
                refine hK _ _ (fun _ => hS9) ?_
                clear hK K
                refine anyZ_takeT (i := 29) (t := 3) (v := ?_) (T := ?_) ?ht rfl rfl (by kernel_rfl) (by kernel_rfl) (by kernel_rfl) (by kernel_rfl) (fun _ _ _ h => h) (by kernel_rfl) ?hy hS9 ?_
                case hy => intro w hSw; (try dsimp only at hSw); go_simp; try with_reducible rfl
                case ht => go_simp; try with_reducible rfl
                refine anyZ_done (by kernel_rfl) ?_ _
                go_wp2
                exact bodyPost_ret (v := .tuple #[.agg #[.int .i64 A, .int .i64 B, .int .i64 (byteAt b 9 : Nat), .int .i64 (byteAt b 8 : Nat), .bool (decide (byteAt b 12 = 1)), .slice none 0 0, .slice none 0 0], .bool false]) (by simp [results, Tryz.results36, go_sem, r0, r1, r2, r3, r4, r5, r6]) rfl (EndsHR.no (h := ⟨A, B, byteAt b 9, byteAt b 8, decide (byteAt b 12 = 1)⟩) HNO.out hbe)
              · rcases c12 with _ | _
                · have HNO : Hid (hdOk b = false) := by show _ = _; rw [HOK.out]; simp
                  go_wp2
                  have hS : w'.drew.cell? ⟨w.heap.size + 1, 0, none⟩ = some (.int .i64 A) ∧ w'.drew.cell? ⟨w.heap.size + 1, 1, none⟩ = some (.int .i64 B) ∧ w'.drew.cell? ⟨w.heap.size + 1, 2, none⟩ = some (.int .i64 (byteAt b 9 : Nat)) ∧ w'.drew.cell? ⟨w.heap.size + 1, 3, none⟩ = some (.int .i64 (byteAt b 8 : Nat)) ∧ w'.drew.cell? ⟨w.heap.size + 1, 4, none⟩ = some (.bool (decide (byteAt b 12 = 1))) ∧ w'.drew.cell? ⟨w.heap.size + 1, 5, none⟩ = some (.slice none 0 0) ∧ w'.drew.cell? ⟨w.heap.size + 1, 6, none⟩ = some (.slice none 0 0) := ⟨y0, y1, y2, y3, y4, y5, y6⟩
                  refine regionZ (by kernel_rfl) (fun u => u.cell? ⟨w.heap.size + 1, 0, none⟩ = some (.int .i64 A) ∧ u.cell? ⟨w.heap.size + 1, 1, none⟩ = some (.int .i64 B) ∧ u.cell? ⟨w.heap.size + 1, 2, none⟩ = some (.int .i64 (byteAt b 9 : Nat)) ∧ u.cell? ⟨w.heap.size + 1, 3, none⟩ = some (.int .i64 (byteAt b 8 : Nat)) ∧ u.cell? ⟨w.heap.size + 1, 4, none⟩ = some (.bool (decide (byteAt b 12 = 1))) ∧ u.cell? ⟨w.heap.size + 1, 5, none⟩ = some (.slice none 0 0) ∧ u.cell? ⟨w.heap.size + 1, 6, none⟩ = some (.slice none 0 0)) 99 ?_
                  refine anyZ_takeT (i := 0) (t := 31) (v := ?_) (T := ?_) ?ht rfl rfl (by kernel_rfl) (by kernel_rfl) (by kernel_rfl) (by kernel_rfl) (fun _ _ _ h => h) (by kernel_rfl) ?hy hS ?_
                  case hy => intro w hSw; (try dsimp only at hSw); go_simp; try with_reducible rfl
                  case ht => go_simp; try with_reducible rfl
                  refine anyZ_takeT (i := 1) (t := 32) (v := ?_) (T := ?_) ?ht rfl rfl (by kernel_rfl) (by kernel_rfl) (by kernel_rfl) (by kernel_rfl) (fun _ _ _ h => h) (by kernel_rfl) ?hy hS ?_
                  case hy => intro w hSw; (try dsimp only at hSw); go_simp; try with_reducible rfl
                  case ht => go_simp; try with_reducible rfl
                  refine anyZ_takeT (i := 2) (t := 33) (v := ?_) (T := ?_) ?ht rfl rfl (by kernel_rfl) (by kernel_rfl) (by kernel_rfl) (by kernel_rfl) (fun _ _ _ h => h) (by kernel_rfl) ?hy hS ?_
                  case hy => intro w hSw; (try dsimp only at hSw); go_simp; try with_reducible rfl
                  case ht => go_simp; try with_reducible rfl
                  refine anyZ_takeT (i := 3) (t := 34) (v := ?_) (T := ?_) ?ht rfl rfl (by kernel_rfl) (by kernel_rfl) (by kernel_rfl) (by kernel_rfl) (fun _ _ _ h => h) (by kernel_rfl) ?hy hS ?_
                  case hy => intro w hSw; (try dsimp only at hSw); go_simp; try with_reducible rfl
                  case ht => go_simp; try with_reducible rfl
                  refine anyZ_takeT (i := 4) (t := 35) (v := ?_) (T := ?_) ?ht rfl rfl (by kernel_rfl) (by kernel_rfl) (by kernel_rfl) (by kernel_rfl) (fun _ _ _ h => h) (by kernel_rfl) ?hy hS ?_
                  case hy => intro w hSw; (try dsimp only at hSw); go_simp; try with_reducible rfl
                  case ht => go_simp; try with_reducible rfl
                  refine anyZ_takeT (i := 5) (t := 36) (v := ?_) (T := ?_) ?ht rfl rfl (by kernel_rfl) (by kernel_rfl) (by kernel_rfl) (by kernel_rfl) (fun _ _ _ h => h) (by kernel_rfl) ?hy hS ?_
                  case hy => intro w hSw; (try dsimp only at hSw); go_simp; try with_reducible rfl
                  case ht => go_simp; try with_reducible rfl
                  refine anyZ_takeT (i := 6) (t := 37) (v := ?_) (T := ?_) ?ht rfl rfl (by kernel_rfl) (by kernel_rfl) (by kernel_rfl) (by kernel_rfl) (fun _ _ _ h => h) (by kernel_rfl) ?hy hS ?_
                  case hy => intro w hSw; (try dsimp only at hSw); go_simp; try with_reducible rfl
                  case ht => go_simp; try with_reducible rfl
                  refine anyZ_takeT (i := 7) (t := 38) (v := ?_) (T := ?_) ?ht rfl rfl (by kernel_rfl) (by kernel_rfl) (by kernel_rfl) (by kernel_rfl) (fun _ _ _ h => h) (by kernel_rfl) ?hy hS ?_
                  case hy => intro w hSw; (try dsimp only at hSw); go_simp; try with_reducible rfl
                  case ht => go_simp; try with_reducible rfl
                  refine anyZ_takeT (i := 8) (t := 39) (v := ?_) (T := ?_) ?ht rfl rfl (by kernel_rfl) (by kernel_rfl) (by kernel_rfl) (by kernel_rfl) (fun _ _ _ h => h) (by kernel_rfl) ?hy hS ?_
                  case hy => intro w hSw; (try dsimp only at hSw); go_simp; try with_reducible rfl
                  case ht => go_simp; try with_reducible rfl
                  refine anyZ_takeT (i := 9) (t := 40) (v := ?_) (T := ?_) ?ht rfl rfl (by kernel_rfl) (by kernel_rfl) (by kernel_rfl) (by kernel_rfl) (fun _ _ _ h => h) (by kernel_rfl) ?hy hS ?_
                  case hy => intro w hSw; (try dsimp only at hSw); go_simp; try with_reducible rfl
                  case ht => go_simp; try with_reducible rfl
                  refine anyZ_one (i := 10) (by kernel_rfl) rfl (fun K hK => ?_)
                  go_simp
                  refine (hC _).mono ?_
                  rintro e v1 ⟨rfl, hv1⟩
                  subst v1
                  refine hK _ _ (fun _ => hS) ?_
                  clear hK K
                  refine anyZ_takeT (i := 11) (t := 42) (v := ?_) (T := ?_) ?ht rfl rfl (by kernel_rfl) (by kernel_rfl) (by kernel_rfl) (by kernel_rfl) (fun _ _ _ h => h) (by kernel_rfl) ?hy hS ?_
                  case hy => intro w hSw; (try dsimp only at hSw); go_simp; try with_reducible rfl
                  case ht => go_simp; try with_reducible rfl
                  refine anyZ_takeT (i := 12) (t := 43) (v := ?_) (T := ?_) ?ht rfl rfl (by kernel_rfl) (by kernel_rfl) (by kernel_rfl) (by kernel_rfl) (fun _ _ _ h => h) (by kernel_rfl) ?hy hS ?_
                  case hy => intro w hSw; (try dsimp only at hSw); go_simp; try with_reducible rfl
                  case ht => go_simp; try with_reducible rfl
                  refine anyZ_takeT (i := 13) (t := 44) (v := ?_) (T := ?_) ?ht rfl rfl (by kernel_rfl) (by kernel_rfl) (by kernel_rfl) (by kernel_rfl) (fun _ _ _ h => h) (by kernel_rfl) ?hy hS ?_
                  case hy => intro w hSw; (try dsimp only at hSw); go_simp; try with_reducible rfl
                  case ht => go_simp; try with_reducible rfl
                  refine anyZ_takeT (i := 14) (t := 45) (v := ?_) (T := ?_) ?ht rfl rfl (by kernel_rfl) (by kernel_rfl) (by kernel_rfl) (by kernel_rfl) (fun _ _ _ h => h) (by kernel_rfl) ?hy hS ?_
                  case hy => intro w hSw; (try dsimp only at hSw); go_simp; try with_reducible rfl
                  case ht => go_simp; try with_reducible rfl
                  refine anyZ_takeT (i := 15) (t := 46) (v := ?_) (T := ?_) ?ht rfl rfl (by kernel_rfl) (by kernel_rfl) (by kernel_rfl) (by kernel_rfl) (fun _ _ _ h => h) (by kernel_rfl) ?hy hS ?_
                  case hy => intro w hSw; (try dsimp only at hSw); go_simp; try with_reducible rfl
                  case ht => go_simp; try with_reducible rfl
                  refine anyZ_takeT (i := 16) (t := 47) (v := ?_) (T := ?_) ?ht rfl rfl (by kernel_rfl) (by kernel_rfl) (by kernel_rfl) (by kernel_rfl) (fun _ _ _ h => h) (by kernel_rfl) ?hy hS ?_
                  case hy => intro w hSw; (try dsimp only at hSw); go_simp; try with_reducible rfl
                  case ht => go_simp; try with_reducible rfl
                  refine anyZ_takeT (i := 17) (t := 48) (v := ?_) (T := ?_) ?ht rfl rfl (by kernel_rfl) (by kernel_rfl) (by kernel_rfl) (by kernel_rfl) (fun _ _ _ h => h) (by kernel_rfl) ?hy hS ?_
                  case hy => intro w hSw; (try dsimp only at hSw); go_simp; try with_reducible rfl
                  case ht => go_simp; try with_reducible rfl
                  refine anyZ_takeT (i := 18) (t := 49) (v := ?_) (T := ?_) ?ht rfl rfl (by kernel_rfl) (by kernel_rfl) (by kernel_rfl) (by kernel_rfl) (fun _ _ _ h => h) (by kernel_rfl) ?hy hS ?_
                  case hy => intro w hSw; (try dsimp only at hSw); go_simp; try with_reducible rfl
                  case ht => go_simp; try with_reducible rfl
                  refine anyZ_takeT (i := 19) (t := 50) (v := ?_) (T := ?_) ?ht rfl rfl (by kernel_rfl) (by kernel_rfl) (by kernel_rfl) (by kernel_rfl) (fun _ _ _ h => h) (by kernel_rfl) ?hy hS ?_
                  case hy => intro w hSw; (try dsimp only at hSw); go_simp; try with_reducible rfl
                  case ht => go_simp; try with_reducible rfl
                  refine anyZ_takeT (i := 20) (t := 51) (v := ?_) (T := ?_) ?ht rfl rfl (by kernel_rfl) (by kernel_rfl) (by kernel_rfl) (by kernel_rfl) (fun _ _ _ h => h) (by kernel_rfl) ?hy hS ?_
                  case hy => intro w hSw; (try dsimp only at hSw); go_simp; try with_reducible rfl
                  case ht => go_simp; try with_reducible rfl
                  refine anyZ_takeT (i := 21) (t := 52) (v := ?_) (T := ?_) ?ht rfl rfl (by kernel_rfl) (by kernel_rfl) (by kernel_rfl) (by kernel_rfl) (fun _ _ _ h => h) (by kernel_rfl) ?hy hS ?_
                  case hy => intro w hSw; (try dsimp only at hSw); go_simp; try with_reducible rfl
                  case ht => go_simp; try with_reducible rfl
                  refine anyZ_takeT (i := 22) (t := 53) (v := ?_) (T := ?_) ?ht rfl rfl (by kernel_rfl) (by kernel_rfl) (by kernel_rfl) (by kernel_rfl) (fun _ _ _ h => h) (by kernel_rfl) ?hy hS ?_
                  case hy => intro w hSw; (try dsimp only at hSw); go_simp; try with_reducible rfl
                  case ht => go_simp; try with_reducible rfl
                  refine anyZ_takeT (i := 23) (t := 54) (v := ?_) (T := ?_) ?ht rfl rfl (by kernel_rfl) (by kernel_rfl) (by kernel_rfl) (by kernel_rfl) (fun _ _ _ h => h) (by kernel_rfl) ?hy hS ?_
                  case hy => intro w hSw; (try dsimp only at hSw); go_simp; try with_reducible rfl
                  case ht => go_simp; try with_reducible rfl
                  refine anyZ_takeT (i := 24) (t := 55) (v := ?_) (T := ?_) ?ht rfl rfl (by kernel_rfl) (by kernel_rfl) (by kernel_rfl) (by kernel_rfl) (fun _ _ _ h => h) (by kernel_rfl) ?hy hS ?_
                  case hy => intro w hSw; (try dsimp only at hSw); go_simp; try with_reducible rfl
                  case ht => go_simp; try with_reducible rfl
                  refine anyZ_takeT (i := 25) (t := 56) (v := ?_) (T := ?_) ?ht rfl rfl (by kernel_rfl) (by kernel_rfl) (by kernel_rfl) (by kernel_rfl) (fun _ _ _ h => h) (by kernel_rfl) ?hy hS ?_
                  case hy => intro w hSw; (try dsimp only at hSw); go_simp; try with_reducible rfl
                  case ht => go_simp; try with_reducible rfl
                  refine anyZ_takeT (i := 26) (t := 57) (v := ?_) (T := ?_) ?ht rfl rfl (by kernel_rfl) (by kernel_rfl) (by kernel_rfl) (by kernel_rfl) (fun _ _ _ h => h) (by kernel_rfl) ?hy hS ?_
                  case hy => intro w hSw; (try dsimp only at hSw); go_simp; try with_reducible rfl
                  case ht => go_simp; try with_reducible rfl
                  refine anyZ_takeT (i := 27) (t := 58) (v := ?_) (T := ?_) ?ht rfl rfl (by kernel_rfl) (by kernel_rfl) (by kernel_rfl) (by kernel_rfl) (fun _ _ _ h => h) (by kernel_rfl) ?hy hS ?_
                  case hy => intro w hSw; (try dsimp only at hSw); go_simp; try with_reducible rfl
                  case ht => go_simp; try with_reducible rfl
                  obtain ⟨hend, hbe, hm9⟩ := HE.out
                  obtain ⟨t0, t1, t2, t3, t4, t5, t6⟩ := cells7 hm9
                  obtain ⟨r0, r1, r2, r3, r4, r5, r6⟩ := cells7 hend
                  have hS9 := And.intro t0 (And.intro t1 (And.intro t2 (And.intro t3 (And.intro t4 (And.intro t5 t6)))))
                  refine anyZ_one (i := 28) (by kernel_rfl) rfl (fun K hK => ?_)
                  go_simp
                  refine hK _ _ (fun _ => hS9) ?_
                  clear hK K
                  refine anyZ_takeT (i := 29) (t := 3) (v := ?_) (T := ?_) ?ht rfl rfl (by kernel_rfl) (by kernel_rfl) (by kernel_rfl) (by kernel_rfl) (fun _ _ _ h => h) (by kernel_rfl) ?hy hS9 ?_
                  case hy => intro w hSw; (try dsimp only at hSw); go_simp; try with_reducible rfl
                  case ht => go_simp; try with_reducible rfl
                  refine anyZ_done (by kernel_rfl) ?_ _
                  go_wp2
                  exact bodyPost_ret (v := .tuple #[.agg #[.int .i64 A, .int .i64 B, .int .i64 (byteAt b 9 : Nat), .int .i64 (byteAt b 8 : Nat), .bool (decide (byteAt b 12 = 1)), .slice none 0 0, .slice none 0 0], .bool false]) (by simp [results, Tryz.results36, go_sem, r0, r1, r2, r3, r4, r5, r6]) rfl (EndsHR.no (h := ⟨A, B, byteAt b 9, byteAt b 8, decide (byteAt b 12 = 1)⟩) HNO.out hbe)
                · go_wp2
                  have hS : w'.drew.cell? ⟨w.heap.size + 1, 0, none⟩ = some (.int .i64 A) ∧ w'.drew.cell? ⟨w.heap.size + 1, 1, none⟩ = some (.int .i64 B) ∧ w'.drew.cell? ⟨w.heap.size + 1, 2, none⟩ = some (.int .i64 (byteAt b 9 : Nat)) ∧ w'.drew.cell? ⟨w.heap.size + 1, 3, none⟩ = some (.int .i64 (byteAt b 8 : Nat)) ∧ w'.drew.cell? ⟨w.heap.size + 1, 4, none⟩ = some (.bool (decide (byteAt b 12 = 1))) ∧ w'.drew.cell? ⟨w.heap.size + 1, 5, none⟩ = some (.slice none 0 0) ∧ w'.drew.cell? ⟨w.heap.size + 1, 6, none⟩ = some (.slice none 0 0) := ⟨y0, y1, y2, y3, y4, y5, y6⟩
                  refine regionZ (by kernel_rfl) (fun u => u.cell? ⟨w.heap.size + 1, 0, none⟩ = some (.int .i64 A) ∧ u.cell? ⟨w.heap.size + 1, 1, none⟩ = some (.int .i64 B) ∧ u.cell? ⟨w.heap.size + 1, 2, none⟩ = some (.int .i64 (byteAt b 9 : Nat)) ∧ u.cell? ⟨w.heap.size + 1, 3, none⟩ = some (.int .i64 (byteAt b 8 : Nat)) ∧ u.cell? ⟨w.heap.size + 1, 4, none⟩ = some (.bool (decide (byteAt b 12 = 1))) ∧ u.cell? ⟨w.heap.size + 1, 5, none⟩ = some (.slice none 0 0) ∧ u.cell? ⟨w.heap.size + 1, 6, none⟩ = some (.slice none 0 0)) 99 ?_
                  refine anyZ_takeT (i := 0) (t := 31) (v := ?_) (T := ?_) ?ht rfl rfl (by kernel_rfl) (by kernel_rfl) (by kernel_rfl) (by kernel_rfl) (fun _ _ _ h => h) (by kernel_rfl) ?hy hS ?_
                  case hy => intro w hSw; (try dsimp only at hSw); go_simp; try with_reducible rfl
                  case ht => go_simp; try with_reducible rfl
                  refine anyZ_takeT (i := 1) (t := 32) (v := ?_) (T := ?_) ?ht rfl rfl (by kernel_rfl) (by kernel_rfl) (by kernel_rfl) (by kernel_rfl) (fun _ _ _ h => h) (by kernel_rfl) ?hy hS ?_
                  case hy => intro w hSw; (try dsimp only at hSw); go_simp; try with_reducible rfl
                  case ht => go_simp; try with_reducible rfl
                  refine anyZ_takeT (i := 2) (t := 33) (v := ?_) (T := ?_) ?ht rfl rfl (by kernel_rfl) (by kernel_rfl) (by kernel_rfl) (by kernel_rfl) (fun _ _ _ h => h) (by kernel_rfl) ?hy hS ?_
                  case hy => intro w hSw; (try dsimp only at hSw); go_simp; try with_reducible rfl
                  case ht => go_simp; try with_reducible rfl
                  refine anyZ_takeT (i := 3) (t := 34) (v := ?_) (T := ?_) ?ht rfl rfl (by kernel_rfl) (by kernel_rfl) (by kernel_rfl) (by kernel_rfl) (fun _ _ _ h => h) (by kernel_rfl) ?hy hS ?_
                  case hy => intro w hSw; (try dsimp only at hSw); go_simp; try with_reducible rfl
                  case ht => go_simp; try with_reducible rfl
                  refine anyZ_takeT (i := 4) (t := 35) (v := ?_) (T := ?_) ?ht rfl rfl (by kernel_rfl) (by kernel_rfl) (by kernel_rfl) (by kernel_rfl) (fun _ _ _ h => h) (by kernel_rfl) ?hy hS ?_
                  case hy => intro w hSw; (try dsimp only at hSw); go_simp; try with_reducible rfl
                  case ht => go_simp; try with_reducible rfl
                  refine anyZ_takeT (i := 5) (t := 36) (v := ?_) (T := ?_) ?ht rfl rfl (by kernel_rfl) (by kernel_rfl) (by kernel_rfl) (by kernel_rfl) (fun _ _ _ h => h) (by kernel_rfl) ?hy hS ?_
                  case hy => intro w hSw; (try dsimp only at hSw); go_simp; try with_reducible rfl
                  case ht => go_simp; try with_reducible rfl
                  refine anyZ_takeT (i := 6) (t := 37) (v := ?_) (T := ?_) ?ht rfl rfl (by kernel_rfl) (by kernel_rfl) (by kernel_rfl) (by kernel_rfl) (fun _ _ _ h => h) (by kernel_rfl) ?hy hS ?_
                  case hy => intro w hSw; (try dsimp only at hSw); go_simp; try with_reducible rfl
                  case ht => go_simp; try with_reducible rfl
                  refine anyZ_takeT (i := 7) (t := 38) (v := ?_) (T := ?_) ?ht rfl rfl (by kernel_rfl) (by kernel_rfl) (by kernel_rfl) (by kernel_rfl) (fun _ _ _ h => h) (by kernel_rfl) ?hy hS ?_
                  case hy => intro w hSw; (try dsimp only at hSw); go_simp; try with_reducible rfl
                  case ht => go_simp; try with_reducible rfl
                  refine anyZ_takeT (i := 8) (t := 39) (v := ?_) (T := ?_) ?ht rfl rfl (by kernel_rfl) (by kernel_rfl) (by kernel_rfl) (by kernel_rfl) (fun _ _ _ h => h) (by kernel_rfl) ?hy hS ?_
                  case hy => intro w hSw; (try dsimp only at hSw); go_simp; try with_reducible rfl
                  case ht => go_simp; try with_reducible rfl
                  refine anyZ_takeT (i := 9) (t := 40) (v := ?_) (T := ?_) ?ht rfl rfl (by kernel_rfl) (by kernel_rfl) (by kernel_rfl) (by kernel_rfl) (fun _ _ _ h => h) (by kernel_rfl) ?hy hS ?_
                  case hy => intro w hSw; (try dsimp only at hSw); go_simp; try with_reducible rfl
                  case ht => go_simp; try with_reducible rfl
                  refine anyZ_one (i := 10) (by kernel_rfl) rfl (fun K hK => ?_)
                  go_simp
                  refine (hC _).mono ?_
                  rintro e v1 ⟨rfl, hv1⟩
                  subst v1
                  refine hK _ _ (fun _ => hS) ?_
                  clear hK K
                  refine anyZ_takeT (i := 11) (t := 42) (v := ?_) (T := ?_) ?ht rfl rfl (by kernel_rfl) (by kernel_rfl) (by kernel_rfl) (by kernel_rfl) (fun _ _ _ h => h) (by kernel_rfl) ?hy hS ?_
                  case hy => intro w hSw; (try dsimp only at hSw); go_simp; try with_reducible rfl
                  case ht => go_simp; try with_reducible rfl
                  refine anyZ_takeT (i := 12) (t := 43) (v := ?_) (T := ?_) ?ht rfl rfl (by kernel_rfl) (by kernel_rfl) (by kernel_rfl) (by kernel_rfl) (fun _ _ _ h => h) (by kernel_rfl) ?hy hS ?_
                  case hy => intro w hSw; (try dsimp only at hSw); go_simp; try with_reducible rfl
                  case ht => go_simp; try with_reducible rfl
                  refine anyZ_takeT (i := 13) (t := 44) (v := ?_) (T := ?_) ?ht rfl rfl (by kernel_rfl) (by kernel_rfl) (by kernel_rfl) (by kernel_rfl) (fun _ _ _ h => h) (by kernel_rfl) ?hy hS ?_
                  case hy => intro w hSw; (try dsimp only at hSw); go_simp; try with_reducible rfl
                  case ht => go_simp; try with_reducible rfl
                  refine anyZ_takeT (i := 14) (t := 45) (v := ?_) (T := ?_) ?ht rfl rfl (by kernel_rfl) (by kernel_rfl) (by kernel_rfl) (by kernel_rfl) (fun _ _ _ h => h) (by kernel_rfl) ?hy hS ?_
                  case hy => intro w hSw; (try dsimp only at hSw); go_simp; try with_reducible rfl
                  case ht => go_simp; try with_reducible rfl
                  refine anyZ_takeT (i := 15) (t := 46) (v := ?_) (T := ?_) ?ht rfl rfl (by kernel_rfl) (by kernel_rfl) (by kernel_rfl) (by kernel_rfl) (fun _ _ _ h => h) (by kernel_rfl) ?hy hS ?_
                  case hy => intro w hSw; (try dsimp only at hSw); go_simp; try with_reducible rfl
                  case ht => go_simp; try with_reducible rfl
                  refine anyZ_takeT (i := 16) (t := 47) (v := ?_) (T := ?_) ?ht rfl rfl (by kernel_rfl) (by kernel_rfl) (by kernel_rfl) (by kernel_rfl) (fun _ _ _ h => h) (by kernel_rfl) ?hy hS ?_
                  case hy => intro w hSw; (try dsimp only at hSw); go_simp; try with_reducible rfl
                  case ht => go_simp; try with_reducible rfl
                  refine anyZ_takeT (i := 17) (t := 48) (v := ?_) (T := ?_) ?ht rfl rfl (by kernel_rfl) (by kernel_rfl) (by kernel_rfl) (by kernel_rfl) (fun _ _ _ h => h) (by kernel_rfl) ?hy hS ?_
                  case hy => intro w hSw; (try dsimp only at hSw); go_simp; try with_reducible rfl
                  case ht => go_simp; try with_reducible rfl
                  refine anyZ_takeT (i := 18) (t := 49) (v := ?_) (T := ?_) ?ht rfl rfl (by kernel_rfl) (by kernel_rfl) (by kernel_rfl) (by kernel_rfl) (fun _ _ _ h => h) (by kernel_rfl) ?hy hS ?_
                  case hy => intro w hSw; (try dsimp only at hSw); go_simp; try with_reducible rfl
                  case ht => go_simp; try with_reducible rfl
                  refine anyZ_takeT (i := 19) (t := 50) (v := ?_) (T := ?_) ?ht rfl rfl (by kernel_rfl) (by kernel_rfl) (by kernel_rfl) (by kernel_rfl) (fun _ _ _ h => h) (by kernel_rfl) ?hy hS ?_
                  case hy => intro w hSw; (try dsimp only at hSw); go_simp; try with_reducible rfl
                  case ht => go_simp; try with_reducible rfl
                  refine anyZ_takeT (i := 20) (t := 51) (v := ?_) (T := ?_) ?ht rfl rfl (by kernel_rfl) (by kernel_rfl) (by kernel_rfl) (by kernel_rfl) (fun _ _ _ h => h) (by kernel_rfl) ?hy hS ?_
                  case hy => intro w hSw; (try dsimp only at hSw); go_simp; try with_reducible rfl
                  case ht => go_simp; try with_reducible rfl
                  refine anyZ_takeT (i := 21) (t := 52) (v := ?_) (T := ?_) ?ht rfl rfl (by kernel_rfl) (by kernel_rfl) (by kernel_rfl) (by kernel_rfl) (fun _ _ _ h => h) (by kernel_rfl) ?hy hS ?_
                  case hy => intro w hSw; (try dsimp only at hSw); go_simp; try with_reducible rfl
                  case ht => go_simp; try with_reducible rfl
                  refine anyZ_takeT (i := 22) (t := 53) (v := ?_) (T := ?_) ?ht rfl rfl (by kernel_rfl) (by kernel_rfl) (by kernel_rfl) (by kernel_rfl) (fun _ _ _ h => h) (by kernel_rfl) ?hy hS ?_
                  case hy => intro w hSw; (try dsimp only at hSw); go_simp; try with_reducible rfl
                  case ht => go_simp; try with_reducible rfl
                  refine anyZ_takeT (i := 23) (t := 54) (v := ?_) (T := ?_) ?ht rfl rfl (by kernel_rfl) (by kernel_rfl) (by kernel_rfl) (by kernel_rfl) (fun _ _ _ h => h) (by kernel_rfl) ?hy hS ?_
                  case hy => intro w hSw; (try dsimp only at hSw); go_simp; try with_reducible rfl
                  case ht => go_simp; try with_reducible rfl
                  refine anyZ_takeT (i := 24) (t := 55) (v := ?_) (T := ?_) ?ht rfl rfl (by kernel_rfl) (by kernel_rfl) (by kernel_rfl) (by kernel_rfl) (fun _ _ _ h => h) (by kernel_rfl) ?hy hS ?_
                  case hy => intro w hSw; (try dsimp only at hSw); go_simp; try with_reducible rfl
                  case ht => go_simp; try with_reducible rfl
                  refine anyZ_takeT (i := 25) (t := 56) (v := ?_) (T := ?_) ?ht rfl rfl (by kernel_rfl) (by kernel_rfl) (by kernel_rfl) (by kernel_rfl) (fun _ _ _ h => h) (by kernel_rfl) ?hy hS ?_
                  case hy => intro w hSw; (try dsimp only at hSw); go_simp; try with_reducible rfl
                  case ht => go_simp; try with_reducible rfl
                  refine anyZ_takeT (i := 26) (t := 57) (v := ?_) (T := ?_) ?ht rfl rfl (by kernel_rfl) (by kernel_rfl) (by kernel_rfl) (by kernel_rfl) (fun _ _ _ h => h) (by kernel_rfl) ?hy hS ?_
                  case hy => intro w hSw; (try dsimp only at hSw); go_simp; try with_reducible rfl
                  case ht => go_simp; try with_reducible rfl
                  refine anyZ_takeT (i := 27) (t := 58) (v := ?_) (T := ?_) ?ht rfl rfl (by kernel_rfl) (by kernel_rfl) (by kernel_rfl) (by kernel_rfl) (fun _ _ _ h => h) (by kernel_rfl) ?hy hS ?_
                  case hy => intro w hSw; (try dsimp only at hSw); go_simp; try with_reducible rfl
                  case ht => go_simp; try with_reducible rfl
                  obtain ⟨hend, hbe, hm9⟩ := HE.out
                  obtain ⟨t0, t1, t2, t3, t4, t5, t6⟩ := cells7 hm9
                  obtain ⟨r0, r1, r2, r3, r4, r5, r6⟩ := cells7 hend
                  have hS9 := And.intro t0 (And.intro t1 (And.intro t2 (And.intro t3 (And.intro t4 (And.intro t5 t6)))))
                  refine anyZ_one (i := 28) (by kernel_rfl) rfl (fun K hK => ?_)
                  go_simp
                  refine hK _ _ (fun _ => hS9) ?_
                  clear hK K
                  refine anyZ_takeT (i := 29) (t := 3) (v := ?_) (T := ?_) ?ht rfl rfl (by kernel_rfl) (by kernel_rfl) (by kernel_rfl) (by kernel_rfl) (fun _ _ _ h => h) (by kernel_rfl) ?hy hS9 ?_
                  case hy => intro w hSw; (try dsimp only at hSw); go_simp; try with_reducible rfl
                  case ht => go_simp; try with_reducible rfl
                  refine anyZ_done (by kernel_rfl) ?_ _
                  go_wp2
                  exact bodyPost_ret (v := .tuple #[.agg #[.int .i64 A, .int .i64 B, .int .i64 (byteAt b 9 : Nat), .int .i64 (byteAt b 8 : Nat), .bool (decide (byteAt b 12 = 1)), .slice none 0 0, .slice none 0 0], .bool true]) (by simp [results, Tryz.results36, go_sem, r0, r1, r2, r3, r4, r5, r6]) rfl (by have h := EndsHR.ok (b := b) (w := w) (by rw [HOK.out]; simp [hch0]) hbe; rw [HHD.out] at h; exact h)
  · have HN : Hid (hdOk b = false) := by show _ = _; unfold hdOk; rw [decide_eq_false h13, Bool.false_and]
    have h13i : ((b.size : Int) != 13) = true := by rw [bne_iff_ne]; omega
    have q0 := blk_new w (.cells hdZero 30)
    obtain ⟨z0, z1, z2, z3, z4, z5, z6, zf, zl⟩ := cells7H q0
    have k0 := below_alloc w (.cells hdZero 30)
    have HK : Hid (_) := k0
    clear k0 q0
    go_enter Tryz.func36, Tryz.ntmps36
    go_wp2
    exact bodyPost_ret (v := .tuple #[.agg hdZero, .bool false]) (by simp [results, Tryz.results36, go_sem, z0, z1, z2, z3, z4, z5, z6]) rfl (EndsHR.no (h := ⟨0, 0, 0, 0, false⟩) HN.out HK.out)
end Go.Proofs.YtmfijackgekioaaGreatDoor
