import Derived.Test.YtmfijackgekioaaGreatDoorQLoLp2
import Derived.Test.YtmfijackgekioaaGreatDoorQLnLq2
import Derived.Test.YtmfijackgekioaaGreatDoorQNv
import Derived.Test.YtmfijackgekioaaGreatDoorQOaOc3

/-
  A file read as a picture: the document. For Decodes.
-/
namespace Go.Proofs.YtmfijackgekioaaGreatDoor
open Go.RowKit Go.Maps

/-- How far unwrapping reads and brings: whatever the bytes. -/
theorem fineW_all (s : ByteArray) (limit : Int) (w : World) (hs : s.size ≤ 5000000) (hl0 : -9223372036854775808 ≤ limit) (hl1 : limit ≤ 9223372036854775807) : FineW s limit := by
  obtain ⟨e, w', fr, h, _⟩ := unwrap15 s limit w hs hl0 hl1 []
  exact h.2.1
/-- The answer and the empty picture, both nothing yet. -/
structure DZ (w u : World) : Prop where
  be : Below w.heap.size w u
  r : u.heap[w.heap.size]? = some (.cells hdZero 30 (0, 0))
  n : u.heap[w.heap.size + 1]? = some (.cells hdZero 30 (0, 0))
theorem DZ.below {w u u' : World} (h : DZ w u) (k : Below u.heap.size u u') : DZ w u' :=
  ⟨h.be.trans (k.mono h.be.size), (k.block _ (lt_of_block h.r)).trans h.r, (k.block _ (lt_of_block h.n)).trans h.n⟩
abbrev zset (u : World) (X : Nat) : World := set7 u X (.int .i64 0) (.int .i64 0) (.int .i64 0) (.int .i64 0) (.bool false) (.slice none 0 0) (.slice none 0 0)
theorem DZ.fin {w u : World} (h : DZ w u) : (zset u w.heap.size).heap[w.heap.size]? = some (.cells hdZero 30 (0, 0)) ∧ Below w.heap.size w (zset u w.heap.size) :=
  ⟨set7_row h.r _ _ _ _ _ _ _, set7_below h.be w.heap.size (Nat.le_refl _) _ _ _ _ _ _ _⟩
/-- What the document's Decode answers. -/
inductive EndsZ (b : ByteArray) (limit : Int) (w : World) : Ending → World → Prop
  | no {w' c} : decOf b limit = .error c → Below w.heap.size w w' → EndsZ b limit w (.returned (.tuple #[.agg hdZero, .int .i64 c, .slice none 0 0, .string ⟨#[]⟩])) w'
  | ok {w' R pv sv lv t} : decOf b limit = .ok R → IntL w' w.heap.size pv R.pal → IntL w' w.heap.size sv R.sam → Below w.heap.size w w' → (R.pal.length ≤ 5000000 ∧ R.sam.length ≤ 100000000) → EndsZ b limit w (.returned (.tuple #[resV R pv sv, .int .i64 0, lv, .string t])) w'
theorem IntL.far {w w' : World} {B : Nat} {v : Value} {l : List Int} (h : IntL w B v l) (k : ∀ g, B ≤ g → g < w.heap.size → w'.heap[g]? = w.heap[g]?) (hz : w.heap.size ≤ w'.heap.size) : IntL w' B v l := by
  obtain ⟨ao, cap, e, hi, ha⟩ := h.ex
  refine ⟨ao, cap, e, fun j hj => ?_, fun a ea hne => ⟨(ha a ea hne).1, Nat.lt_of_lt_of_le (ha a ea hne).2 hz⟩⟩
  obtain ⟨b, off, eb, hc⟩ := hi j hj
  have hb := ha ⟨b, off, none⟩ eb (ne_of_lt hj)
  exact ⟨b, off, eb, (World.cell?_of_block (w := w) (a := ⟨b, off + j, none⟩) (k b hb.1 hb.2)).trans hc⟩
theorem dec_end {w u : World} {MB G W H D : Nat} {kd : Int} {ps : Bool} {pa : Option Addr} {pc : Nat} {pl l : List Int} (D6 : DZ w u) (hp : IntL u (MB + 1) (.slice pa pl.length pc) pl) (hl : Lst u G l) (hG : MB < G) (hM : w.heap.size + 1 < MB) (_hMs : MB < u.heap.size) :
    (set7 ((u.setCell ⟨MB, 5, none⟩ (.slice pa pl.length pc)).setCell ⟨MB, 6, none⟩ (.slice (some ⟨G, 0, none⟩) l.length l.length)) w.heap.size (.int .i64 (W : Nat)) (.int .i64 (H : Nat)) (.int .i64 kd) (.int .i64 (D : Nat)) (.bool ps) (.slice pa pl.length pc) (.slice (some ⟨G, 0, none⟩) l.length l.length)).heap[w.heap.size]? = some (.cells #[.int .i64 (W : Nat), .int .i64 (H : Nat), .int .i64 kd, .int .i64 (D : Nat), .bool ps, .slice pa pl.length pc, .slice (some ⟨G, 0, none⟩) l.length l.length] 30 (0, 0)) ∧
    Below w.heap.size w (set7 ((u.setCell ⟨MB, 5, none⟩ (.slice pa pl.length pc)).setCell ⟨MB, 6, none⟩ (.slice (some ⟨G, 0, none⟩) l.length l.length)) w.heap.size (.int .i64 (W : Nat)) (.int .i64 (H : Nat)) (.int .i64 kd) (.int .i64 (D : Nat)) (.bool ps) (.slice pa pl.length pc) (.slice (some ⟨G, 0, none⟩) l.length l.length)) ∧
    IntL (set7 ((u.setCell ⟨MB, 5, none⟩ (.slice pa pl.length pc)).setCell ⟨MB, 6, none⟩ (.slice (some ⟨G, 0, none⟩) l.length l.length)) w.heap.size (.int .i64 (W : Nat)) (.int .i64 (H : Nat)) (.int .i64 kd) (.int .i64 (D : Nat)) (.bool ps) (.slice pa pl.length pc) (.slice (some ⟨G, 0, none⟩) l.length l.length)) w.heap.size (.slice pa pl.length pc) pl ∧
    IntL (set7 ((u.setCell ⟨MB, 5, none⟩ (.slice pa pl.length pc)).setCell ⟨MB, 6, none⟩ (.slice (some ⟨G, 0, none⟩) l.length l.length)) w.heap.size (.int .i64 (W : Nat)) (.int .i64 (H : Nat)) (.int .i64 kd) (.int .i64 (D : Nat)) (.bool ps) (.slice pa pl.length pc) (.slice (some ⟨G, 0, none⟩) l.length l.length)) w.heap.size (.slice (some ⟨G, 0, none⟩) l.length l.length) l := by
  have f1 := fun g (hg : g ≠ MB) => (set_far (u.setCell ⟨MB, 5, none⟩ (.slice pa pl.length pc)) MB 6 (.slice (some ⟨G, 0, none⟩) l.length l.length) g hg).trans (set_far u MB 5 (.slice pa pl.length pc) g hg)
  have hfr := fun g (hg : g ≠ w.heap.size) (hg2 : g ≠ MB) => (set7_far ((u.setCell ⟨MB, 5, none⟩ (.slice pa pl.length pc)).setCell ⟨MB, 6, none⟩ (.slice (some ⟨G, 0, none⟩) l.length l.length)) w.heap.size (.int .i64 (W : Nat)) (.int .i64 (H : Nat)) (.int .i64 kd) (.int .i64 (D : Nat)) (.bool ps) (.slice pa pl.length pc) (.slice (some ⟨G, 0, none⟩) l.length l.length) g hg).trans (f1 g hg2)
  have z8 := (f1 w.heap.size (by omega)).trans D6.r
  have B8 := (D6.be.setCell (p := ⟨MB, 5, none⟩) (by dsimp only; omega) (.slice pa pl.length pc)).setCell (p := ⟨MB, 6, none⟩) (by dsimp only; omega) (.slice (some ⟨G, 0, none⟩) l.length l.length)
  have hz : (set7 ((u.setCell ⟨MB, 5, none⟩ (.slice pa pl.length pc)).setCell ⟨MB, 6, none⟩ (.slice (some ⟨G, 0, none⟩) l.length l.length)) w.heap.size (.int .i64 (W : Nat)) (.int .i64 (H : Nat)) (.int .i64 kd) (.int .i64 (D : Nat)) (.bool ps) (.slice pa pl.length pc) (.slice (some ⟨G, 0, none⟩) l.length l.length)).heap.size = u.heap.size := by simp
  have hll := (hfr G (by omega) (by omega)).trans hl
  refine ⟨set7_row z8 _ _ _ _ _ _ _, set7_below B8 w.heap.size (Nat.le_refl _) _ _ _ _ _ _ _, ?_, ?_⟩
  · exact (hp.far (fun g hg _ => hfr g (by omega) (by omega)) (Nat.le_of_eq hz.symm)).mono (by omega)
  · exact ⟨some ⟨G, 0, none⟩, l.length, rfl, Lst.ints hll, fun a e _ => by cases e; exact ⟨by dsimp only; omega, lt_of_block hll⟩⟩
set_option maxRecDepth 100000 in
set_option maxHeartbeats 2000000 in
theorem decodeR (b : ByteArray) (limit : Int) (w : World) (hs : b.size ≤ 5000000) :
    Calls Tryz.prog 12 #[.string b, .int .i64 limit] w fun e w' => EndsZ b limit w e w' := by
  obtain ⟨k0, q0, q1⟩ := two_boxes w (.cells hdZero 30) (.cells hdZero 30)
  have D0 : DZ w ((w.alloc (.cells hdZero 30)).alloc (.cells hdZero 30)) := ⟨k0, q0, q1⟩
  have HD0 : Hid (_) := D0
  obtain ⟨a0, a1, a2, a3, a4, a5, a6, af, al⟩ := cells7H q0
  obtain ⟨n0, n1, n2, n3, n4, n5, n6, nf, nl⟩ := cells7H q1
  clear k0 q0 q1 D0
  by_cases hsig : sigB b = true
  · have h8 : 8 ≤ b.size := by
      simp only [sigB, Bool.and_eq_true, decide_eq_true_eq] at hsig
      exact hsig.1
    have hsg2 : ((b.extract 0 8).toList == [137, 80, 78, 71, 13, 10, 26, 10]) = true := by
      simp only [sigB, Bool.and_eq_true] at hsig
      exact hsig.2
    have hn8 : ¬ (b.size : Int) < 8 := by omega
    have h8i : (8 : Int) ≤ (b.size : Int) := by omega
    have hck := fun u => chunksR (b.extract 8 b.size) u (by rw [ByteArray.size_extract]; omega)
    have HSG : Hid (sigB b = true) := hsig
    have HB8 : Hid ((b.extract 8 b.size).size ≤ 5000000) := by show _ ≤ _; rw [ByteArray.size_extract]; omega
    clear hsig
    go_enter Tryz.func12, Tryz.ntmps12
    go_wp2_with fail
    refine (hck _).mono ?_
    intro e w1 he
    clear hck
    cases he with
    | no h1 b1 =>
      have D1 := HD0.out.below b1
      obtain ⟨f1, f2⟩ := D1.fin
      obtain ⟨c0, c1, c2, c3, c4, c5, c6, cf, cl⟩ := cells7H D1.r
      obtain ⟨d0, d1, d2, d3, d4, d5, d6, df, dl⟩ := cells7H D1.n
      obtain ⟨r0, r1, r2, r3, r4, r5, r6⟩ := cells7 f1
      have HE : Hid (_ ∧ _) := ⟨(dec_parts (limit := limit) (parts_bad HSG.out h1)), f2⟩
      clear D1 f1 f2 h1 b1 a0 a1 a2 a3 a4 a5 a6 af al n0 n1 n2 n3 n4 n5 n6 nf nl
      go_wp2
      exact bodyPost_ret (v := .tuple #[.agg hdZero, .int .i64 11, .slice none 0 0, .string ⟨#[]⟩]) (by simp [results, Tryz.results12, go_sem, r0, r1, r2, r3, r4, r5, r6]) rfl (.no HE.out.1 HE.out.2)
    | @ok _ L v h1 ho1 b1 =>
      have D1 := HD0.out.below b1
      have hcs := chunks_sizes h1
      have hLl : L.length ≤ 1000000 := by have := HB8.out; omega
      have hsum : sumC L ≤ 5000000 := by have := HB8.out; omega
      have hv1 := own_chV ho1
      have hor := fun u hu => orderedR L v u hu hLl (fun c hc => (hcs.2 c hc).1)
      have hor1 := hor w1 hv1
      rw [ro_same L (fun c hc => (hcs.2 c hc).2)] at hor1
      obtain ⟨vao, vcap, hve⟩ : ∃ ao cap, v = .slice ao L.length cap := by
        rcases hv1.shape with ⟨e1, e2⟩ | ⟨g, cap, e2, _⟩
        · exact ⟨_, _, by rw [e2, e1]; rfl⟩
        · exact ⟨_, _, e2⟩
      have HV1 : Hid (_ ∧ _) := ⟨D1, hv1⟩
      have HH1 : Hid (chunksOf (b.extract 8 b.size) = some L) := h1
      subst hve
      clear a0 a1 a2 a3 a4 a5 a6 af al n0 n1 n2 n3 n4 n5 n6 nf nl h1 ho1 b1 hor HD0
      cases hP : ordOf L with
      | none =>
        rw [hP] at hor1
        have HP : Hid (_) := hP
        clear hP
        go_wp2_with fail
        refine hor1.mono ?_
        rintro e w' ⟨rfl, hw'⟩
        subst w'
        clear hor1 hv1
        obtain ⟨f1, f2⟩ := D1.fin
        obtain ⟨c0, c1, c2, c3, c4, c5, c6, cf, cl⟩ := cells7H D1.r
        obtain ⟨d0, d1, d2, d3, d4, d5, d6, df, dl⟩ := cells7H D1.n
        obtain ⟨r0, r1, r2, r3, r4, r5, r6⟩ := cells7 f1
        have HE : Hid (_ ∧ _) := ⟨(dec_parts (parts_no HSG.out HH1.out HP.out) : decOf b limit = .error 12), f2⟩
        clear f1 f2 D1
        go_wp2
        exact bodyPost_ret (v := .tuple #[.agg hdZero, .int .i64 12, .slice none 0 0, .string ⟨#[]⟩]) (by simp [results, Tryz.results12, go_sem, r0, r1, r2, r3, r4, r5, r6]) rfl (.no HE.out.1 HE.out.2)
      | some P =>
        rw [hP] at hor1
        have hjp := join_parts hP
        have hpk : partsOf b = .ok P := parts_ok HSG.out HH1.out hP
        have hpz := parts_sizes hpk
        have HDE : Hid (decOf b limit = partOf P limit) := dec_ok limit hpk
        have hLn : 0 < L.length := by
          rcases Nat.eq_zero_or_pos L.length with h | h
          · have : ordOf L = none := by unfold ordOf; rw [if_neg (by unfold endsOk; rw [decide_eq_false (by omega), Bool.false_and]; decide)]
            rw [this] at hP
            cases hP
          · exact h
        have hhead : (chAt L 0).data = P.head := by
          unfold ordOf at hP
          split at hP
          · cases hx : ordF (firstC L).name [] none (midC L) with
            | none => rw [hx] at hP; cases hP
            | some x =>
              rw [hx] at hP
              obtain ⟨dd, pp⟩ := x
              simp only at hP
              split at hP
              · cases hP
              · injection hP with hP
                rw [← hP]
                rfl
          · cases hP
        obtain ⟨g, gcap, ge, gc⟩ : ∃ g gcap, Value.slice vao L.length vcap = .slice (some ⟨g, 0, none⟩) L.length gcap ∧ w1.cell? ⟨g, 1, none⟩ = some (.string P.head) := by
          rcases hv1.shape with ⟨h1, _⟩ | ⟨g, gcap, h2, _, _, h3⟩
          · rw [h1] at hLn; exact absurd hLn (Nat.not_lt_zero _)
          · refine ⟨g, gcap, h2, ?_⟩
            have := (h3 0 hLn).2
            rw [Nat.zero_mul, Nat.zero_add] at this
            rw [this]
            exact congrArg (fun x => some (Value.string x)) hhead
        injection ge with e1 _ e3
        subst e1
        clear e3
        have h0L : (0 : Int) < (L.length : Int) := by omega
        have hhr := fun u => headR P.head u
        have HP : Hid (_) := hP
        have HJP : Hid (_ ∧ _ ∧ _) := hjp
        have HPZ : Hid (_ ∧ _) := hpz
        clear hP hjp hpk hpz hhead
        go_wp2_with fail
        refine hor1.mono ?_
        rintro e w' ⟨rfl, hw'⟩
        subst w'
        clear hor1
        go_wp2_with fail
        refine (hhr _).mono ?_
        intro e w2 he
        clear hhr
        cases he with
        | @no _ h h2 b2 =>
          have D2 := (D1.below b2).below (below_alloc w2 (.cells (hdCells h) 30))
          obtain ⟨f1, f2⟩ := D2.fin
          obtain ⟨c0, c1, c2, c3, c4, c5, c6, cf, cl⟩ := cells7H D2.r
          obtain ⟨d0, d1, d2, d3, d4, d5, d6, df, dl⟩ := cells7H D2.n
          obtain ⟨r0, r1, r2, r3, r4, r5, r6⟩ := cells7 f1
          have HE : Hid (_ ∧ _) := ⟨(by rw [HDE.out, partOf, if_pos h2] : decOf b limit = .error 13), f2⟩
          clear f1 f2 D1 D2 b2 h2 gc hv1
          go_wp2
          exact bodyPost_ret (v := .tuple #[.agg hdZero, .int .i64 13, .slice none 0 0, .string ⟨#[]⟩]) (by simp [results, Tryz.results12, go_sem, r0, r1, r2, r3, r4, r5, r6]) rfl (.no HE.out.1 HE.out.2)
        | ok h2 b2 =>
          have D2 := (D1.below b2).below (below_alloc w2 (.cells (hdCells (hdOf P.head)) 30))
          have m2 := blk_new w2 (.cells (hdCells (hdOf P.head)) 30)
          obtain ⟨_, f1, f2, f3⟩ := hdOk_facts h2
          have hrr := raw_range _ f1 f2 f3
          have HD2 : Hid (decOf b limit = if limit < rawOf (hdOf P.head) ∨ 4194304 < rawOf (hdOf P.head) then .error 7 else if palOk (hdOf P.head).kd (hdOf P.head).dp P.pal = false then .error 3 else dataOf (hdOf P.head) P) := by
            show _ = _
            rw [HDE.out, partOf, if_neg (by rw [h2]; decide)]
          have b2s := b2.size
          have hv2 : ChV (w2.alloc (.cells (hdCells (hdOf P.head)) 30)) (.slice (some ⟨g, 0, none⟩) L.length vcap) L := by
            have kk := b2.trans ((below_alloc w2 (.cells (hdCells (hdOf P.head)) 30)).mono b2s)
            constructor
            rcases HV1.out.2.shape with h | ⟨g', cap, h1, h2', h3, h4⟩
            · exact .inl h
            · exact .inr ⟨g', cap, h1, Nat.lt_of_lt_of_le h2' kk.size, h3, fun j hj => ⟨(kk.cell (p := ⟨g', j * 2, none⟩) h2').trans (h4 j hj).1, (kk.cell (p := ⟨g', j * 2 + 1, none⟩) h2').trans (h4 j hj).2⟩⟩
          have lw1 : w.heap.size + 2 ≤ w1.heap.size := by have := lt_of_block D1.n; omega
          generalize hdOf P.head = h at *
          obtain ⟨wd, ht, kd, dp, ps⟩ := h
          simp only at f1 f2 f3
          have a1 := (Pm.sideB_iff _).1 f1
          have a2 := (Pm.sideB_iff _).1 f2
          have a3 := Pm.chan_depth _ _ f3
          have a4 := Pm.chan_range kd dp
          obtain ⟨W, rfl⟩ := Int.eq_ofNat_of_zero_le (a := wd) (by omega)
          obtain ⟨H, rfl⟩ := Int.eq_ofNat_of_zero_le (a := ht) (by omega)
          obtain ⟨D, rfl⟩ := Int.eq_ofNat_of_zero_le (a := dp) (by omega)
          obtain ⟨n, hn⟩ := Int.eq_ofNat_of_zero_le (a := Pm.chan kd D) (by omega)
          have hraw : rawOf ⟨W, H, kd, D, ps⟩ = Pm.raw W H ((n * D : Nat) : Int) ps := by
            unfold rawOf
            dsimp only
            rw [hn]
            push_cast
            rfl
          have hrw := fun u => raw15 W H kd D ps u (by omega) (by omega) a3
          rw [Pm.ref_raw W H (by omega), show Pm.raw W H (Pm.chan kd D * D) ps = rawOf ⟨W, H, kd, D, ps⟩ from rfl] at hrw
          obtain ⟨r, hr⟩ : ∃ r, r = rawOf ⟨W, H, kd, D, ps⟩ := ⟨_, rfl⟩
          rw [← hr] at hrw HD2 hraw hrr
          obtain ⟨y0, y1, y2, y3, y4, y5, y6⟩ := cells7 m2
          have HW2 : Hid (_ ∧ _ ∧ _) := ⟨D2, m2, hv2⟩
          have HF : Hid (_ ∧ _ ∧ _ ∧ _) := ⟨hn, hraw, hr, f3⟩
          clear D1 D2 b2 h2 gc hv1 m2 hv2 HDE HV1 HP hraw hr f1 f2 hn
          go_wp2_with fail
          refine (hrw _).mono ?_
          rintro e w3 ⟨rfl, b3⟩
          simp only [World.size_alloc] at b3
          clear hrw y0 y1 y2 y3 y4 y5 y6
          obtain ⟨D2, m2, hv2⟩ := HW2.out
          have b3' : Below (w2.alloc (.cells (hdCells ⟨W, H, kd, D, ps⟩) 30)).heap.size (w2.alloc (.cells (hdCells ⟨W, H, kd, D, ps⟩) 30)) w3 := by rw [World.size_alloc]; exact b3
          have D3 := D2.below b3'
          have m3 := (b3.block w2.heap.size (by omega)).trans m2
          have hv3 : ChV w3 (.slice (some ⟨g, 0, none⟩) L.length vcap) L := by
            constructor
            rcases hv2.shape with h | ⟨g', cap, h1, h2', h3, h4⟩
            · exact .inl h
            · exact .inr ⟨g', cap, h1, Nat.lt_of_lt_of_le h2' b3'.size, h3, fun j hj => ⟨(b3'.cell (p := ⟨g', j * 2, none⟩) h2').trans (h4 j hj).1, (b3'.cell (p := ⟨g', j * 2 + 1, none⟩) h2').trans (h4 j hj).2⟩⟩
          have b3s := b3.size
          simp only [World.size_alloc] at b3s
          clear D2 m2 hv2 b3 b3' HW2
          by_cases hbig : limit < r ∨ 4194304 < r
          · have HDx : Hid (decOf b limit = .error 7) := by show _ = _; rw [HD2.out, if_pos hbig]
            by_cases hb1 : limit < r
            · clear hbig
              obtain ⟨f1, f2⟩ := D3.fin
              obtain ⟨c0, c1, c2, c3, c4, c5, c6, cf, cl⟩ := cells7H D3.r
              obtain ⟨d0, d1, d2, d3, d4, d5, d6, df, dl⟩ := cells7H D3.n
              obtain ⟨r0, r1, r2, r3, r4, r5, r6⟩ := cells7 f1
              have HE : Hid (_ ∧ _) := ⟨(HDx.out : decOf b limit = .error 7), f2⟩
              clear f1 f2 D3 m3 hv3
              go_wp2
              exact bodyPost_ret (v := .tuple #[.agg hdZero, .int .i64 7, .slice none 0 0, .string ⟨#[]⟩]) (by simp [results, Tryz.results12, go_sem, r0, r1, r2, r3, r4, r5, r6]) rfl (.no HE.out.1 HE.out.2)
            · have hb2 : 4194304 < r := by omega
              clear hbig
              obtain ⟨f1, f2⟩ := D3.fin
              obtain ⟨c0, c1, c2, c3, c4, c5, c6, cf, cl⟩ := cells7H D3.r
              obtain ⟨d0, d1, d2, d3, d4, d5, d6, df, dl⟩ := cells7H D3.n
              obtain ⟨r0, r1, r2, r3, r4, r5, r6⟩ := cells7 f1
              have HE : Hid (_ ∧ _) := ⟨(HDx.out : decOf b limit = .error 7), f2⟩
              clear f1 f2 D3 m3 hv3
              go_wp2
              exact bodyPost_ret (v := .tuple #[.agg hdZero, .int .i64 7, .slice none 0 0, .string ⟨#[]⟩]) (by simp [results, Tryz.results12, go_sem, r0, r1, r2, r3, r4, r5, r6]) rfl (.no HE.out.1 HE.out.2)
          · have hb1 : ¬ limit < r := by omega
            have hb2 : ¬ 4194304 < r := by omega
            have HD3 : Hid (decOf b limit = if palOk kd D P.pal = false then .error 3 else dataOf ⟨W, H, kd, D, ps⟩ P) := by show _ = _; rw [HD2.out, if_neg hbig]
            have hcl := coloursR W H kd D ps (.slice none 0 0) (.slice none 0 0) L P.pal (.slice (some ⟨g, 0, none⟩) L.length vcap) w3 hv3 hLl hsum HJP.out.2.1 HJP.out.2.2 HF.out.2.2.2 (fun q hq => by have := HPZ.out.2 q hq; omega) ⟨_, _, _, rfl⟩
            obtain ⟨y0, y1, y2, y3, y4, y5, y6⟩ := cells7 m3
            have HW3 : Hid (_ ∧ _ ∧ _) := ⟨D3, m3, hv3⟩
            clear hbig HD2 D3 m3 hv3
            go_wp2_with fail
            refine hcl.mono ?_
            intro e w4 he
            clear hcl y0 y1 y2 y3 y4 y5 y6
            cases he with
            | no h4 b4 =>
              have D4 := HW3.out.1.below b4
              obtain ⟨f1, f2⟩ := D4.fin
              obtain ⟨c0, c1, c2, c3, c4, c5, c6, cf, cl⟩ := cells7H D4.r
              obtain ⟨d0, d1, d2, d3, d4, d5, d6, df, dl⟩ := cells7H D4.n
              obtain ⟨r0, r1, r2, r3, r4, r5, r6⟩ := cells7 f1
              have HE : Hid (_ ∧ _) := ⟨(by rw [HD3.out, if_pos h4] : decOf b limit = .error 3), f2⟩
              clear f1 f2 D4 b4 h4
              go_wp2
              exact bodyPost_ret (v := .tuple #[.agg hdZero, .int .i64 3, .slice none 0 0, .string ⟨#[]⟩]) (by simp [results, Tryz.results12, go_sem, r0, r1, r2, r3, r4, r5, r6]) rfl (.no HE.out.1 HE.out.2)
            | @ok _ pv h4 ho4 b4 =>
              have HD4 : Hid (decOf b limit = dataOf ⟨W, H, kd, D, ps⟩ P) := by show _ = _; rw [HD3.out, if_neg (by rw [h4]; decide)]
              obtain ⟨D3, m3, hv3⟩ := HW3.out
              have D4 := D3.below b4
              have m4 := (b4.block w2.heap.size (by omega)).trans m3
              have hv4 : ChV w4 (.slice (some ⟨g, 0, none⟩) L.length vcap) L := by
                constructor
                rcases hv3.shape with h | ⟨g', cap, h1, h2', h3, h4⟩
                · exact .inl h
                · exact .inr ⟨g', cap, h1, Nat.lt_of_lt_of_le h2' b4.size, h3, fun j hj => ⟨(b4.cell (p := ⟨g', j * 2, none⟩) h2').trans (h4 j hj).1, (b4.cell (p := ⟨g', j * 2 + 1, none⟩) h2').trans (h4 j hj).2⟩⟩
              have hip := own_intL ho4
              have hjd := joinedR ⟨#[73, 68, 65, 84]⟩ nIDAT (by rw [ByteArray.toList_eq]) L _ w4 hv4 hLl hsum
              rw [HJP.out.1] at hjd
              have b4s := b4.size
              have huw := unwrap16 P.data r w4 (by have := HPZ.out.1; omega) (fineW_all P.data r w4 (by have := HPZ.out.1; omega) (by omega) (by omega))
              obtain ⟨pl, hpl⟩ : ∃ pl, pl = palOf kd P.pal := ⟨_, rfl⟩
              rw [← hpl] at hip
              obtain ⟨pao, pcap, pe, _⟩ := hip.ex
              have HPL : Hid (pl = palOf kd P.pal) := hpl
              have HW4 : Hid (_ ∧ _ ∧ _) := ⟨D4, m4, hip.mono (B' := w2.heap.size + 1) (by omega)⟩
              have hjn : joinN nIDAT L ≤ 1000000 := Nat.le_trans (joinN_le _ _) hLl
              generalize joinN nIDAT L = jn at *
              subst pe
              clear HW3 HD3 h4 ho4 b4 D3 m3 hv3 D4 m4 hv4 hip hpl
              go_wp2_with fail
              refine hjd.mono ?_
              rintro e w' ⟨rfl, hw'⟩
              subst w'
              clear hjd
              go_wp2_with fail
              refine huw.mono ?_
              rintro e w5 ⟨rfl, b5⟩
              clear huw
              have HDD : Hid (decOf b limit = if wcode P.data r = 7 ∨ (wcode P.data r = 0 ∧ ((wtext P.data r).size : Int) ≠ r) then .error 14 else if wcode P.data r ≠ 0 then .error (wcode P.data r) else lateOf ⟨W, H, kd, D, ps⟩ P.pal (wtext P.data r)) := by
                show _ = _
                rw [HD4.out, dataOf, ← HF.out.2.2.1]
              obtain ⟨D4, m4, hip⟩ := HW4.out
              have D5 := D4.below b5
              have m5 := (b5.block w2.heap.size (by omega)).trans m4
              have hip5 := hip.below b5
              have b5s := b5.size
              generalize wcode P.data r = c at *
              generalize wtext P.data r = tx at *
              clear HW4 HD4 D4 m4 hip b5
              by_cases c7 : c = 7
              · have HDx : Hid (decOf b limit = .error 14) := by show _ = _; rw [HDD.out, if_pos (.inl c7)]
                subst c7
                obtain ⟨f1, f2⟩ := D5.fin
                obtain ⟨c0, c1, c2, c3, c4, c5, c6, cf, cl⟩ := cells7H D5.r
                obtain ⟨d0, d1, d2, d3, d4, d5, d6, df, dl⟩ := cells7H D5.n
                obtain ⟨r0, r1, r2, r3, r4, r5, r6⟩ := cells7 f1
                have HE : Hid (_ ∧ _) := ⟨(HDx.out : decOf b limit = .error 14), f2⟩
                clear f1 f2 D5 m5 hip5
                go_wp2
                exact bodyPost_ret (v := .tuple #[.agg hdZero, .int .i64 14, .slice none 0 0, .string ⟨#[]⟩]) (by simp [results, Tryz.results12, go_sem, r0, r1, r2, r3, r4, r5, r6]) rfl (.no HE.out.1 HE.out.2)
              · have c7' : (c == 7) = false := beq_eq_false_iff_ne.2 c7
                by_cases c0 : c = 0
                · subst c0
                  by_cases hts : (tx.size : Int) = r
                  · have ht' : ((tx.size : Int) != r) = false := by rw [hts]; simp
                    have HD7 : Hid (decOf b limit = lateOf ⟨W, H, kd, D, ps⟩ P.pal tx) := by
                      show _ = _
                      rw [HDD.out, if_neg (by intro h; rcases h with h | h; exact c7 h; exact h.2 hts), if_neg (fun h => h rfl)]
                    have hn14 : 1 ≤ n ∧ n ≤ 4 := by have h1 := HF.out.1; have h2 := HF.out.2.2.2; omega
                    have hpc := pictureR W H n D kd ps (.slice none 0 0) (.slice none 0 0) tx w5 (by rw [← HF.out.2.1]; exact hts.symm) (by omega) HF.out.1 hn14 (by omega) (by omega)
                    obtain ⟨y0, y1, y2, y3, y4, y5, y6⟩ := cells7 m5
                    have HW5 : Hid (_ ∧ _ ∧ _) := ⟨D5, m5, hip5⟩
                    clear HDD hts D5 m5 hip5
                    go_wp2_with fail
                    refine hpc.mono ?_
                    intro e w6 he
                    clear hpc y0 y1 y2 y3 y4 y5 y6
                    cases he with
                    | no h1 b6 =>
                      have D6 := HW5.out.1.below b6
                      obtain ⟨f1, f2⟩ := D6.fin
                      obtain ⟨c0, c1, c2, c3, c4, c5, c6, cf, cl⟩ := cells7H D6.r
                      obtain ⟨d0, d1, d2, d3, d4, d5, d6, df, dl⟩ := cells7H D6.n
                      obtain ⟨r0, r1, r2, r3, r4, r5, r6⟩ := cells7 f1
                      have HE : Hid (_ ∧ _) := ⟨(by rw [HD7.out]; unfold lateOf; show (match Pm.pict ⟨W, H, (Pm.chan kd D).toNat, D⟩ (byteAt tx) ps with | none => _ | some l => _) = _; rw [show (Pm.chan kd D).toNat = n by rw [HF.out.1]; rfl, h1] : decOf b limit = .error 15), f2⟩
                      clear f1 f2 D6 b6 h1
                      go_wp2
                      exact bodyPost_ret (v := .tuple #[.agg hdZero, .int .i64 15, .slice none 0 0, .string ⟨#[]⟩]) (by simp [results, Tryz.results12, go_sem, r0, r1, r2, r3, r4, r5, r6]) rfl (.no HE.out.1 HE.out.2)
                    | @ok _ l G h1 h5 h6 b6 =>
                      have hfl := Pm.pict_fine _ _ _ _ h1
                      have HLT : Hid (lateOf ⟨W, H, kd, D, ps⟩ P.pal tx = if kd = 3 ∧ Pm.allB l ((pl.length : Int) / 3) = false then .error 16 else .ok ⟨⟨W, H, kd, D, ps⟩, pl, l⟩) := by
                        show _ = _
                        unfold lateOf
                        show (match Pm.pict ⟨W, H, (Pm.chan kd D).toNat, D⟩ (byteAt tx) ps with | none => _ | some l => _) = _
                        rw [show (Pm.chan kd D).toNat = n by rw [HF.out.1]; rfl, h1, HPL.out]
                      obtain ⟨D5, m5, hip5⟩ := HW5.out
                      have D6 := D5.below b6
                      have m6 := (b6.block w2.heap.size (by omega)).trans m5
                      have hip6 := hip5.below b6
                      have b6s := b6.size
                      have hlb : l.length ≤ 100000000 := by
                        rw [hfl.1]
                        show W * H * n ≤ _
                        have : W * H * n ≤ 5000 * 5000 * 4 := Nat.mul_le_mul (Nat.mul_le_mul (by omega) (by omega)) hn14.2
                        omega
                      have HLI : Hid (Ints w6 (some ⟨G, 0, none⟩) l ∧ ∀ y ∈ l, 0 ≤ y) := ⟨Lst.ints h5, hfl.2⟩
                      have HEND : Hid (_) := dec_end (W := W) (H := H) (D := D) (kd := kd) (ps := ps) (MB := w2.heap.size) D6 hip6 h5 (by omega) (by omega) (by omega)
                      have HD6 : Hid (_) := D6
                      obtain ⟨y0, y1, y2, y3, y4, y5, y6, yf, yl⟩ := cells7H m6
                      obtain ⟨x0, x1, x2, x3, x4, x5, x6, xf, xl⟩ := cells7H D6.r
                      have hplb : pl.length ≤ 5000000 := by
                        rw [HPL.out]
                        unfold palOf
                        split
                        · rw [palL_length]
                          cases hp : P.pal with
                          | none => show (0 : Nat) ≤ _; omega
                          | some p => show p.size ≤ _; have := HPZ.out.2 p hp; omega
                        · exact Nat.zero_le _
                      have nMB : w.heap.size ≠ w2.heap.size := by omega
                      clear D5 m5 hip5 D6 m6 hip6 h1 h5 b6 HW5 hfl
                      go_wp2
                      go_loop [19] (fun ix => ∃ k : Nat, k ≤ l.length ∧ ix = .int .i64 k ∧ Hid (kd = 3 → Pm.allB (l.take k) ((pl.length : Int) / 3) = true)) (fun ix => l.length - (intOf ix).toNat)
                      case atStart => exact ⟨0, Nat.zero_le _, rfl, fun _ => rfl⟩
                      case round =>
                        obtain ⟨k, hk, rfl, HA⟩ := hrel
                        by_cases k3 : kd = 3
                        · have k3' : (kd == 3) = true := beq_iff_eq.2 k3
                          by_cases hlt : k < l.length
                          · have hlt' : (k : Int) < (l.length : Int) := by omega
                            obtain ⟨gb, go, ge, gcell⟩ := HLI.out.1 k hlt
                            injection ge with ge
                            injection ge with ge1 ge2
                            subst ge1 ge2
                            rw [Nat.zero_add] at gcell
                            obtain ⟨x, hx⟩ : ∃ x : Int, x = l[k] := ⟨_, rfl⟩
                            rw [← hx] at gcell
                            have hx0 := HLI.out.2 x (by rw [hx]; exact List.getElem_mem hlt)
                            have HX : Hid (x = l[k]) := hx
                            clear hx
                            by_cases hge : (pl.length : Int) / 3 ≤ x
                            · have HER : Hid (decOf b limit = .error 16) := by
                                show _ = _
                                rw [HD7.out, HLT.out]
                                exact if_pos ⟨k3, Pm.allB_no l k hlt _ (by rw [← HX.out]; omega)⟩
                              have hge' : x ≥ (pl.length : Int) / 3 := hge
                              have D6 := HD6.out
                              clear HEND HLT HD7 k3 x0 x1 x2 x3 x4 x5 x6 xf xl
                              obtain ⟨f1, f2⟩ := D6.fin
                              obtain ⟨c0, c1, c2, c3, c4, c5, c6, cf, cl⟩ := cells7H D6.r
                              obtain ⟨d0, d1, d2, d3, d4, d5, d6, df, dl⟩ := cells7H D6.n
                              obtain ⟨r0, r1, r2, r3, r4, r5, r6⟩ := cells7 f1
                              have HE : Hid (_ ∧ _) := ⟨(HER.out : decOf b limit = .error 16), f2⟩
                              clear f1 f2 D6
                              go_wp2
                              exact bodyPost_ret (v := .tuple #[.agg hdZero, .int .i64 16, .slice none 0 0, .string ⟨#[]⟩]) (by simp [results, Tryz.results12, go_sem, r0, r1, r2, r3, r4, r5, r6]) rfl (.no HE.out.1 HE.out.2)
                            · have HF2 : Hid (kd = 3 → Pm.allB (l.take (k + 1)) ((pl.length : Int) / 3) = true) := fun h => by
                                rw [Pm.allB_snoc l k hlt, HA.out h, ← HX.out]
                                simp
                                omega
                              have hge' : ¬ x ≥ (pl.length : Int) / 3 := hge
                              clear HEND HLT HD7 k3 HA
                              go_wp2
                              go_round
                              case rel => exact ⟨k + 1, by omega, by go_num, HF2⟩
                              case measure => simp [intOf]; omega
                          · have hnlt : ¬ (k : Int) < (l.length : Int) := by omega
                            have HOK : Hid (decOf b limit = .ok ⟨⟨W, H, kd, D, ps⟩, pl, l⟩) := by
                              show _ = _
                              rw [HD7.out, HLT.out]
                              refine if_neg (fun h => ?_)
                              have h2 := HA.out k3
                              rw [List.take_of_length_le (by omega)] at h2
                              rw [h2] at h
                              cases h.2
                            clear HLT HD7 k3
                            obtain ⟨hend, hbe, ip, isv⟩ := HEND.out
                            obtain ⟨r0, r1, r2, r3, r4, r5, r6⟩ := cells7 hend
                            have HE : Hid (_ ∧ _ ∧ _ ∧ _) := ⟨HOK.out, ip, isv, hbe⟩
                            clear hend hbe ip isv HEND HA
                            go_wp2
                            exact bodyPost_ret (v := .tuple #[resV ⟨⟨W, H, kd, D, ps⟩, pl, l⟩ (.slice pao pl.length pcap) (.slice (some ⟨G, 0, none⟩) l.length l.length), .int .i64 0, .slice (some ⟨g, 0, none⟩) L.length vcap, .string tx]) (by simp [results, Tryz.results12, go_sem, r0, r1, r2, r3, r4, r5, r6]) rfl (.ok HE.out.1 HE.out.2.1 HE.out.2.2.1 HE.out.2.2.2 ⟨hplb, hlb⟩)
                        · have k3' : (kd == 3) = false := beq_eq_false_iff_ne.2 k3
                          have HOK : Hid (decOf b limit = .ok ⟨⟨W, H, kd, D, ps⟩, pl, l⟩) := by
                            show _ = _
                            rw [HD7.out, HLT.out]
                            exact if_neg (fun h => k3 h.1)
                          clear HLT HD7 k3
                          obtain ⟨hend, hbe, ip, isv⟩ := HEND.out
                          obtain ⟨r0, r1, r2, r3, r4, r5, r6⟩ := cells7 hend
                          have HE : Hid (_ ∧ _ ∧ _ ∧ _) := ⟨HOK.out, ip, isv, hbe⟩
                          clear hend hbe ip isv HEND HA
                          by_cases hlt : k < l.length
                          · have hlt' : (k : Int) < (l.length : Int) := by omega
                            go_wp2
                            exact bodyPost_ret (v := .tuple #[resV ⟨⟨W, H, kd, D, ps⟩, pl, l⟩ (.slice pao pl.length pcap) (.slice (some ⟨G, 0, none⟩) l.length l.length), .int .i64 0, .slice (some ⟨g, 0, none⟩) L.length vcap, .string tx]) (by simp [results, Tryz.results12, go_sem, r0, r1, r2, r3, r4, r5, r6]) rfl (.ok HE.out.1 HE.out.2.1 HE.out.2.2.1 HE.out.2.2.2 ⟨hplb, hlb⟩)
                          · have hnlt : ¬ (k : Int) < (l.length : Int) := by omega
                            go_wp2
                            exact bodyPost_ret (v := .tuple #[resV ⟨⟨W, H, kd, D, ps⟩, pl, l⟩ (.slice pao pl.length pcap) (.slice (some ⟨G, 0, none⟩) l.length l.length), .int .i64 0, .slice (some ⟨g, 0, none⟩) L.length vcap, .string tx]) (by simp [results, Tryz.results12, go_sem, r0, r1, r2, r3, r4, r5, r6]) rfl (.ok HE.out.1 HE.out.2.1 HE.out.2.2.1 HE.out.2.2.2 ⟨hplb, hlb⟩)
                  · have ht' : ((tx.size : Int) != r) = true := by simp [hts]
                    have HDx : Hid (decOf b limit = .error 14) := by show _ = _; rw [HDD.out, if_pos (.inr ⟨rfl, hts⟩)]
                    clear hts
                    obtain ⟨f1, f2⟩ := D5.fin
                    obtain ⟨c0, c1, c2, c3, c4, c5, c6, cf, cl⟩ := cells7H D5.r
                    obtain ⟨d0, d1, d2, d3, d4, d5, d6, df, dl⟩ := cells7H D5.n
                    obtain ⟨r0, r1, r2, r3, r4, r5, r6⟩ := cells7 f1
                    have HE : Hid (_ ∧ _) := ⟨(HDx.out : decOf b limit = .error 14), f2⟩
                    clear f1 f2 D5 m5 hip5
                    go_wp2
                    exact bodyPost_ret (v := .tuple #[.agg hdZero, .int .i64 14, .slice none 0 0, .string ⟨#[]⟩]) (by simp [results, Tryz.results12, go_sem, r0, r1, r2, r3, r4, r5, r6]) rfl (.no HE.out.1 HE.out.2)
                · have c0' : (c == 0) = false := beq_eq_false_iff_ne.2 c0
                  have c0n : (c != 0) = true := by simp [c0]
                  have HDx : Hid (decOf b limit = .error c) := by show _ = _; rw [HDD.out, if_neg (by intro h; rcases h with h | h; exact c7 h; exact c0 h.1), if_pos c0]
                  obtain ⟨f1, f2⟩ := D5.fin
                  obtain ⟨c0, c1, c2, c3, c4, c5, c6, cf, cl⟩ := cells7H D5.r
                  obtain ⟨d0, d1, d2, d3, d4, d5, d6, df, dl⟩ := cells7H D5.n
                  obtain ⟨r0, r1, r2, r3, r4, r5, r6⟩ := cells7 f1
                  have HE : Hid (_ ∧ _) := ⟨(HDx.out : decOf b limit = .error c), f2⟩
                  clear f1 f2 D5 m5 hip5
                  go_wp2
                  exact bodyPost_ret (v := .tuple #[.agg hdZero, .int .i64 c, .slice none 0 0, .string ⟨#[]⟩]) (by simp [results, Tryz.results12, go_sem, r0, r1, r2, r3, r4, r5, r6]) rfl (.no HE.out.1 HE.out.2)
  · have hsg : sigB b = false := by simpa using hsig
    have HE : Hid (decOf b limit = .error 10) := dec_parts (parts_sig hsg)
    by_cases h8 : 8 ≤ b.size
    · have hsg2 : ((b.extract 0 8).toList == [137, 80, 78, 71, 13, 10, 26, 10]) = false := by
        unfold sigB at hsg
        rw [decide_eq_true h8, Bool.true_and] at hsg
        exact hsg
      have hn8 : ¬ (b.size : Int) < 8 := by omega
      have h8i : (8 : Int) ≤ (b.size : Int) := by omega
      clear hsig hsg
      go_enter Tryz.func12, Tryz.ntmps12
      go_wp2
      exact bodyPost_ret (v := .tuple #[.agg hdZero, .int .i64 10, .slice none 0 0, .string ⟨#[]⟩]) (by simp [results, Tryz.results12, go_sem, a0, a1, a2, a3, a4, a5, a6]) rfl (.no HE.out HD0.out.be)
    · have hn8 : (b.size : Int) < 8 := by omega
      clear hsig hsg
      go_enter Tryz.func12, Tryz.ntmps12
      go_wp2
      exact bodyPost_ret (v := .tuple #[.agg hdZero, .int .i64 10, .slice none 0 0, .string ⟨#[]⟩]) (by simp [results, Tryz.results12, go_sem, a0, a1, a2, a3, a4, a5, a6]) rfl (.no HE.out HD0.out.be)
end Go.Proofs.YtmfijackgekioaaGreatDoor
