import Derived.Test.YtmfijackgekioaaGreatQGm

/-
  The steps of a part: the program. For Deflates.
-/
namespace Go.Proofs.YtmfijackgekioaaGreat
open Go.RowKit Go.Maps

/-- Where the text repeats, a step goes as far as it may. -/
def Rf.Big (T : List UInt8) (per e p l : Nat) : Prop := per ≤ p → per ≤ 32768 → (∀ k, k < min (e - p) 258 → T.getD (p + k) 0 = T.getD (p + k - per) 0) → l = if 3 ≤ min (e - p) 258 then min (e - p) 258 else 1
def Rf.Bigs (T : List UInt8) (per e : Nat) : Nat → List (Nat × Nat) → Prop
  | _, [] => True
  | p, s :: r => Rf.Big T per e p s.1 ∧ Rf.Bigs T per e (p + s.1) r
theorem bigs_snoc {T : List UInt8} {per e : Nat} : ∀ (S : List (Nat × Nat)) (p q : Nat) (s : Nat × Nat), Rf.Bigs T per e p S → Rf.Fits T p S q → Rf.Big T per e q s.1 → Rf.Bigs T per e p (S ++ [s])
  | [], p, q, s, _, h, hs => by
    cases h
    exact ⟨hs, trivial⟩
  | x :: r, p, q, s, hb, h, hs => ⟨hb.1, bigs_snoc r (p + x.1) q s hb.2 h.2 hs⟩
theorem best_big {T : List UInt8} {per e p l d : Nat} (h : BestP T per p (min (e - p) 258) l d) : Rf.Big T per e p l := by
  intro h1 h2 h3
  obtain ⟨ho, hm⟩ := h
  split
  · rename_i h4
    have := hm h1 h2 _ (Nat.le_refl _) h4 h3
    rcases ho with ⟨rfl, _⟩ | ⟨_, q, _⟩ <;> omega
  · rcases ho with ⟨rfl, _⟩ | ⟨q1, q2, _⟩ <;> omega
theorem best_lazy {T : List UInt8} {per e p l d x1 x2 : Nat} (h : BestP T per p (min (e - p) 258) l d) (k : BestP T per (p + 1) (min (e - (p + 1)) 258) x1 x2) (hlt : l < x1) : Rf.Big T per e p 1 := by
  intro h1 h2 h3
  have hb := best_big h h1 h2 h3
  split
  · rename_i h4
    rw [if_pos h4] at hb
    rcases k.1 with ⟨rfl, _⟩ | ⟨_, q, _⟩ <;> omega
  · rfl

/-- What the walk over a part keeps, beside the two steps in hand. -/
structure Walk (w0 w : World) (F M G Xs en per : Nat) (T : ByteArray) (start n p : Nat) (S : List (Nat × Nat)) (sv0 sv : Value) (H : Nat) : Prop where
  fd : Fd w F M G en per T n
  st : Stl w Xs S sv
  fit : Rf.Fits T.data.toList start S p
  big : Rf.Bigs T.data.toList per (min (start + 65535) T.size) start S
  ow : sv.ownBlock ≠ some H ∧ (sv.ownBlock = sv0.ownBlock ∨ ∃ g, sv.ownBlock = some g ∧ w0.heap.size ≤ g)
  kp : Kp (fun k => k = M ∨ k = G ∨ k = Xs ∨ sv0.ownBlock = some k) w0 w
  ne : F < Xs ∧ M < Xs ∧ G < Xs ∧ Xs < H ∧ w0.heap.size ≤ H ∧ Xs < w0.heap.size

theorem Walk.kept {w0 w w' : World} {F M G Xs en per start n p H : Nat} {T : ByteArray} {S : List (Nat × Nat)} {sv0 sv : Value} (h : Walk w0 w F M G Xs en per T start n p S sv0 sv H) (k : Kp (fun k => k = H ∨ (H < k ∧ sv.ownBlock ≠ some k)) w w') : Walk w0 w' F M G Xs en per T start n p S sv0 sv H := by
  obtain ⟨n1, n2, n3, n4, n5, n6⟩ := h.ne
  obtain ⟨l1, l2, l3⟩ := h.fd.lt
  have hx := lt_of_block h.st.box
  refine ⟨h.fd.kept (fun j hj => k.block j (by rcases hj with rfl | rfl | rfl <;> assumption) (fun e => by rcases hj with rfl | rfl | rfl <;> omega)), h.st.kept (fun j hj => ?_), h.fit, h.big, h.ow, ?_, h.ne⟩
  · rcases hj with rfl | hj
    · exact k.block _ hx (fun e => by omega)
    · exact k.block j (h.st.lt j hj).2 (fun e => by
        rcases e with rfl | e
        · exact h.ow.1 hj
        · exact e.2 hj)
  · exact h.kp.then k (fun i hi e => by omega)
theorem Walk.below {w0 w w' : World} {F M G Xs en per start n p H : Nat} {T : ByteArray} {S : List (Nat × Nat)} {sv0 sv : Value} (h : Walk w0 w F M G Xs en per T start n p S sv0 sv H) (k : Below w.heap.size w w') : Walk w0 w' F M G Xs en per T start n p S sv0 sv H := h.kept (Kp.ofBelow k)
/-- A step in hand is turned. -/
theorem Walk.set2 {w0 w : World} {F M G Xs en per start n p H : Nat} {T : ByteArray} {S : List (Nat × Nat)} {sv0 sv : Value} (h : Walk w0 w F M G Xs en per T start n p S sv0 sv H) (X : Nat) (hX : X = H ∨ (H < X ∧ sv.ownBlock ≠ some X)) (a b : Value) : Walk w0 ((w.setCell ⟨X, 0, none⟩ a).setCell ⟨X, 1, none⟩ b) F M G Xs en per T start n p S sv0 sv H :=
  h.kept (((Kp.refl _ w).setCell (p := ⟨X, 0, none⟩) (.inl hX) a).setCell (p := ⟨X, 1, none⟩) (.inl hX) b)
theorem Walk.rem {w0 w w' : World} {F M G Xs en per start n n' p H : Nat} {T : ByteArray} {S : List (Nat × Nat)} {sv0 sv : Value} (h : Walk w0 w F M G Xs en per T start n p S sv0 sv H) (k : Kp (fun k => k = M ∨ k = G) w w') (hf : Fd w' F M G en per T n') : Walk w0 w' F M G Xs en per T start n' p S sv0 sv H := by
  obtain ⟨n1, n2, n3, n4, n5, n6⟩ := h.ne
  have hx := lt_of_block h.st.box
  refine ⟨hf, h.st.kept (fun j hj => ?_), h.fit, h.big, h.ow, h.kp.then k (fun i _ e => by rcases e with rfl | rfl; exact .inl rfl; exact .inr (.inl rfl)), h.ne⟩
  rcases hj with rfl | hj
  · exact k.block _ hx (fun e => by omega)
  · have := h.st.lt j hj
    exact k.block j this.2 (fun e => by omega)
theorem Walk.push {w0 w w' : World} {F M G Xs en per start n p H l d : Nat} {T : ByteArray} {S : List (Nat × Nat)} {sv0 sv sv' : Value} (h : Walk w0 w F M G Xs en per T start n p S sv0 sv H) (hs : Stl w' Xs (S ++ [(l, d)]) sv') (ho : sv'.ownBlock = sv.ownBlock ∨ ∃ g, sv'.ownBlock = some g ∧ w.heap.size ≤ g) (k : Kp (fun k => k = Xs ∨ sv.ownBlock = some k) w w') (hst : Rf.StepOk T.data.toList p (l, d)) (hbig : Rf.Big T.data.toList per (min (start + 65535) T.size) p l) (hH : H < w.heap.size) :
    Walk w0 w' F M G Xs en per T start n (p + l) (S ++ [(l, d)]) sv0 sv' H := by
  obtain ⟨n1, n2, n3, n4, n5, n6⟩ := h.ne
  obtain ⟨l1, l2, l3⟩ := h.fd.lt
  have hrow : ∀ j, sv.ownBlock = some j → Xs + 1 ≤ j := fun j hj => (h.st.lt j hj).1
  refine ⟨h.fd.kept (fun j hj => k.block j (by rcases hj with rfl | rfl | rfl <;> assumption) (fun e => by rcases e with e | e; (rcases hj with rfl | rfl | rfl <;> omega); (have := hrow j e; rcases hj with rfl | rfl | rfl <;> omega))), hs, fits_snoc _ S start p (l, d) h.fit hst, bigs_snoc S start p (l, d) h.big h.fit hbig, ⟨fun e => ?_, ?_⟩, h.kp.then k (fun i hi e => ?_), h.ne⟩
  · rcases ho with ho | ⟨g, hg, hge⟩
    · exact h.ow.1 (ho ▸ e)
    · rw [hg] at e
      cases e
      omega
  · rcases ho with ho | ⟨g, hg, hge⟩
    · rw [ho]; exact h.ow.2
    · exact .inr ⟨g, hg, by have := h.kp.size; omega⟩
  · rcases e with rfl | e
    · exact .inr (.inr (.inl rfl))
    · rcases h.ow.2 with q | ⟨g, hg, hge⟩
      · exact .inr (.inr (.inr (q ▸ e)))
      · rw [hg] at e
        cases e
        omega
theorem fits_len (T : List UInt8) : ∀ {p q : Nat} {S : List (Nat × Nat)}, Rf.Fits T p S q → p + S.length ≤ q
  | _, _, [], h => Nat.le_of_eq h
  | p, q, s :: r, h => by
    have := fits_len T h.2
    have h1 : 1 ≤ s.1 := by rcases h.1 with ⟨_, b, _⟩ | ⟨b, _⟩ <;> omega
    rw [List.length_cons]
    omega
theorem box_kp {w w' : World} {Q : Nat → Prop} {X : Nat} {o : Obj} (h : w.heap[X]? = some o) (k : Kp Q w w') (hq : ¬ Q X) : w'.heap[X]? = some o := (k.block X (lt_of_block h) hq).trans h

set_option maxRecDepth 100000 in
set_option maxHeartbeats 8000000 in
theorem steps76 (F M G Xs en per start end_ : Nat) (T : ByteArray) (sv0 : Value) (w : World) (hf : Fd w F M G en per T start) (hs : Stl w Xs [] sv0) (hne : F < Xs ∧ M < Xs ∧ G < Xs) (hse : start ≤ end_) (hel : end_ ≤ start + 65535) (he : end_ ≤ T.size) (hend : end_ = min (start + 65535) T.size) (hT : T.size ≤ 4500000) (hper : 0 < T.size → 1 ≤ per) (hpT : per ≤ 4500000) :
    Calls Tryz.prog 62 #[.pointer (some ⟨F, 0, none⟩), .int .i64 start, .int .i64 end_, .func (.func 63) #[] #[.pointer (some ⟨Xs, 0, none⟩)]] w fun e w' => e = .returned (.tuple #[]) ∧ ∃ S sv, Fd w' F M G en per T end_ ∧ Stl w' Xs S sv ∧ (Rf.Fits T.data.toList start S end_ ∧ Rf.Bigs T.data.toList per (min (start + 65535) T.size) start S) ∧ (sv.ownBlock = sv0.ownBlock ∨ ∃ g, sv.ownBlock = some g ∧ w.heap.size ≤ g) ∧ Kp (fun k => k = M ∨ k = G ∨ k = Xs ∨ sv0.ownBlock = some k) w w' := by
  have hcall := call77
  have HEND : Hid (min (start + 65535) T.size = end_) := hend.symm
  clear hend
  have HTT : Hid (start ≤ end_ ∧ end_ ≤ T.size ∧ T.size ≤ 4500000) := ⟨hse, he, hT⟩
  have HPER : Hid ((0 < T.size → 1 ≤ per) ∧ per ≤ 4500000) := ⟨hper, hpT⟩
  have hTl : T.data.toList.length = T.size := by rw [Array.length_toList]; rfl
  go_enter Tryz.func62, Tryz.ntmps62
  go_wp2_with fail
  refine (longest87 F M G en per start end_ T w hf hse he hT hper hpT).mono ?_
  rintro e w1 ⟨l0, d0, rfl, hbo0, hb1⟩
  go_wp2
  have k1 := below_alloc w1 (.cells #[.int .i64 (l0 : Nat), .int .i64 (d0 : Nat)] 101)
  have x1 := blk_new w1 (.cells #[.int .i64 (l0 : Nat), .int .i64 (d0 : Nat)] 101)
  have B1 : Below w.heap.size w (w1.alloc (.cells #[.int .i64 (l0 : Nat), .int .i64 (d0 : Nat)] 101)) := hb1.trans (k1.mono hb1.size)
  have hxl := lt_of_block hs.box
  have hw1 := hb1.size
  obtain ⟨H, hH⟩ : ∃ H, w1.heap.size = H := ⟨_, rfl⟩
  rw [hH] at x1
  have WA : Walk w (w1.alloc (.cells #[.int .i64 (l0 : Nat), .int .i64 (d0 : Nat)] 101)) F M G Xs en per T start (start) (start) [] sv0 sv0 H :=
    ⟨hf.below B1, hs.below B1, rfl, trivial, ⟨fun e => by have := (hs.lt H e).2; omega, .inl rfl⟩, Kp.ofBelow B1, by omega⟩
  rw [hH]
  generalize w1.alloc (.cells #[.int .i64 (l0 : Nat), .int .i64 (d0 : Nat)] 101) = wA at *
  clear hf hs hse he hT hper hpT hb1 k1 B1 hH
  go_loopw [8] (fun pv wr => ∃ (p : Nat) (S : List (Nat × Nat)) (sv : Value) (l d : Nat), pv = .int .i64 p ∧ start ≤ p ∧ p ≤ end_ ∧ Hid (Walk w wr F M G Xs en per T start (p) (p) S sv0 sv H) ∧ Hid (wr.heap[H]? = some (.cells #[.int .i64 (l : Nat), .int .i64 (d : Nat)] 101 (0, 0))) ∧ Hid (BestP T.data.toList per (p) (min (end_ - (p)) 258) l d)) (fun pv _ => end_ - (intOf pv).toNat)
  case atStart => exact ⟨start, [], sv0, l0, d0, rfl, Nat.le_refl _, HTT.out.1, WA, x1, hbo0⟩
  case round =>
    clear WA x1 hbo0
    obtain ⟨p, S, sv, l, d, rfl, hsp, hpe, HW, HB, HO⟩ := hrel
    by_cases hlt : p < end_
    · have hpei : (p : Int) < (end_ : Int) := by omega
      obtain ⟨hst, hple, hl1, hl258⟩ := best_step HO.out.1 hlt (by rw [hTl]; exact HTT.out.2.1)
      have hst1 : Rf.StepOk T.data.toList p (1, 0) := .inl ⟨rfl, rfl, by rw [hTl]; have := HTT.out; omega⟩
      have hpM : p + 258 ≤ 5000000 := by have := HTT.out; omega
      go_wp2_with fail
      refine (remember88 F M G en per p T wr HW.out.fd (by have := HTT.out; omega) HTT.out.2.2).mono ?_
      rintro e u1 ⟨rfl, fd1, kp1⟩
      have W1 := HW.out.rem kp1 fd1
      have H1 : u1.heap[H]? = some (.cells #[.int .i64 (l : Nat), .int .i64 (d : Nat)] 101 (0, 0)) := box_kp HB.out kp1 (fun e => by have := HW.out.ne; omega)
      have HBG : Hid (Rf.Big T.data.toList per (min (start + 65535) T.size) p l) := by show Rf.Big _ _ _ _ _; rw [HEND.out]; exact best_big HO.out
      clear HW HB fd1 kp1
      have k2 := below_alloc u1 (.cells #[.int .i64 0, .int .i64 0] 101)
      have X2 := blk_new u1 (.cells #[.int .i64 0, .int .i64 0] 101)
      have W2 := W1.below k2
      have H2 : (u1.alloc (.cells #[.int .i64 0, .int .i64 0] 101)).heap[H]? = _ := (k2.block _ (lt_of_block H1)).trans H1
      have hHX : H < u1.heap.size := lt_of_block H1
      have hX : sv.ownBlock ≠ some u1.heap.size := fun e => by have := (W1.st.lt _ e).2; omega
      obtain ⟨y0, y1, yf, yl⟩ := cells2 H1
      clear W1 H1
      by_cases h64 : l < 64
      · have h64i : (l : Int) < 64 := by omega
        have hlg := longest87 F M G en per (p + 1) end_ T (u1.alloc (.cells #[.int .i64 0, .int .i64 0] 101)) W2.fd (by omega) HTT.out.2.1 HTT.out.2.2 HPER.out.1 HPER.out.2
        rw [show ((p + 1 : Nat) : Int) = (p : Int) + 1 by omega] at hlg
        go_wp2_with fail
        refine hlg.mono ?_
        rintro e u3 ⟨x1, x2, rfl, hbo2, hb3⟩
        have W3 := W2.below hb3
        have H3 : u3.heap[H]? = some (.cells #[.int .i64 (l : Nat), .int .i64 (d : Nat)] 101 (0, 0)) := (hb3.block _ (lt_of_block H2)).trans H2
        have X3 := (hb3.block _ (lt_of_block X2)).trans X2
        obtain ⟨X, hXe⟩ : ∃ X, u1.heap.size = X := ⟨_, rfl⟩
        rw [hXe] at hHX hX X3
        have hHXn : H ≠ X := by omega
        have WU := W3.set2 X (.inr ⟨hHX, hX⟩) (.int .i64 (x1 : Nat)) (.int .i64 (x2 : Nat))
        have HU : ((u3.setCell ⟨X, 0, none⟩ (.int .i64 (x1 : Nat))).setCell ⟨X, 1, none⟩ (.int .i64 (x2 : Nat))).heap[H]? = some (.cells #[.int .i64 (l : Nat), .int .i64 (d : Nat)] 101 (0, 0)) := (Below.heap_setCell _ ⟨X, 1, none⟩ _ _ hHXn).trans ((Below.heap_setCell _ ⟨X, 0, none⟩ _ _ hHXn).trans H3)
        have XU := set2_row X3 (.int .i64 (x1 : Nat)) (.int .i64 (x2 : Nat))
        have HNX : Hid (BestP T.data.toList per (p + 1) (min (end_ - (p + 1)) 258) x1 x2) := hbo2
        have HBG1 : Hid (l < x1 → Rf.Big T.data.toList per (min (start + 65535) T.size) p 1) := fun h => by rw [HEND.out]; exact best_lazy HO.out hbo2 h
        clear y0 y1 yf yl
        obtain ⟨y0, y1, yf, yl⟩ := cells2 H3
        obtain ⟨v0, v1, vf, vl⟩ := cells2 X3
        rw [hXe]
        clear W2 H2 X2 k2 W3 H3 X3 hlg hbo2 hb3
        by_cases h21 : l < x1
        · have h21i : (x1 : Int) > (l : Int) := by omega
          have WV := WU.set2 H (.inl rfl) (.int .i64 1) (.int .i64 0)
          have HV := set2_row HU (.int .i64 1) (.int .i64 0)
          have XV := (Below.heap_setCell _ ⟨H, 1, none⟩ (.int .i64 0) X (Ne.symm hHXn)).trans ((Below.heap_setCell _ ⟨H, 0, none⟩ (.int .i64 1) X (Ne.symm hHXn)).trans XU)
          go_wp2_with fail
          clear WU HU XU
          generalize ((((u3.setCell ⟨X, 0, none⟩ (.int .i64 (x1 : Nat))).setCell ⟨X, 1, none⟩ (.int .i64 (x2 : Nat))).setCell ⟨H, 0, none⟩ (.int .i64 1)).setCell ⟨H, 1, none⟩ (.int .i64 0)) = u5 at *
          clear y0 y1 yf yl v0 v1 vf vl
          have WU := WV
          have HU : u5.heap[H]? = some (.cells #[.int .i64 (1 : Nat), .int .i64 (0 : Nat)] 101 (0, 0)) := HV
          have XU : u5.heap[X]? = some (.cells #[.int .i64 (x1 : Nat), .int .i64 (x2 : Nat)] 101 (0, 0)) := XV
          clear WV HV XV
          have hHu5 := lt_of_block HU
          refine (push77 Xs (1) (0) S sv u5 WU.st (by have := fits_len _ WU.fit; omega)).mono ?_
          rintro e u6 ⟨rfl, sv6, hs6, ho6, kp6⟩
          have W6 : Walk w u6 F M G Xs en per T start (p + 1) (p + 1) (S ++ [(1, 0)]) sv0 sv6 H := WU.push hs6 ho6 kp6 hst1 (HBG1.out h21) hHu5
          have H6 : u6.heap[H]? = some (.cells #[.int .i64 (1 : Nat), .int .i64 (0 : Nat)] 101 (0, 0)) := box_kp HU kp6 (fun e => by rcases e with e | e; (have := WU.ne; omega); exact WU.ow.1 e)
          have X6 : u6.heap[X]? = some (.cells #[.int .i64 (x1 : Nat), .int .i64 (x2 : Nat)] 101 (0, 0)) := box_kp XU kp6 (fun e => by rcases e with e | e; (have := WU.ne; omega); exact hX e)
          have hX6 : H < X ∧ sv6.ownBlock ≠ some X := ⟨hHX, fun e => by rcases ho6 with q | ⟨g, q1, q2⟩; exact hX (q ▸ e); (rw [q1] at e; cases e; have := lt_of_block XU; omega)⟩
          clear hs6 ho6 kp6
          obtain ⟨y0, y1, yf, yl⟩ := cells2 H6
          obtain ⟨v0, v1, vf, vl⟩ := cells2 X6
          have HW : Hid (Walk w ((u6.setCell ⟨H, 0, none⟩ (.int .i64 (x1 : Nat))).setCell ⟨H, 1, none⟩ (.int .i64 (x2 : Nat))) F M G Xs en per T start (p + 1) (p + 1) (S ++ [(1, 0)]) sv0 sv6 H) := W6.set2 H (.inl rfl) _ _
          have HHB : Hid (((u6.setCell ⟨H, 0, none⟩ (.int .i64 (x1 : Nat))).setCell ⟨H, 1, none⟩ (.int .i64 (x2 : Nat))).heap[H]? = some (.cells #[.int .i64 (x1 : Nat), .int .i64 (x2 : Nat)] 101 (0, 0))) := set2_row H6 _ _
          clear W6 H6 X6 WU HU XU hcall
          go_wp2
          go_loopw [11] (fun iv wq => iv = .int .i64 1 ∧ wq = u6) (fun _ _ => 0)
          case atStart => exact ⟨rfl, rfl⟩
          case round =>
            obtain ⟨rfl, hwq⟩ := hrel
            subst hwq
            go_wp2
            go_roundw
            case rel => exact ⟨p + 1, S ++ [(1, 0)], sv6, x1, x2, by go_num, by omega, by omega, HW, HHB, HNX⟩
            case measure => simp [intOf]; omega
        · have h21i : ¬ (x1 : Int) > (l : Int) := by omega
          go_wp2_with fail
          generalize (u3.setCell ⟨X, 0, none⟩ (.int .i64 (x1 : Nat))).setCell ⟨X, 1, none⟩ (.int .i64 (x2 : Nat)) = u5 at *
          clear y0 y1 yf yl v0 v1 vf vl
          by_cases hl11 : l = 1
          · subst hl11
            have hHu5 := lt_of_block HU
            refine (push77 Xs (1) (d) S sv u5 WU.st (by have := fits_len _ WU.fit; omega)).mono ?_
            rintro e u6 ⟨rfl, sv6, hs6, ho6, kp6⟩
            have W6 : Walk w u6 F M G Xs en per T start (p + 1) (p + 1) (S ++ [(1, d)]) sv0 sv6 H := WU.push hs6 ho6 kp6 hst HBG.out hHu5
            have H6 : u6.heap[H]? = some (.cells #[.int .i64 (1 : Nat), .int .i64 (d : Nat)] 101 (0, 0)) := box_kp HU kp6 (fun e => by rcases e with e | e; (have := WU.ne; omega); exact WU.ow.1 e)
            have X6 : u6.heap[X]? = some (.cells #[.int .i64 (x1 : Nat), .int .i64 (x2 : Nat)] 101 (0, 0)) := box_kp XU kp6 (fun e => by rcases e with e | e; (have := WU.ne; omega); exact hX e)
            have hX6 : H < X ∧ sv6.ownBlock ≠ some X := ⟨hHX, fun e => by rcases ho6 with q | ⟨g, q1, q2⟩; exact hX (q ▸ e); (rw [q1] at e; cases e; have := lt_of_block XU; omega)⟩
            clear hs6 ho6 kp6
            obtain ⟨y0, y1, yf, yl⟩ := cells2 H6
            obtain ⟨v0, v1, vf, vl⟩ := cells2 X6
            have HW : Hid (Walk w ((u6.setCell ⟨H, 0, none⟩ (.int .i64 (x1 : Nat))).setCell ⟨H, 1, none⟩ (.int .i64 (x2 : Nat))) F M G Xs en per T start (p + 1) (p + 1) (S ++ [(1, d)]) sv0 sv6 H) := W6.set2 H (.inl rfl) _ _
            have HHB : Hid (((u6.setCell ⟨H, 0, none⟩ (.int .i64 (x1 : Nat))).setCell ⟨H, 1, none⟩ (.int .i64 (x2 : Nat))).heap[H]? = some (.cells #[.int .i64 (x1 : Nat), .int .i64 (x2 : Nat)] 101 (0, 0))) := set2_row H6 _ _
            clear W6 H6 X6 WU HU XU hcall
            go_wp2
            go_loopw [11] (fun iv wq => iv = .int .i64 1 ∧ wq = u6) (fun _ _ => 0)
            case atStart => exact ⟨rfl, rfl⟩
            case round =>
              obtain ⟨rfl, hwq⟩ := hrel
              subst hwq
              go_wp2
              go_roundw
              case rel => exact ⟨p + 1, S ++ [(1, d)], sv6, x1, x2, by go_num, by omega, by omega, HW, HHB, HNX⟩
              case measure => simp [intOf]; omega
          · clear HNX
            have hHu5 := lt_of_block HU
            refine (push77 Xs (l) (d) S sv u5 WU.st (by have := fits_len _ WU.fit; omega)).mono ?_
            rintro e u6 ⟨rfl, sv6, hs6, ho6, kp6⟩
            have W6 : Walk w u6 F M G Xs en per T start (p + 1) (p + l) (S ++ [(l, d)]) sv0 sv6 H := WU.push hs6 ho6 kp6 hst HBG.out hHu5
            have H6 : u6.heap[H]? = some (.cells #[.int .i64 (l : Nat), .int .i64 (d : Nat)] 101 (0, 0)) := box_kp HU kp6 (fun e => by rcases e with e | e; (have := WU.ne; omega); exact WU.ow.1 e)
            have X6 : u6.heap[X]? = some (.cells #[.int .i64 (x1 : Nat), .int .i64 (x2 : Nat)] 101 (0, 0)) := box_kp XU kp6 (fun e => by rcases e with e | e; (have := WU.ne; omega); exact hX e)
            have hX6 : H < X ∧ sv6.ownBlock ≠ some X := ⟨hHX, fun e => by rcases ho6 with q | ⟨g, q1, q2⟩; exact hX (q ▸ e); (rw [q1] at e; cases e; have := lt_of_block XU; omega)⟩
            clear hs6 ho6 kp6
            obtain ⟨S6, hS6⟩ : ∃ S6, S ++ [(l, d)] = S6 := ⟨_, rfl⟩
            rw [hS6] at W6
            obtain ⟨y0, y1, yf, yl⟩ := cells2 H6
            have hli : (1 : Int) < (l : Int) := by omega
            have HW6 : Hid (Walk w u6 F M G Xs en per T start (p + 1) (p + l) S6 sv0 sv6 H) := W6
            have HH6 : Hid (u6.heap[H]? = some (.cells #[.int .i64 (l : Nat), .int .i64 (d : Nat)] 101 (0, 0))) := H6
            have HX6 : Hid (u6.heap[X]? = some (.cells #[.int .i64 (x1 : Nat), .int .i64 (x2 : Nat)] 101 (0, 0))) := X6
            clear WU HU XU W6 H6 X6 hS6
            go_wp2
            go_loopw [11] (fun iv wq => ∃ i : Nat, 1 ≤ i ∧ i ≤ l ∧ iv = .int .i64 i ∧ Hid (Walk w wq F M G Xs en per T start (p + i) (p + l) S6 sv0 sv6 H) ∧ Hid (wq.heap[H]? = some (.cells #[.int .i64 (l : Nat), .int .i64 (d : Nat)] 101 (0, 0))) ∧ Hid (wq.heap[X]? = some (.cells #[.int .i64 (x1 : Nat), .int .i64 (x2 : Nat)] 101 (0, 0)))) (fun iv _ => l - (intOf iv).toNat)
            case atStart => exact ⟨1, Nat.le_refl _, by omega, rfl, HW6, HH6, HX6⟩
            case round =>
              clear HW6 HH6 HX6 y0 y1 yf yl
              obtain ⟨i, hi1, hil, rfl, HW6, HH6, HX6⟩ := hrel
              obtain ⟨y0, y1, yf, yl⟩ := cells2 HH6.out
              by_cases hlt2 : i < l
              · have hilt : (i : Int) < (l : Int) := by omega
                have hrm := remember88 F M G en per (p + i) T _ HW6.out.fd (by have := HTT.out; omega) HTT.out.2.2
                rw [show ((p + i : Nat) : Int) = (p : Int) + (i : Int) by omega] at hrm
                go_wp2_with fail
                refine hrm.mono ?_
                rintro e u7 ⟨rfl, fd7, kp7⟩
                have HW7 : Hid (Walk w u7 F M G Xs en per T start (p + (i + 1)) (p + l) S6 sv0 sv6 H) := HW6.out.rem kp7 fd7
                have HH7 : Hid (u7.heap[H]? = some (.cells #[.int .i64 (l : Nat), .int .i64 (d : Nat)] 101 (0, 0))) := box_kp HH6.out kp7 (fun e => by have := HW6.out.ne; omega)
                have HX7 : Hid (u7.heap[X]? = some (.cells #[.int .i64 (x1 : Nat), .int .i64 (x2 : Nat)] 101 (0, 0))) := box_kp HX6.out kp7 (fun e => by have := HW6.out.ne; omega)
                clear hrm fd7 kp7 HW6 HH6 HX6 y0 y1 yf yl
                go_wp2
                go_roundw
                case rel => exact ⟨i + 1, by omega, by omega, by go_num, HW7, HH7, HX7⟩
                case measure => simp [intOf]; omega
              · have hil2 : i = l := by omega
                subst hil2
                have hlg := longest87 F M G en per (p + i) end_ T _ HW6.out.fd (by omega) HTT.out.2.1 HTT.out.2.2 HPER.out.1 HPER.out.2
                rw [show ((p + i : Nat) : Int) = (p : Int) + (i : Int) by omega] at hlg
                have hi1i : (i : Int) > 1 := by omega
                go_wp2_with fail
                refine hlg.mono ?_
                rintro e u7 ⟨l3, d3, rfl, hbo3, hb7⟩
                have W7 := HW6.out.below hb7
                have H7 : u7.heap[H]? = some (.cells #[.int .i64 (i : Nat), .int .i64 (d : Nat)] 101 (0, 0)) := (hb7.block _ (lt_of_block HH6.out)).trans HH6.out
                have X7 : u7.heap[X]? = some (.cells #[.int .i64 (x1 : Nat), .int .i64 (x2 : Nat)] 101 (0, 0)) := (hb7.block _ (lt_of_block HX6.out)).trans HX6.out
                obtain ⟨g0, g1, gf, gl⟩ := cells2 H7
                obtain ⟨v0, v1, vf, vl⟩ := cells2 X7
                have hHXn : H ≠ X := by omega
                have HW : Hid (Walk w ((((u7.setCell ⟨X, 0, none⟩ (.int .i64 (l3 : Nat))).setCell ⟨X, 1, none⟩ (.int .i64 (d3 : Nat))).setCell ⟨H, 0, none⟩ (.int .i64 (l3 : Nat))).setCell ⟨H, 1, none⟩ (.int .i64 (d3 : Nat))) F M G Xs en per T start (p + i) (p + i) S6 sv0 sv6 H) := (W7.set2 X (.inr hX6) _ _).set2 H (.inl rfl) _ _
                have HHB : Hid (((((u7.setCell ⟨X, 0, none⟩ (.int .i64 (l3 : Nat))).setCell ⟨X, 1, none⟩ (.int .i64 (d3 : Nat))).setCell ⟨H, 0, none⟩ (.int .i64 (l3 : Nat))).setCell ⟨H, 1, none⟩ (.int .i64 (d3 : Nat))).heap[H]? = some (.cells #[.int .i64 (l3 : Nat), .int .i64 (d3 : Nat)] 101 (0, 0))) := set2_row ((Below.heap_setCell _ ⟨X, 1, none⟩ _ _ hHXn).trans ((Below.heap_setCell _ ⟨X, 0, none⟩ _ _ hHXn).trans H7)) _ _
                have HBO3 : Hid (BestP T.data.toList per (p + i) (min (end_ - (p + i)) 258) l3 d3) := hbo3
                clear hlg hbo3 hb7 W7 H7 X7 HW6 HH6 HX6 y0 y1 yf yl hcall
                go_wp2
                go_roundw
                case rel => exact ⟨p + i, S6, sv6, l3, d3, by go_num, by omega, by omega, HW, HHB, HBO3⟩
                case measure => simp [intOf]; omega
      · have h64i : ¬ (l : Int) < 64 := by omega
        obtain ⟨v0, v1, vf, vl⟩ := cells2 X2
        have hl0i : ¬ (0 : Int) > (l : Int) := by omega
        have hHXn : H ≠ u1.heap.size := by omega
        go_wp2_with fail
        generalize hu5 : u1.alloc (.cells #[.int .i64 0, .int .i64 0] 101) = u5 at *
        obtain ⟨X, hXe⟩ : ∃ X, u1.heap.size = X := ⟨_, rfl⟩
        rw [hXe] at hHX hX X2 hHXn ⊢
        obtain ⟨x1, x2, XU⟩ : ∃ x1 x2 : Nat, u5.heap[X]? = some (.cells #[.int .i64 (x1 : Nat), .int .i64 (x2 : Nat)] 101 (0, 0)) := ⟨0, 0, X2⟩
        have WU := W2
        have HU : u5.heap[H]? = some (.cells #[.int .i64 (l : Nat), .int .i64 (d : Nat)] 101 (0, 0)) := H2
        clear W2 H2 X2 k2 y0 y1 yf yl v0 v1 vf vl hu5 hXe
        have hHu5 := lt_of_block HU
        refine (push77 Xs (l) (d) S sv u5 WU.st (by have := fits_len _ WU.fit; omega)).mono ?_
        rintro e u6 ⟨rfl, sv6, hs6, ho6, kp6⟩
        have W6 : Walk w u6 F M G Xs en per T start (p + 1) (p + l) (S ++ [(l, d)]) sv0 sv6 H := WU.push hs6 ho6 kp6 hst HBG.out hHu5
        have H6 : u6.heap[H]? = some (.cells #[.int .i64 (l : Nat), .int .i64 (d : Nat)] 101 (0, 0)) := box_kp HU kp6 (fun e => by rcases e with e | e; (have := WU.ne; omega); exact WU.ow.1 e)
        have X6 : u6.heap[X]? = some (.cells #[.int .i64 (x1 : Nat), .int .i64 (x2 : Nat)] 101 (0, 0)) := box_kp XU kp6 (fun e => by rcases e with e | e; (have := WU.ne; omega); exact hX e)
        have hX6 : H < X ∧ sv6.ownBlock ≠ some X := ⟨hHX, fun e => by rcases ho6 with q | ⟨g, q1, q2⟩; exact hX (q ▸ e); (rw [q1] at e; cases e; have := lt_of_block XU; omega)⟩
        clear hs6 ho6 kp6
        obtain ⟨S6, hS6⟩ : ∃ S6, S ++ [(l, d)] = S6 := ⟨_, rfl⟩
        rw [hS6] at W6
        obtain ⟨y0, y1, yf, yl⟩ := cells2 H6
        have hli : (1 : Int) < (l : Int) := by omega
        have HW6 : Hid (Walk w u6 F M G Xs en per T start (p + 1) (p + l) S6 sv0 sv6 H) := W6
        have HH6 : Hid (u6.heap[H]? = some (.cells #[.int .i64 (l : Nat), .int .i64 (d : Nat)] 101 (0, 0))) := H6
        have HX6 : Hid (u6.heap[X]? = some (.cells #[.int .i64 (x1 : Nat), .int .i64 (x2 : Nat)] 101 (0, 0))) := X6
        clear WU HU XU W6 H6 X6 hS6
        go_wp2
        go_loopw [11] (fun iv wq => ∃ i : Nat, 1 ≤ i ∧ i ≤ l ∧ iv = .int .i64 i ∧ Hid (Walk w wq F M G Xs en per T start (p + i) (p + l) S6 sv0 sv6 H) ∧ Hid (wq.heap[H]? = some (.cells #[.int .i64 (l : Nat), .int .i64 (d : Nat)] 101 (0, 0))) ∧ Hid (wq.heap[X]? = some (.cells #[.int .i64 (x1 : Nat), .int .i64 (x2 : Nat)] 101 (0, 0)))) (fun iv _ => l - (intOf iv).toNat)
        case atStart => exact ⟨1, Nat.le_refl _, by omega, rfl, HW6, HH6, HX6⟩
        case round =>
          clear HW6 HH6 HX6 y0 y1 yf yl
          obtain ⟨i, hi1, hil, rfl, HW6, HH6, HX6⟩ := hrel
          obtain ⟨y0, y1, yf, yl⟩ := cells2 HH6.out
          by_cases hlt2 : i < l
          · have hilt : (i : Int) < (l : Int) := by omega
            have hrm := remember88 F M G en per (p + i) T _ HW6.out.fd (by have := HTT.out; omega) HTT.out.2.2
            rw [show ((p + i : Nat) : Int) = (p : Int) + (i : Int) by omega] at hrm
            go_wp2_with fail
            refine hrm.mono ?_
            rintro e u7 ⟨rfl, fd7, kp7⟩
            have HW7 : Hid (Walk w u7 F M G Xs en per T start (p + (i + 1)) (p + l) S6 sv0 sv6 H) := HW6.out.rem kp7 fd7
            have HH7 : Hid (u7.heap[H]? = some (.cells #[.int .i64 (l : Nat), .int .i64 (d : Nat)] 101 (0, 0))) := box_kp HH6.out kp7 (fun e => by have := HW6.out.ne; omega)
            have HX7 : Hid (u7.heap[X]? = some (.cells #[.int .i64 (x1 : Nat), .int .i64 (x2 : Nat)] 101 (0, 0))) := box_kp HX6.out kp7 (fun e => by have := HW6.out.ne; omega)
            clear hrm fd7 kp7 HW6 HH6 HX6 y0 y1 yf yl
            go_wp2
            go_roundw
            case rel => exact ⟨i + 1, by omega, by omega, by go_num, HW7, HH7, HX7⟩
            case measure => simp [intOf]; omega
          · have hil2 : i = l := by omega
            subst hil2
            have hlg := longest87 F M G en per (p + i) end_ T _ HW6.out.fd (by omega) HTT.out.2.1 HTT.out.2.2 HPER.out.1 HPER.out.2
            rw [show ((p + i : Nat) : Int) = (p : Int) + (i : Int) by omega] at hlg
            have hi1i : (i : Int) > 1 := by omega
            go_wp2_with fail
            refine hlg.mono ?_
            rintro e u7 ⟨l3, d3, rfl, hbo3, hb7⟩
            have W7 := HW6.out.below hb7
            have H7 : u7.heap[H]? = some (.cells #[.int .i64 (i : Nat), .int .i64 (d : Nat)] 101 (0, 0)) := (hb7.block _ (lt_of_block HH6.out)).trans HH6.out
            have X7 : u7.heap[X]? = some (.cells #[.int .i64 (x1 : Nat), .int .i64 (x2 : Nat)] 101 (0, 0)) := (hb7.block _ (lt_of_block HX6.out)).trans HX6.out
            obtain ⟨g0, g1, gf, gl⟩ := cells2 H7
            obtain ⟨v0, v1, vf, vl⟩ := cells2 X7
            have hHXn : H ≠ X := by omega
            have HW : Hid (Walk w ((((u7.setCell ⟨X, 0, none⟩ (.int .i64 (l3 : Nat))).setCell ⟨X, 1, none⟩ (.int .i64 (d3 : Nat))).setCell ⟨H, 0, none⟩ (.int .i64 (l3 : Nat))).setCell ⟨H, 1, none⟩ (.int .i64 (d3 : Nat))) F M G Xs en per T start (p + i) (p + i) S6 sv0 sv6 H) := (W7.set2 X (.inr hX6) _ _).set2 H (.inl rfl) _ _
            have HHB : Hid (((((u7.setCell ⟨X, 0, none⟩ (.int .i64 (l3 : Nat))).setCell ⟨X, 1, none⟩ (.int .i64 (d3 : Nat))).setCell ⟨H, 0, none⟩ (.int .i64 (l3 : Nat))).setCell ⟨H, 1, none⟩ (.int .i64 (d3 : Nat))).heap[H]? = some (.cells #[.int .i64 (l3 : Nat), .int .i64 (d3 : Nat)] 101 (0, 0))) := set2_row ((Below.heap_setCell _ ⟨X, 1, none⟩ _ _ hHXn).trans ((Below.heap_setCell _ ⟨X, 0, none⟩ _ _ hHXn).trans H7)) _ _
            have HBO3 : Hid (BestP T.data.toList per (p + i) (min (end_ - (p + i)) 258) l3 d3) := hbo3
            clear hlg hbo3 hb7 W7 H7 X7 HW6 HH6 HX6 y0 y1 yf yl hcall
            go_wp2
            go_roundw
            case rel => exact ⟨p + i, S6, sv6, l3, d3, by go_num, by omega, by omega, HW, HHB, HBO3⟩
            case measure => simp [intOf]; omega
    · have hp : p = end_ := by omega
      subst hp
      go_wp2
      go_end0
      exact ⟨rfl, S, sv, HW.out.fd, HW.out.st, ⟨HW.out.fit, HW.out.big⟩, HW.out.ow.2, HW.out.kp⟩
end Go.Proofs.YtmfijackgekioaaGreat
