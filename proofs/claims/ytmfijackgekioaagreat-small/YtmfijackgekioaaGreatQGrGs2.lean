import Derived.Test.YtmfijackgekioaaGreatQGq
import Derived.Test.YtmfijackgekioaaGreatQJaJb2

/-
  Parts taken apart: the program. For Deflates.
-/
namespace Go.Proofs.YtmfijackgekioaaGreat
open Go.RowKit Go.Maps

theorem sc_at (S : List (Nat × Nat)) (j : Nat) (h : j < S.length) : (scells S)[j * 2]? = some (.int .i64 ((S.getD j (0, 0)).1 : Nat)) ∧ (scells S)[j * 2 + 1]? = some (.int .i64 ((S.getD j (0, 0)).2 : Nat)) := by
  induction S generalizing j with
  | nil => simp at h
  | cons x r ih =>
    have e : scells (x :: r) = [.int .i64 (x.1 : Nat), .int .i64 (x.2 : Nat)] ++ scells r := by simp [scells]
    cases j with
    | zero => rw [e]; exact ⟨rfl, rfl⟩
    | succ j =>
      have := ih j (by simpa using h)
      rw [e, show (j + 1) * 2 = 2 + j * 2 by omega, show 2 + j * 2 + 1 = 2 + (j * 2 + 1) by omega]
      rw [List.getElem?_append_right (by simp), List.getElem?_append_right (by simp)]
      simpa using this

/-- The list that comes out, as the steps that the plans read. -/
theorem Stl.steps {w : World} {Xs B : Nat} {S : List (Nat × Nat)} {sv : Value} (h : Stl w Xs S sv) (hB : B ≤ Xs) : Steps w sv S B := by
  refine ⟨own_slice2 h.own, fun hn => ?_⟩
  rcases h.own.2 with ⟨_, h0⟩ | ⟨g, cap, cur, hv, hg, hblk, hnc, hcm, hcs, htake⟩
  · exact absurd (List.eq_nil_of_length_eq_zero h0) hn
  · refine ⟨g, cap, hv, by omega, cur, hblk, by have := Nat.mul_le_mul_right 2 hnc; omega, fun j hj => ?_⟩
    obtain ⟨a, b⟩ := sc_at S j hj
    rw [← htake, List.getElem?_take, if_pos (by omega), Array.getElem?_toList] at a b
    exact ⟨a, b⟩

/-- What the function that takes parts apart holds. -/
structure Spl (w : World) (Xf Xs F M G en per : Nat) (T : ByteArray) (N : Nat) (S : List (Nat × Nat)) (sv : Value) : Prop where
  f : Box w Xf (.pointer (some ⟨F, 0, none⟩)) 97
  fd : Fd w F M G en per T N
  st : Stl w Xs S sv
  lt : F < Xs ∧ M < Xs ∧ G < Xs ∧ Xf < Xs
  ne : Xf ≠ F ∧ Xf ≠ M ∧ Xf ≠ G

theorem own_none {w : World} {base n : Nat} {v : Value} {xs : List Value} (h : w.ownsRow base 101 2 v n xs) : ∃ ao cap, v = .slice ao n cap ∧ w.ownsRow base 101 2 (.slice ao 0 cap) 0 [] ∧ (ao = none → cap = 0) := by
  rcases h.2 with ⟨rfl, rfl⟩ | ⟨g, cap, cur, rfl, hg, hblk, hnc, hcm, hcs, htake⟩
  · exact ⟨_, _, rfl, ⟨rfl, .inl ⟨rfl, rfl⟩⟩, fun _ => rfl⟩
  · exact ⟨_, _, rfl, ⟨rfl, .inr ⟨g, cap, cur, rfl, hg, hblk, Nat.zero_le _, hcm, hcs, by simp⟩⟩, fun e => nomatch e⟩

set_option maxRecDepth 100000 in
set_option maxHeartbeats 2000000 in
theorem split75 (Xf Xs F M G en per start end_ : Nat) (T : ByteArray) (S : List (Nat × Nat)) (sv : Value) (w : World) (h : Spl w Xf Xs F M G en per T start S sv) (hse : start ≤ end_) (hel : end_ ≤ start + 65535) (he : end_ ≤ T.size) (hend : end_ = min (start + 65535) T.size) (hT : T.size ≤ 4500000) (hper : 0 < T.size → 1 ≤ per) (hpT : per ≤ 4500000) :
    Calls Tryz.prog 61 #[.int .i64 start, .int .i64 end_, .pointer (some ⟨Xs, 0, none⟩), .pointer (some ⟨Xf, 0, none⟩)] w fun e w' => ∃ S' sv', e = .returned sv' ∧ Spl w' Xf Xs F M G en per T end_ S' sv' ∧ (Rf.Fits T.data.toList start S' end_ ∧ Rf.Bigs T.data.toList per (min (start + 65535) T.size) start S') ∧ Kp (fun k => k = M ∨ k = G ∨ k = Xs ∨ sv.ownBlock = some k) w w' := by
  obtain ⟨ao, cap, rfl, hown0, hcap⟩ := own_none h.st.own
  have hbx := h.st.box
  obtain ⟨x0, x1, x2⟩ := one_cell hbx
  have hs0 : Stl (w.setCell ⟨Xs, 0, none⟩ (.slice ao 0 cap)) Xs [] (.slice ao 0 cap) :=
    ⟨one_set hbx _, own_keep hown0 (fun g hg => Below.heap_setCell _ ⟨Xs, 0, none⟩ _ g (fun e => by have := (hown0.lt g hg).1; dsimp only at e; omega))⟩
  obtain ⟨l1, l2, l3, l4⟩ := h.lt
  have hf0 : Fd (w.setCell ⟨Xs, 0, none⟩ (.slice ao 0 cap)) F M G en per T start := h.fd.kept (fun j hj => Below.heap_setCell _ ⟨Xs, 0, none⟩ _ j (fun e => by dsimp only at e; rcases hj with rfl | rfl | rfl <;> omega))
  have hf1 : Box (w.setCell ⟨Xs, 0, none⟩ (.slice ao 0 cap)) Xf (.pointer (some ⟨F, 0, none⟩)) 97 := (Below.heap_setCell _ ⟨Xs, 0, none⟩ _ Xf (fun e => by dsimp only at e; omega)).trans h.f
  have hk0 : Kp (fun k => k = M ∨ k = G ∨ k = Xs ∨ (Value.slice ao S.length cap).ownBlock = some k) w (w.setCell ⟨Xs, 0, none⟩ (.slice ao 0 cap)) := (Kp.refl _ _).setCell (p := ⟨Xs, 0, none⟩) (.inl (.inr (.inr (.inl rfl)))) _
  have hob : (Value.slice ao 0 cap).ownBlock = (Value.slice ao S.length cap).ownBlock := by cases ao <;> rfl
  have hst := steps76 F M G Xs en per start end_ T (.slice ao 0 cap) _ hf0 hs0 ⟨l1, l2, l3⟩ hse hel he hend hT hper hpT
  clear hend
  have c1 := hf1.cell
  have hlw : (w.setCell ⟨Xs, 0, none⟩ (.slice ao 0 cap)).heap.size = w.heap.size := World.size_setCell _ _ _
  have hXl : Xs < w.heap.size := x2
  have hfl := h.fd.lt
  have HF := h.ne
  have HL := h.lt
  have HK0 : Hid (_ ∧ _) := ⟨hk0, hf1⟩
  have HROW : Hid (∀ g, (Value.slice ao 0 cap).ownBlock = some g → Xs + 1 ≤ g ∧ g < w.heap.size) := fun g hg => hown0.lt g hg
  clear h hs0 hf0 hf1 hown0 hbx hk0
  go_enter Tryz.func61, Tryz.ntmps61
  cases ao with
  | none =>
    obtain rfl := hcap rfl
    go_wp2_with fail
    refine hst.mono ?_
    rintro e w2 ⟨rfl, S2, sv2, fd2, st2, fit2, _, kp2⟩
    have c2 := st2.box.cell
    obtain ⟨hk0, hf1⟩ := HK0.out
    have hfx : Box w2 Xf (.pointer (some ⟨F, 0, none⟩)) 97 := (kp2.block Xf (by rw [hlw]; omega) (fun e => by rcases e with e | e | e | e; omega; omega; omega; cases e)).trans hf1
    have HH : Hid (_ ∧ _ ∧ _) := ⟨(⟨hfx, fd2, st2, HL, HF⟩ : Spl w2 Xf Xs F M G en per T end_ S2 sv2), fit2, hk0.trans (Kp.mono kp2 (fun k _ hk => by rw [hob] at hk; exact hk))⟩
    obtain ⟨ao2, cap2, rfl⟩ := own_slice2 st2.own
    clear hst fd2 st2 fit2 kp2 hfx hk0 hf1 HK0 x0 x1 x2 c1 hob
    go_wp2
    go_ret
    exact ⟨S2, _, rfl, HH.out⟩
  | some ad =>
    have hadx : Hid (Xs + 1 ≤ ad.block) := (HROW.out ad.block rfl).1
    go_wp2_with fail
    refine hst.mono ?_
    rintro e w2 ⟨rfl, S2, sv2, fd2, st2, fit2, _, kp2⟩
    have c2 := st2.box.cell
    obtain ⟨hk0, hf1⟩ := HK0.out
    have hfx : Box w2 Xf (.pointer (some ⟨F, 0, none⟩)) 97 := (kp2.block Xf (by rw [hlw]; omega) (fun e => by rcases e with e | e | e | e; omega; omega; omega; (simp only [Value.ownBlock, Option.some.injEq] at e; have := hadx.out; omega))).trans hf1
    have HH : Hid (_ ∧ _ ∧ _) := ⟨(⟨hfx, fd2, st2, HL, HF⟩ : Spl w2 Xf Xs F M G en per T end_ S2 sv2), fit2, hk0.trans (Kp.mono kp2 (fun k _ hk => by rw [hob] at hk; exact hk))⟩
    obtain ⟨ao2, cap2, rfl⟩ := own_slice2 st2.own
    clear hst fd2 st2 fit2 kp2 hfx hk0 hf1 HK0 x0 x1 x2 c1 hob
    go_wp2
    go_ret
    exact ⟨S2, _, rfl, HH.out⟩
theorem call75 (args : Array Value) (w : World) : (callFunc 61 args).run Tryz.prog w = .ok (.enter 61 args) w := by kernel_rfl
theorem call73 (args : Array Value) (w : World) : (callFunc 59 args).run Tryz.prog w = .ok (.enter 59 args) w := by kernel_rfl

set_option maxRecDepth 100000 in
set_option maxHeartbeats 2000000 in
theorem split73 (start end_ : Int) (w : World) : Calls Tryz.prog 59 #[.int .i64 start, .int .i64 end_] w fun e w' => e = .returned (.slice none 0 0) ∧ w' = w := by
  go_enter Tryz.func59, Tryz.ntmps59
  go_wp2
  go_ret
  exact ⟨rfl, rfl⟩

set_option maxRecDepth 100000 in
set_option maxHeartbeats 2000000 in
theorem splitter48 (T : ByteArray) (level : Nat) (w : World) (hT : T.size ≤ 4500000) (hl : level ≠ 0) :
    Calls Tryz.prog 38 #[.string T, .int .i64 level] w fun e w' => ∃ Xf Xs F M G en per : Nat, e = .returned (.func (.func 61) #[] #[.pointer (some ⟨Xs, 0, none⟩), .pointer (some ⟨Xf, 0, none⟩)]) ∧ Spl w' Xf Xs F M G en per T 0 [] (.slice none 0 0) ∧ (0 < T.size → 1 ≤ per) ∧ PerOk T per ∧ Below w.heap.size w w' ∧ w.heap.size ≤ M ∧ w.heap.size ≤ G ∧ w.heap.size ≤ Xs ∧ w.heap.size ≤ F ∧ w.heap.size ≤ Xf := by
  have hli : ¬ (level : Int) = 0 := by omega
  go_enter Tryz.func38, Tryz.ntmps38
  go_wp2_with fail
  refine (newFinder74 T w hT).mono ?_
  rintro e w1 ⟨F, M, G, en, per, rfl, fd1, hp1, hp2, hb1, hF, hM, hG⟩
  obtain ⟨k0, q0, q1⟩ := two_boxes w1 (.cells #[.pointer (some ⟨F, 0, none⟩)] 97) (.cells #[.slice none 0 0] 62)
  have hlt := fd1.lt
  have hs := hb1.size
  have HH : Hid (_ ∧ _) := ⟨(⟨q0, fd1.below k0, ⟨q1, ⟨rfl, .inl ⟨rfl, rfl⟩⟩⟩, by omega, by omega⟩ : Spl ((w1.alloc (.cells #[.pointer (some ⟨F, 0, none⟩)] 97)).alloc (.cells #[.slice none 0 0] 62)) w1.heap.size (w1.heap.size + 1) F M G en per T 0 [] (.slice none 0 0)), hb1.trans (k0.mono hb1.size)⟩
  clear q0 q1 k0 fd1 hlt
  go_wp2
  go_ret
  exact ⟨_, _, F, M, G, en, per, rfl, HH.out.1, hp1, hp2, HH.out.2, hM, hG, by omega, hF, by omega⟩

set_option maxRecDepth 100000 in
set_option maxHeartbeats 2000000 in
theorem splitter48z (T : ByteArray) (w : World) : Calls Tryz.prog 38 #[.string T, .int .i64 0] w fun e w' => e = .returned (.func (.func 59) #[] #[]) ∧ w' = w := by
  go_enter Tryz.func38, Tryz.ntmps38
  go_wp2
  go_ret
  exact ⟨rfl, rfl⟩
end Go.Proofs.YtmfijackgekioaaGreat

/-
  A part after the other: what the levels do. For Deflates.
-/
namespace Go.Proofs.YtmfijackgekioaaGreat
open Go.RowKit Go.Maps

theorem plans12 (level : Nat) (hl : level = 1 ∨ level = 2) (B : Nat) (last : Bool) (s : ByteArray) (ao : Option Addr) (cap : Nat) (steps : List (Nat × Nat)) (W : List Int) (w : World) (h : Writes w B W) (T : List UInt8) (p q : Nat) (hp : Part T p q s steps) (hst : Steps w (.slice ao steps.length cap) steps B) (hsv : ∀ SB cap', Value.slice ao steps.length cap = .slice (some ⟨SB, 0, none⟩) steps.length cap' → SB < w.heap.size) (hW : W.length ≤ 80000000) :
    Calls Tryz.prog 39 #[.pointer (some ⟨B, 0, none⟩), .string s, .slice ao steps.length cap, .bool last, .int .i64 level] w fun e w' => ∃ v, e = .returned v ∧ PlansOk w w' v B W T p q last level (tokBits Rf.fixS fixP (toksOf s.data.toList 0 steps)).length := by
  rcases hl with rfl | rfl
  · exact plans1 B last s ao cap steps W w h T p q hp hst hsv hW
  · exact plans2 B last s ao cap steps W w h T p q hp hst hsv hW

theorem part_txt (T : ByteArray) (p q : Nat) : (T.extract p q).data.toList = (T.data.toList.take q).drop p := by
  rw [ByteArray.data_extract, Array.toList_extract, List.extract_eq_take_drop, List.drop_take]

theorem Writes.kp {w w' : World} {B : Nat} {W : List Int} {Q : Nat → Prop} (h : Writes w B W) (k : Kp Q w w') (hq : ∀ j cs t fr, w.heap[j]? = some (Obj.cells cs t fr) → (t = 57 ∨ t = 5) → ¬ Q j) : Writes w' B W := by
  obtain ⟨pv, P, h⟩ := h
  refine ⟨pv, P, (k.block _ h.lt (hq _ _ _ _ h.blk (.inl rfl))).trans h.blk, own_keep h.own (fun g hg => ?_), h.hold⟩
  rcases h.own.2 with ⟨rfl, _⟩ | ⟨b, cap, cur, rfl, _, hb, _⟩
  · simp [Value.ownBlock] at hg
  · simp only [Value.ownBlock, Option.some.injEq] at hg
    subst hg
    exact k.block _ (lt_of_block hb) (hq _ _ _ _ hb (.inr rfl))

theorem blk_fr {B j : Nat} {w w' : World} (h : Fr B w w') (hj : B < j) (hl : j < w.heap.size) (hn : ∀ cs fr, w.heap[j]? ≠ some (Obj.cells cs 5 fr)) : w'.heap[j]? = w.heap[j]? := h.other j hj hl (fun c fr e => hn c fr e)

theorem Spl.fr {w w' : World} {B Xf Xs F M G en per N : Nat} {T : ByteArray} {S : List (Nat × Nat)} {sv : Value} (h : Spl w Xf Xs F M G en per T N S sv) (f : Fr B w w') (hB : B < F ∧ B < M ∧ B < G ∧ B < Xf) : Spl w' Xf Xs F M G en per T N S sv := by
  obtain ⟨lF, lM, lG⟩ := h.fd.lt
  obtain ⟨D, q, hM, _⟩ := h.fd.map
  obtain ⟨es, hG, _⟩ := h.fd.ear
  obtain ⟨es', clock, hMb, _⟩ := hM
  have hl := h.lt
  refine ⟨h.f.fr f (by omega) (by decide), h.fd.kept (fun j hj => ?_), h.st.kept (fun j hj => ?_), h.lt, h.ne⟩
  · rcases hj with rfl | rfl | rfl
    · exact f.kept (by omega) h.fd.box (by decide)
    · exact blk_fr f (by omega) lM (fun cs fr e => by rw [hMb] at e; simp at e)
    · exact f.kept (by omega) hG (by decide)
  · rcases hj with rfl | hj
    · exact f.kept (by omega) h.st.box (by decide)
    · rcases h.st.own.2 with ⟨rfl, _⟩ | ⟨g, cap, cur, rfl, hg, hblk, _⟩
      · cases hj
      · simp only [Value.ownBlock, Option.some.injEq] at hj
        subst hj
        exact f.kept (by omega) hblk (by decide)
theorem Spl.below {w w' : World} {Xf Xs F M G en per N : Nat} {T : ByteArray} {S : List (Nat × Nat)} {sv : Value} (h : Spl w Xf Xs F M G en per T N S sv) (k : Below w.heap.size w w') : Spl w' Xf Xs F M G en per T N S sv :=
  ⟨h.f.below k, h.fd.below k, h.st.below k, h.lt, h.ne⟩

/-- What a level does with parts: a function that takes them apart, and plans. -/
structure Lv (T : ByteArray) (level B : Nat) (kf : Nat) (caps : Array Value) (J : World → Nat → Prop) (R : World → Nat → Nat → Value → Prop) (per : Nat) : Prop where
  call : ∀ args w, (callFunc kf args).run Tryz.prog w = .ok (.enter kf args) w
  split : ∀ w p q W, J w p → Writes w B W → p ≤ q → q ≤ p + 65535 → q ≤ T.size → q = min (p + 65535) T.size → Calls Tryz.prog kf (#[.int .i64 (p : Nat), .int .i64 (q : Nat)] ++ caps) w fun e w' => ∃ sv, e = .returned sv ∧ R w' p q sv ∧ Writes w' B W ∧ Below B w w'
  plans : ∀ w p q sv W last, R w p q sv → Writes w B W → W.length ≤ 80000000 → p ≤ q → q ≤ p + 65535 → q ≤ T.size → Calls Tryz.prog 39 #[.pointer (some ⟨B, 0, none⟩), .string (T.extract p q), sv, .bool last, .int .i64 (level : Nat)] w fun e w' => ∃ v, e = .returned v ∧ ∃ C, PlansOk w w' v B W T.data.toList p q last level C ∧ (1 ≤ level → Rf.Per T.data.toList per → per ≤ 32768 → C ≤ pot per q p + 7)
  next : ∀ w w' p q sv, R w p q sv → Fr B w w' → J w' q
  below : ∀ w w' p q sv, R w p q sv → Below w.heap.size w w' → R w' p q sv
  drew : ∀ w p, J w p → J w.drew p

theorem lv_zero (T : ByteArray) (B : Nat) : Lv T 0 B 59 #[] (fun _ _ => True) (fun _ _ _ sv => sv = .slice none 0 0) 0 where
  call := call73
  split := fun w p q W _ hw _ _ _ _ => (split73 p q w).mono fun e w' ⟨h1, h2⟩ => ⟨_, h1, rfl, h2 ▸ hw, h2 ▸ Below.refl _ _⟩
  plans := fun w p q sv W last hr hw hW hpq hq hT => by
    subst hr
    exact (plans0 B last (T.extract p q) _ W w hw T.data.toList p q (part_txt T p q) hpq (by rw [Array.length_toList]; exact hT) (by omega) hW 0).mono fun e w' ⟨v, h1, h2⟩ => ⟨v, h1, 0, h2, fun h => absurd h (by decide)⟩
  next := fun _ _ _ _ _ _ _ => trivial
  below := fun _ _ _ _ _ h _ => h
  drew := fun _ _ _ => trivial

theorem lv_more (T : ByteArray) (level B Xf Xs F M G en per : Nat) (hl : level = 1 ∨ level = 2) (hT : T.size ≤ 4500000) (hper : 0 < T.size → 1 ≤ per) (hpT : PerOk T per) (hB : B < F ∧ B < M ∧ B < G ∧ B < Xf) :
    Lv T level B 61 #[.pointer (some ⟨Xs, 0, none⟩), .pointer (some ⟨Xf, 0, none⟩)] (fun w p => ∃ S sv, Spl w Xf Xs F M G en per T p S sv) (fun w p q sv => ∃ S, Spl w Xf Xs F M G en per T q S sv ∧ Rf.Fits T.data.toList p S q ∧ Rf.Bigs T.data.toList per q p S) per where
  call := call75
  split := fun w p q W ⟨S, sv, hs⟩ hw hpq hq hqT hqe => (split75 Xf Xs F M G en per p q T S sv w hs hpq hq hqT hqe hT hper hpT.1).mono fun e w' ⟨S', sv', h1, h2, h3, h4⟩ => by
    obtain ⟨D, qq, hM, _⟩ := hs.fd.map
    obtain ⟨es, hG, _⟩ := hs.fd.ear
    obtain ⟨es', clock, hMb, _⟩ := hM
    have hlt := hs.lt
    refine ⟨sv', h1, ⟨S', h2, h3.1, by have := h3.2; rwa [← hqe] at this⟩, hw.kp h4 (fun j cs t fr hj ht hq => ?_), h4.below (Nat.le_of_lt hw.lt) (fun k _ hk => ?_)⟩
    · rcases hq with rfl | rfl | rfl | hq
      · rw [hMb] at hj
        simp at hj
      · rw [show w.heap[j]? = _ from hG] at hj
        simp at hj
        rcases ht with ht | ht
        · rw [ht] at hj
          exact absurd hj.2.1 (by decide)
        · rw [ht] at hj
          exact absurd hj.2.1 (by decide)
      · rw [show w.heap[j]? = _ from hs.st.box] at hj
        simp at hj
        rcases ht with ht | ht
        · rw [ht] at hj
          exact absurd hj.2.1 (by decide)
        · rw [ht] at hj
          exact absurd hj.2.1 (by decide)
      · rcases hs.st.own.2 with ⟨rfl, _⟩ | ⟨g, cap, cur, rfl, hg, hblk, _⟩
        · cases hq
        · simp only [Value.ownBlock, Option.some.injEq] at hq
          subst hq
          rw [hblk] at hj
          simp at hj
          rcases ht with ht | ht
          · rw [ht] at hj
            exact absurd hj.2.1 (by decide)
          · rw [ht] at hj
            exact absurd hj.2.1 (by decide)
    · rcases hk with rfl | rfl | rfl | hk
      · omega
      · omega
      · omega
      · have := (hs.st.lt k hk).1
        omega
  plans := fun w p q sv W last ⟨S, hs, hf, hbg⟩ hw hW hpq hq hqT => by
    obtain ⟨ao, cap, rfl⟩ := own_slice2 hs.st.own
    have hlt := hs.lt
    refine (plans12 level hl B last (T.extract p q) ao cap S W w hw T.data.toList p q ⟨part_txt T p q, hpq, by rw [Array.length_toList]; exact hqT, by omega, hf⟩ (hs.st.steps (by omega)) (fun SB cap' e => by
      simp only [Value.slice.injEq, true_and] at e
      exact (hs.st.lt SB (by rw [e.1]; rfl)).2) hW).mono fun e w' ⟨v, h1, h2⟩ => ⟨v, h1, _, h2, fun _ hP hp => cost_le _ _ per q hP hp (by rw [Array.length_toList]; exact hqT) S 0 p hf hbg⟩
  next := fun w w' p q sv ⟨S, hs, hf, _⟩ f => ⟨S, sv, hs.fr f hB⟩
  below := fun w w' p q sv ⟨S, hs, hf, hg⟩ k => ⟨S, hs.below k, hf, hg⟩
  drew := fun w p ⟨S, sv, hs⟩ => ⟨S, sv, hs.below (Below.refl _ _).drew⟩

theorem lv_start (T : ByteArray) (level : Nat) (hl : level ≤ 2) (hT : T.size ≤ 4500000) (B : Nat) (u : World) (hB : B < u.heap.size) :
    Calls Tryz.prog 38 #[.string T, .int .i64 level] u fun e w' => ∃ kf caps J R per, e = .returned (.func (.func kf) #[] caps) ∧ Lv T level B kf caps J R per ∧ (1 ≤ level → PerOk T per) ∧ J w' 0 ∧ Below u.heap.size u w' := by
  by_cases h0 : level = 0
  · subst h0
    exact (splitter48z T u).mono fun e w' ⟨h1, h2⟩ => ⟨_, _, _, _, _, h1, lv_zero T B, fun h => absurd h (by decide), trivial, h2 ▸ Below.refl _ _⟩
  · refine (splitter48 T level u hT h0).mono fun e w' ⟨Xf, Xs, F, M, G, en, per, h1, h2, h3, h4, h5, h6, h7, _, h8, h9⟩ => ?_
    exact ⟨_, _, _, _, _, h1, lv_more T level B Xf Xs F M G en per (by omega) hT h3 h4 ⟨by omega, by omega, by omega, by omega⟩, fun _ => h4, ⟨[], _, h2⟩, h5⟩
end Go.Proofs.YtmfijackgekioaaGreat
