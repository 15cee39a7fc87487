import Derived.Test.YtmfijackgekioaaGreatDoorQOfOj5
import Derived.Test.YtmfijackgekioaaGreatDoorQOd

/-
  Decoded once: what is kept between the two lists. For Decodes.
-/
namespace Go.Proofs.YtmfijackgekioaaGreatDoor
open Go.RowKit Go.Maps

/-- A fresh list, by its address. -/
def Fresh (w : World) (B : Nat) (ao : Option Addr) (l : List Int) : Prop := (l = [] ∧ ao = none) ∨ ∃ G, B ≤ G ∧ ao = some ⟨G, 0, none⟩ ∧ Lst w G l
theorem ListV.fresh {w : World} {B : Nat} {v : Value} {l : List Int} (h : ListV w B v l) : ∃ ao, v = .slice ao l.length l.length ∧ Fresh w B ao l := by
  rcases h with ⟨h1, h2⟩ | ⟨G, h1, h2, h3⟩
  · exact ⟨none, by rw [h1, h2]; rfl, .inl ⟨h1, rfl⟩⟩
  · exact ⟨_, h2, .inr ⟨G, h1, rfl, h3⟩⟩
theorem Fresh.below {w w' : World} {B C : Nat} {ao : Option Addr} {l : List Int} (h : Fresh w B ao l) (k : Below C w w') (hC : w.heap.size ≤ C) : Fresh w' B ao l := by
  rcases h with h | ⟨G, h1, h2, h3⟩
  · exact .inl h
  · exact .inr ⟨G, h1, h2, (k.block G (Nat.lt_of_lt_of_le (lt_of_block h3) hC)).trans h3⟩
theorem Fresh.ints {w : World} {B : Nat} {ao : Option Addr} {l : List Int} (h : Fresh w B ao l) : Ints w ao l ∧ ∀ a, ao = some a → B ≤ a.block ∧ a.block < w.heap.size := by
  rcases h with ⟨h1, h2⟩ | ⟨G, h1, h2, h3⟩
  · subst h1 h2
    exact ⟨fun j hj => absurd hj (Nat.not_lt_zero _), fun a e => by cases e⟩
  · subst h2
    have hlt : G < w.heap.size := lt_of_block h3
    exact ⟨Lst.ints h3, fun a e => by rw [← Option.some.inj e]; exact ⟨h1, hlt⟩⟩
abbrev res0 : Res := ⟨⟨0, 0, 0, 0, false⟩, [], []⟩
/-- What decoding comes to, errors too. -/
def outOf (b : ByteArray) (limit : Int) : Res × Int := match decOf b limit with | .ok R => (R, 0) | .error c => (res0, c)
theorem EndsG.all {b : ByteArray} {limit : Int} {w : World} {e : Ending} {w' : World} (h : EndsG b limit w e w') :
    ∃ pa sa, Fresh w' w.heap.size pa (outOf b limit).1.pal ∧ Fresh w' w.heap.size sa (outOf b limit).1.sam ∧ (∀ a a', pa = some a → sa = some a' → a.block ≠ a'.block) ∧ Below w.heap.size w w' ∧ e = .returned (.tuple #[resV (outOf b limit).1 (.slice pa (outOf b limit).1.pal.length (outOf b limit).1.pal.length) (.slice sa (outOf b limit).1.sam.length (outOf b limit).1.sam.length), .int .i64 (outOf b limit).2]) := by
  cases h with
  | @no _ c h1 h2 =>
    have e1 : outOf b limit = (res0, c) := by unfold outOf; rw [h1]
    rw [e1]
    exact ⟨none, none, .inl ⟨rfl, rfl⟩, .inl ⟨rfl, rfl⟩, (fun a a' h => by cases h), h2, rfl⟩
  | @ok _ R pv sv h1 h2 h3 h4 h5 =>
    have e1 : outOf b limit = (R, 0) := by unfold outOf; rw [h1]
    rw [e1]
    obtain ⟨pa, p1, p2⟩ := h2.fresh
    obtain ⟨sa, s1, s2⟩ := h3.fresh
    refine ⟨pa, sa, p2, s2, fun a a' ha ha' => h4 a _ _ a' _ _ (by rw [p1, ha]) (by rw [s1, ha']), h5, by rw [p1, s1]⟩
theorem EndsZ.all {b : ByteArray} {limit : Int} {w : World} {e : Ending} {w' : World} (h : EndsZ b limit w e w') :
    ∃ pa pc sa sc lv t, Ints w' pa (outOf b limit).1.pal ∧ Ints w' sa (outOf b limit).1.sam ∧ (∀ a, pa = some a → (outOf b limit).1.pal ≠ [] → a.block < w'.heap.size) ∧ (∀ a, sa = some a → (outOf b limit).1.sam ≠ [] → a.block < w'.heap.size) ∧ ((outOf b limit).1.pal.length ≤ 5000000 ∧ (outOf b limit).1.sam.length ≤ 100000000) ∧ Below w.heap.size w w' ∧ e = .returned (.tuple #[resV (outOf b limit).1 (.slice pa (outOf b limit).1.pal.length pc) (.slice sa (outOf b limit).1.sam.length sc), .int .i64 (outOf b limit).2, lv, .string t]) := by
  cases h with
  | @no _ c h1 h2 =>
    have e1 : outOf b limit = (res0, c) := by unfold outOf; rw [h1]
    rw [e1]
    exact ⟨none, 0, none, 0, _, _, fun j hj => absurd hj (Nat.not_lt_zero _), fun j hj => absurd hj (Nat.not_lt_zero _), (fun a h => by cases h), (fun a h => by cases h), ⟨Nat.zero_le _, Nat.zero_le _⟩, h2, rfl⟩
  | @ok _ R pv sv lv t h1 h2 h3 h4 h5 =>
    have e1 : outOf b limit = (R, 0) := by unfold outOf; rw [h1]
    rw [e1]
    obtain ⟨pa, pc, p1, p2, p3⟩ := h2.ex
    obtain ⟨sa, sc, s1, s2, s3⟩ := h3.ex
    exact ⟨pa, pc, sa, sc, lv, t, p2, s2, fun a ha hn => (p3 a ha hn).2, fun a ha hn => (s3 a ha hn).2, h5, h4, by rw [p1, s1]⟩
theorem book_row {w : World} {O : Nat} {E : List Ent} {lv mv : Value} (h : Book w O E lv mv) (k : Nat) (hk : inBook O lv mv k) : O ≤ k := by
  rcases hk with hk | hk | hk
  · omega
  · have := (h.l.lt k hk).1; omega
  · have := (h.m.lt k hk).1; omega
/-- Ahead of the first list. -/
theorem take1 {w w3 : World} {O : Nat} {E : List Ent} {lv mv : Value} {pa : Option Addr} {pl : List Int} (hB : Book w O E lv mv) (k : Below w.heap.size w w3) (hp : Fresh w3 w.heap.size pa pl) :
    Book w3 O E lv mv ∧ ((pl = [] ∧ pa = none) ∨ ∃ G, pa = some ⟨G, 0, none⟩ ∧ Lst w3 G pl) ∧ (∀ a, pa = some a → ¬ inBook O lv mv a.block) ∧ (∀ e ∈ E, Marked w3 (Turn O pa lv mv) e) ∧ (∀ e ∈ E, Marked w3 (fun g => inBook O lv mv g ∨ w.heap.size ≤ g) e) := by
  have hi := hp.ints.2
  have hM : ∀ e ∈ E, Marked w3 (fun g => inBook O lv mv g ∨ w.heap.size ≤ g) e := fun e he => (hB.each e he).kp (Kp.ofBelow k) (fun b hb hy => by
    rcases hy with hy | hy
    · exact hy
    · omega)
  refine ⟨hB.far k, ?_, fun a ha hb => ?_, fun e he => (hM e he).kp (Kp.refl _ _) (fun b _ hy => ?_), hM⟩
  · rcases hp with h | ⟨G, h1, h2, h3⟩
    · exact .inl h
    · exact .inr ⟨G, h2, h3⟩
  · have h1 := book_lt hB _ hb
    have h2 := (hi a ha).1
    omega
  · rcases hy with hy | ⟨a, ha, hy⟩
    · exact .inl hy
    · right; rw [← hy]; exact (hi a ha).1
/-- Ahead of the second. -/
theorem take2 {w w3 w4 : World} {O : Nat} {E N : List Ent} {lv mv lv1 mv1 : Value} {pa sa : Option Addr} {pl sl : List Int} (hB : Book w O E lv mv) (hM : ∀ e ∈ E, Marked w3 (fun g => inBook O lv mv g ∨ w.heap.size ≤ g) e) (hp : Fresh w3 w.heap.size pa pl) (hs : Fresh w3 w.heap.size sa sl) (dj : ∀ a a', pa = some a → sa = some a' → a.block ≠ a'.block)
    (k4 : Kp (Turn O pa lv mv) w3 w4) (s4 : ∀ g, g < w3.heap.size → inBook O lv1 mv1 g → Turn O pa lv mv g) (z4 : ∀ e ∈ N, Marked w4 (Zone w3 O pa lv1 mv1) e) :
    ((sl = [] ∧ sa = none) ∨ ∃ G, sa = some ⟨G, 0, none⟩ ∧ Lst w4 G sl) ∧ (∀ a, sa = some a → ¬ inBook O lv1 mv1 a.block) ∧ (∀ e ∈ E ++ N, Marked w4 (Turn O sa lv1 mv1) e) := by
  have hi := hp.ints.2
  have hj := hs.ints.2
  have far : ∀ g, w.heap.size ≤ g → Turn O pa lv mv g → ∃ a, pa = some a ∧ a.block = g := fun g hg ht => by
    rcases ht with ht | ht
    · have := book_lt hB g ht; omega
    · exact ht
  have nS : ∀ a, sa = some a → ¬ Turn O pa lv mv a.block := fun a ha ht => by
    obtain ⟨p, h1, h2⟩ := far _ (hj a ha).1 ht
    exact dj p a h1 ha h2
  have kX : Kp (fun g => inBook O lv mv g ∨ w.heap.size ≤ g) w3 w4 := k4.mono (fun g _ ht => by
    rcases ht with ht | ⟨a, ha, ht⟩
    · exact .inl ht
    · right; rw [← ht]; exact (hi a ha).1)
  refine ⟨?_, fun a ha hb => nS a ha (s4 _ (hj a ha).2 hb), fun e he => ?_⟩
  · rcases hs with h | ⟨G, h1, h2, h3⟩
    · exact .inl h
    · have hlt : G < w3.heap.size := lt_of_block h3
      have h5 := k4.block G hlt (nS ⟨G, 0, none⟩ h2)
      exact .inr ⟨G, h2, h5.trans h3⟩
  · rcases List.mem_append.mp he with he | he
    · refine (hM e he).kp kX (fun b hb hy => ?_)
      rcases hy with hy | ⟨a, ha, hy⟩
      · rcases s4 b hb hy with h | ⟨a, ha, h⟩
        · exact .inl h
        · right; rw [← h]; exact (hi a ha).1
      · right; rw [← hy]; exact (hj a ha).1
    · refine (z4 e he).kp (Kp.refl _ _) (fun b hb hy => ?_)
      rcases hy with hy | ⟨a, ha, hy⟩
      · exact .inl hy
      · rw [← hy]
        exact .inr ⟨(hj a ha).2, fun p hp' h => dj p a hp' ha h⟩
/-- A block that no list may turn. -/
theorem turn_far {w3 w4 : World} {O k : Nat} {pa : Option Addr} {lv mv : Value} (k4 : Kp (Turn O pa lv mv) w3 w4) (hk : k < w3.heap.size) (h1 : ¬ inBook O lv mv k) (h2 : ∀ a, pa = some a → a.block ≠ k) : w4.heap[k]? = w3.heap[k]? :=
  k4.block k hk (fun h => by
    rcases h with h | ⟨a, ha, h⟩
    · exact h1 h
    · exact h2 a ha h)
end Go.Proofs.YtmfijackgekioaaGreatDoor

/-
  Decoded once. For Decodes.
-/
namespace Go.Proofs.YtmfijackgekioaaGreatDoor
open Go.RowKit Go.Maps

set_option maxRecDepth 100000 in
set_option maxHeartbeats 1000000 in
theorem decodedL (b : ByteArray) (limit : Int) (w : World) (O : Nat) (E : List Ent) (lv mv : Value) (hs : b.size ≤ 5000000) (hB : Book w O E lv mv) (hE : E.length ≤ 50) (hn : ∀ e ∈ E, e.n ≤ 2000000000) (tt : TypeId) (fr : Nat × Nat) (hTO : 0 < O) (hTb : w.heap[0]? = some (.cells tab42 tt fr)) :
    Calls Tryz.prog 6 #[.string b, .int .i64 limit, .pointer (some ⟨O, 0, none⟩)] w fun e w' => e = .returned (.bool true) ∧ ∃ E' lv' mv', E'.length = E.length + 8 ∧ Book w' O E' lv' mv' ∧ (∀ e ∈ E', e.n ≤ 2000000000) ∧ Below O w w' := by
  have hP := decodeP b limit w hs tt fr hTb
  have hR := fun u => decodeR b limit u hs
  have HB : Hid (_ ∧ _ ∧ _ ∧ _) := ⟨hB, hn, hTO, hTb⟩
  clear hB hn hTO hTb
  go_enter Tryz.func6, Tryz.ntmps6
  go_wp2_with fail
  refine hP.mono ?_
  intro e w1 he
  clear hP
  obtain ⟨pa, sa, p1, s1, dj, b1, rfl⟩ := he.all
  obtain ⟨R, hRo⟩ : ∃ R, R = (outOf b limit).1 := ⟨_, rfl⟩
  obtain ⟨c, hc⟩ : ∃ c, c = (outOf b limit).2 := ⟨_, rfl⟩
  have HO : Hid (R = (outOf b limit).1 ∧ c = (outOf b limit).2) := ⟨hRo, hc⟩
  rw [← hRo] at p1 s1
  rw [← hRo, ← hc]
  clear he hRo hc
  obtain ⟨⟨wd, ht, kd, dp, ps⟩, pl, sl⟩ := R
  dsimp only at p1 s1
  have H1 : Hid (_ ∧ _ ∧ _ ∧ _) := ⟨p1, s1, dj, b1⟩
  clear p1 s1 dj b1
  go_wp2_with fail
  refine (hR _).mono ?_
  intro e w2 he
  clear hR
  obtain ⟨qa, qc, ta, tc, zv, z, q1, t1, q2, t2, hlb, b2, rfl⟩ := he.all
  rw [← HO.out.1] at q1 t1 q2 t2 hlb
  rw [← HO.out.1, ← HO.out.2]
  clear he
  dsimp only at q1 t1 q2 t2 hlb
  obtain ⟨p1, s1, dj, b1⟩ := H1.out
  have A0 := blk_new w1 (.cells #[.int .i64 wd, .int .i64 ht, .int .i64 kd, .int .i64 dp, .bool ps, .slice pa pl.length pl.length, .slice sa sl.length sl.length] 30)
  have kA := below_alloc w1 (.cells #[.int .i64 wd, .int .i64 ht, .int .i64 kd, .int .i64 dp, .bool ps, .slice pa pl.length pl.length, .slice sa sl.length sl.length] 30)
  have kB := below_alloc w2 (.cells #[.int .i64 wd, .int .i64 ht, .int .i64 kd, .int .i64 dp, .bool ps, .slice qa pl.length qc, .slice ta sl.length tc] 30)
  have B0 := blk_new w2 (.cells #[.int .i64 wd, .int .i64 ht, .int .i64 kd, .int .i64 dp, .bool ps, .slice qa pl.length qc, .slice ta sl.length tc] 30)
  have z1 := b1.size
  have zA := kA.size
  have z2 := b2.size
  have zB := kB.size
  have zw : w1.heap.size < w2.heap.size := Nat.lt_of_lt_of_le (lt_of_block A0) z2
  have A1 := (kB.block w1.heap.size zw).trans ((b2.block w1.heap.size (lt_of_block A0)).trans A0)
  have k12 : Below w.heap.size w w2 := b1.trans ((kA.mono z1).trans (b2.mono (by omega)))
  have k2a : Below w.heap.size w (w2.alloc (.cells #[.int .i64 wd, .int .i64 ht, .int .i64 kd, .int .i64 dp, .bool ps, .slice qa pl.length qc, .slice ta sl.length tc] 30)) := k12.trans (kB.mono k12.size)
  have p2 := ((p1.below kA (Nat.le_refl _)).below b2 (Nat.le_refl _)).below kB (Nat.le_refl _)
  have s2 := ((s1.below kA (Nat.le_refl _)).below b2 (Nat.le_refl _)).below kB (Nat.le_refl _)
  have q3 := q1.below kB q2
  have t3 := t1.below kB t2
  have pb : ∀ a, pa = some a → a.block < w1.heap.size := fun a ha => (p1.ints.2 a ha).2
  have sb : ∀ a, sa = some a → a.block < w1.heap.size := fun a ha => (s1.ints.2 a ha).2
  have hSame := sameL wd ht kd dp ps pa qa sa ta pl.length qc sl.length tc pl sl _ p2.ints.1 q3 s2.ints.1 t3 (fun a ha _ => (p2.ints.2 a ha).2) (fun a ha hn => Nat.lt_of_lt_of_le (q2 a ha hn) zB) (fun a ha _ => (s2.ints.2 a ha).2) (fun a ha hn => Nat.lt_of_lt_of_le (t2 a ha hn) zB) (by omega) (by omega)
  obtain ⟨y0, y1, y2, y3, y4, y5, y6⟩ := cells7 A1
  obtain ⟨x0, x1, x2, x3, x4, x5, x6⟩ := cells7 B0
  have H2 : Hid (_ ∧ _ ∧ _ ∧ _ ∧ _ ∧ _ ∧ _ ∧ _ ∧ _ ∧ _) := ⟨k2a, p2, s2, dj, A1, pb, sb, hlb, z1, zw⟩
  clear p1 s1 dj b1 A0 kA kB B0 z1 zA z2 zB A1 k12 k2a p2 s2 q1 q2 q3 t1 t2 t3 pb sb hlb b2 H1
  go_wp2_with fail
  refine hSame.mono ?_
  rintro e w3 ⟨rfl, b3⟩
  obtain ⟨k2a, p2, s2, dj, A1, pb, sb, hlb, z1, zw⟩ := H2.out
  clear y0 y1 y2 y3 y4 y5 y6 x0 x1 x2 x3 x4 x5 x6 hSame
  have k3 := k2a.trans (b3.mono k2a.size)
  have p3 := p2.below b3 (Nat.le_refl _)
  have s3 := s2.below b3 (Nat.le_refl _)
  have A3 := (b3.block w1.heap.size (lt_of_block A1)).trans A1
  obtain ⟨T1, T2, T3, T4, T5⟩ := take1 HB.out.1 k3 p3
  have h4 := takeB w3 O pa pl E lv mv T1 (by omega) (by omega) T2 T3 T4
  obtain ⟨y0, y1, y2, y3, y4, y5, y6⟩ := cells7 A3
  have H3 : Hid (_ ∧ _ ∧ _ ∧ _ ∧ _ ∧ _ ∧ _ ∧ _ ∧ _) := ⟨k3, p3, s3, dj, A3, pb, sb, T1, T5⟩
  have H3z : Hid (_ ∧ _) := ⟨hlb, z1⟩
  clear k2a p2 s2 dj A1 pb sb hlb b3 k3 p3 s3 A3 T1 T2 T3 T4 T5 H2 z1 zw
  go_wp2_with fail
  refine h4.mono ?_
  rintro e w4 ⟨rfl, N1, lv1, mv1, n4, B4, k4, i4, m4, l4⟩
  clear y0 y1 y2 y3 y4 y5 y6 h4
  obtain ⟨k3, p3, s3, dj, A3, pb, sb, T1, T5⟩ := H3.out
  obtain ⟨U1, U2, U3⟩ := take2 HB.out.1 T5 p3 s3 dj k4 i4 m4
  have hlb := H3z.out.1
  have z1 := H3z.out.2
  have A4 := (turn_far k4 (lt_of_block A3) (fun h => by have := book_lt HB.out.1 _ h; omega) (fun a ha h => by have := pb a ha; omega)).trans A3
  have hOw : O ≤ w.heap.size := Nat.le_of_lt (lt_of_block HB.out.1.o)
  have g4 : Below O w w4 := (k3.mono hOw).trans (k4.below (Nat.le_trans hOw k3.size) (fun k _ h => by
    rcases h with h | ⟨a, ha, h⟩
    · exact book_row HB.out.1 k h
    · rw [← h]; exact Nat.le_trans hOw (p3.ints.2 a ha).1))
  have h5 := takeB w4 O sa sl (E ++ N1) lv1 mv1 B4 (by simp; omega) (by omega) U1 U2 U3
  obtain ⟨y0, y1, y2, y3, y4, y5, y6⟩ := cells7 A4
  have s4 : ∀ a, sa = some a → w.heap.size ≤ a.block := fun a ha => (s3.ints.2 a ha).1
  have H4 : Hid (_ ∧ _ ∧ _ ∧ _ ∧ _) := ⟨B4, g4, n4, l4, s4⟩
  clear hOw k3 p3 s3 dj A3 pb sb T1 T5 U1 U2 U3 A4 g4 n4 B4 k4 i4 m4 l4 hlb z1 H3 s4
  go_wp2_with fail
  refine h5.mono ?_
  rintro e w5 ⟨rfl, N2, lv2, mv2, n5, B5, k5, i5, m5, l5⟩
  clear y0 y1 y2 y3 y4 y5 y6 h5
  obtain ⟨B4, g4, n4, l4, s4⟩ := H4.out
  have hall : ∀ e ∈ (E ++ N1) ++ N2, e.n ≤ 2000000000 := fun e he => by
    have hlb := H3z.out.1
    rcases List.mem_append.mp he with he | he
    · rcases List.mem_append.mp he with he | he
      · exact HB.out.2.1 e he
      · have := l4 e he; omega
    · have := l5 e he; omega
  have hlen : ((E ++ N1) ++ N2).length = E.length + 8 := by simp; omega
  have hOw : O ≤ w.heap.size := Nat.le_of_lt (lt_of_block HB.out.1.o)
  have g5 : Below O w w5 := g4.trans (k5.below (Nat.le_trans hOw g4.size) (fun k _ h => by
    rcases h with h | ⟨a, ha, h⟩
    · exact book_row B4 k h
    · rw [← h]; exact Nat.le_trans hOw (s4 a ha)))
  have h6 := keptB w5 O ((E ++ N1) ++ N2) lv2 mv2 B5 (by omega) hall
  have H5 : Hid (_ ∧ _ ∧ _ ∧ _) := ⟨hlen, B5, hall, g5⟩
  clear hOw B4 g4 n4 l4 s4 hall hlen g5 B5 k5 i5 m5 l5 n5 H4 H3z
  go_wp2_with fail
  refine h6.mono ?_
  rintro e w6 ⟨rfl, m, hw6⟩
  have hcc : (c == c) = true := by simp
  have HW6 : Hid (_) := hw6
  clear h6 hw6
  go_wp2
  go_ret
  obtain ⟨hlen, B5, hall, g5⟩ := H5.out
  have k6 : Below w5.heap.size w5 w6 := by rw [HW6.out]; exact below_drewN (Below.refl _ _) m
  exact ⟨rfl, _, _, _, hlen, B5.far k6, hall, by rw [HW6.out]; exact below_drewN g5 m⟩
end Go.Proofs.YtmfijackgekioaaGreatDoor

/-
  The law Decodes.
-/
namespace Go.Proofs.YtmfijackgekioaaGreatDoor
open Go.RowKit Go.Maps

theorem book_nil (w : World) : Book (w.alloc (.cells #[.slice none 0 0, .slice none 0 0] 26)) w.heap.size [] (.slice none 0 0) (.slice none 0 0) :=
  ⟨blk_new w _, World.ownsRow_nil _ _ _ _, World.ownsRow_nil _ _ _ _, fun g h => (by cases h), fun e he => (by cases he)⟩
set_option maxRecDepth 100000 in
set_option maxHeartbeats 1000000 in
theorem decodes3 (b : ByteArray) (limit : Int) (w : World) (hs : b.size ≤ 5000000) (tt : TypeId) (fr : Nat × Nat) (hTb : w.heap[0]? = some (.cells tab42 tt fr)) :
    Calls Tryz.prog 3 #[.string b, .int .i64 limit] w fun e w' => e = .returned (.bool true) ∧ Below w.heap.size w w' := by
  have k0 := below_alloc w (.cells #[.slice none 0 0, .slice none 0 0] 26)
  have hlt := lt_of_block hTb
  have h1 := decodedL b limit _ w.heap.size [] (.slice none 0 0) (.slice none 0 0) hs (book_nil w) (Nat.zero_le _) (fun e he => by cases he) tt fr hlt ((k0.block _ hlt).trans hTb)
  have HK : Hid (_ ∧ _) := ⟨k0, hTb⟩
  clear k0 hTb
  go_enter Tryz.func3, Tryz.ntmps3
  go_wp2_with fail
  refine h1.mono ?_
  rintro e w1 ⟨rfl, E1, lv1, mv1, n1, B1, m1, b1⟩
  have k1 := HK.out.1.trans b1
  have h2 := decodedL b limit w1 w.heap.size E1 lv1 mv1 hs B1 (by rw [n1]; decide) m1 tt fr hlt ((k1.block _ hlt).trans HK.out.2)
  have HK1 : Hid (_) := k1
  clear h1 B1 m1 b1 k1 n1
  go_wp2_with fail
  refine h2.mono ?_
  rintro e w2 ⟨rfl, E2, lv2, mv2, n2, B2, m2, b2⟩
  have HK2 : Hid (Below w.heap.size w w2) := HK1.out.trans b2
  clear h2 B2 m2 b2 n2
  go_wp2
  go_ret
  exact ⟨rfl, HK2.out⟩
end Go.Proofs.YtmfijackgekioaaGreatDoor
