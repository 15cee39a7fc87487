import Derived.Test.YtmfijackgekioaaGreatDoorQKpBs2
import Derived.Test.YtmfijackgekioaaGreatDoorQSmRo4

/-
  Helpers of the readers and writers: rows of bytes and of integers in memory; plain facts.
-/
namespace Go.Proofs.YtmfijackgekioaaGreatDoor
open Go.RowKit

theorem Kp.set1 {B : Nat} {a w : World} (h : Kp (· = B) a w) (j : Nat) (u : Value) : Kp (· = B) a (w.setCell ⟨B, j, none⟩ u) := h.setCell (p := ⟨B, j, none⟩) (.inl rfl) u

abbrev byteV (c : UInt8) : Value := .int .u8 c.toNat

theorem pow_small (k : Nat) (h : k < 16) : (1 : Int) ≤ 2 ^ k ∧ (2 : Int) ^ k ≤ 32768 := by
  have h1 : (2 : Nat) ^ 0 ≤ 2 ^ k := Nat.pow_le_pow_right (by omega) (by omega)
  have h2 : (2 : Nat) ^ k ≤ 2 ^ 15 := Nat.pow_le_pow_right (by omega) (by omega)
  have e : ((2 : Int) ^ k) = ((2 ^ k : Nat) : Int) := by simp
  rw [e]
  omega

theorem make_n (n : Nat) (hn : n ≤ 320) (Z : List Value) (hZ : Z = List.replicate n (.int .i64 0)) (u : World) :
    (Instr.makeSlice 24 (.int .i64 (n : Int)) (.int .i64 (n : Int))).run Tryz.prog u =
      .ok (.slice (some ⟨u.heap.size, 0, none⟩) n n) (u.alloc (.cells Z.toArray 3)) := by
  obtain ⟨i0, hi, hz0, hz1, hz2⟩ := info_parts Tryz.info3
  have h := run_make (P := Tryz.prog) u 24 3 i0 (.int .i64 0) Tryz.underlying24 hi hz0 .i64 .i64 (n : Int) (n : Int) (by omega) (Int.le_refl _) (by rw [hz2]; omega) (by omega)
  have e2 : (madeCells #[Value.int .i64 0] n) = Z.toArray := by
    rw [hZ, ← toList_madeCells_one]
  simpa [hz1, Value.cells, e2] using h

theorem vals_replicate (n : Nat) : vals (List.replicate n 0) = List.replicate n (.int .i64 0) := by simp [vals]
theorem vals_set (l : List Int) (i : Nat) (x : Int) : (vals l).toArray.setIfInBounds i (.int .i64 x) = (vals (l.set i x)).toArray := by simp [vals, List.map_set]

/-- A list of integers that lies apart from a block. -/
structure Apart (w : World) (B : Nat) (ao : Option Addr) (ls : List Int) : Prop where
  ints : Ints w ao ls
  ne : ∀ a, ao = some a → ls ≠ [] → a.block ≠ B ∧ a.block < w.heap.size
theorem pow_int (m : Nat) : ((2 : Int) ^ (m + 1)) = 2 * 2 ^ m := by rw [Int.pow_succ]; omega

/-- What the reader's methods leave alone: all below it, and of what lies behind it all that holds no bytes. -/
structure Fr (B : Nat) (w w' : World) : Prop where
  below : Below B w w'
  other : ∀ k, B < k → k < w.heap.size → (∀ c fr, w.heap[k]? ≠ some (.cells c 5 fr)) → w'.heap[k]? = w.heap[k]?
theorem Fr.refl (B : Nat) (w : World) : Fr B w w := ⟨Below.refl _ _, fun _ _ _ _ => rfl⟩
theorem Fr.trans {B : Nat} {a b c : World} (h : Fr B a b) (k : Fr B b c) : Fr B a c :=
  ⟨h.below.trans k.below, fun i h1 h2 h3 => by
    have e := h.other i h1 h2 h3
    exact (k.other i h1 (Nat.lt_of_lt_of_le h2 h.below.size) (fun c fr => by rw [e]; exact h3 c fr)).trans e⟩
theorem Fr.ofKp {B : Nat} {w w' : World} (hB : B ≤ w.heap.size) (h : Kp (· = B) w w') : Fr B w w' :=
  ⟨h.below hB (fun _ _ e => Nat.le_of_eq e.symm), fun k h1 h2 _ => h.block k h2 (Nat.ne_of_gt h1)⟩
theorem Fr.drewN {B : Nat} {a w : World} (h : Fr B a w) (n : Nat) : Fr B a (w.drewN n) := ⟨below_drewN h.below n, h.other⟩

theorem own_type {w : World} {base e n : Nat} {v : Value} {xs : List Value} (h : w.ownsRow base e 1 v n xs) (g : Nat) (hg : v.ownBlock = some g) : ∃ cur, w.heap[g]? = some (.cells cur e (0, 0)) := by
  rcases h.2 with ⟨rfl, _⟩ | ⟨g', cap, cur, rfl, hb, hg', _⟩
  · simp [Value.ownBlock] at hg
  · simp [Value.ownBlock] at hg
    subst hg
    exact ⟨cur, hg'⟩

theorem Tryz.info5 : (Tryz.prog.info? 5).map (fun i => (i.zero, i.size, i.bytes)) = some (some (.int .u8 0), 1, 1) := by kernel_rfl
theorem byte_of (k : Int) (h : 0 ≤ k ∧ k < 256) : byteV (UInt8.ofNat k.toNat) = .int .u8 k := by
  have : ((UInt8.ofNat k.toNat).toNat : Int) = k := by
    rw [UInt8.toNat_ofNat']
    omega
  simp only [byteV, this]

/-- A list that lies in a block of its own, whole. -/
def Lst (w : World) (g : Nat) (zs : List Int) : Prop := w.heap[g]? = some (.cells (vals zs).toArray 3 (0, 0))
theorem Lst.ints {w : World} {g : Nat} {zs : List Int} (h : Lst w g zs) : Ints w (some ⟨g, 0, none⟩) zs :=
  fun j hj => ⟨g, 0, rfl, (cell_of_row _ _ _ _ _ _ h).trans (by simp [vals, hj])⟩
theorem Lst.set {w : World} {g : Nat} {zs : List Int} (h : Lst w g zs) (i : Nat) (x : Int) : Lst (w.setCell ⟨g, i, none⟩ (.int .i64 x)) g (zs.set i x) :=
  (heap_setCell_same _ _ _ _ _ _ h).trans (by rw [vals_set])

/-- A row under way: the first k places laid. -/
abbrev part (n k : Nat) (f : Nat → Int) : List Int := (List.range n).map fun i => if i < k then f i else 0
theorem part_set (n k : Nat) (f : Nat → Int) : (part n k f).set k (f k) = part n (k + 1) f := by
  apply List.ext_getElem
  · simp
  · intro i h1 h2
    simp only [List.getElem_set, List.getElem_map, List.getElem_range]
    by_cases e : k = i
    · subst e; simp
    · rw [if_neg e]
      by_cases h : i < k
      · rw [if_pos h, if_pos (by omega)]
      · rw [if_neg h, if_neg (by omega)]
theorem part_zero (n : Nat) (f : Nat → Int) : part n 0 f = List.replicate n 0 := by
  apply List.ext_getElem <;> simp
theorem part_all (n : Nat) (f : Nat → Int) : part n n f = (List.range n).map f := by
  apply List.map_congr_left
  intro i hi
  rw [if_pos (List.mem_range.1 hi)]
theorem Lst.cell {w : World} {g : Nat} {zs : List Int} (h : Lst w g zs) (j : Nat) (hj : j < zs.length) : w.cell? ⟨g, j, none⟩ = some (.int .i64 zs[j]) := (cell_of_row _ _ _ _ _ _ h).trans (by simp [vals, hj])

theorem own_blk {w w' : World} {base e n : Nat} {v : Value} {xs : List Value} (h : w.ownsRow base e 1 v n xs) (hb : ∀ g, v.ownBlock = some g → w'.heap[g]? = w.heap[g]?) : w'.ownsRow base e 1 v n xs := by
  refine ⟨h.1, ?_⟩
  rcases h.2 with h' | ⟨g, cap, cur, rfl, hb', hg, hr⟩
  · exact .inl h'
  · exact .inr ⟨g, cap, cur, rfl, hb', (hb g rfl).trans hg, hr⟩

def lenV : Value → Nat | .slice _ n _ => n | _ => 0

theorem own_some {w : World} {base e n : Nat} {v : Value} {xs : List Value} (h : w.ownsRow base e 1 v n xs) (hn : 0 < n) :
    ∃ g cap, v = .slice (some ⟨g, 0, none⟩) n cap ∧ base ≤ g := by
  rcases h.2 with ⟨_, hx⟩ | ⟨g, cap, cur, rfl, hb, _⟩
  · omega
  · exact ⟨g, cap, rfl, hb⟩
theorem own_mono {w : World} {base base' e n : Nat} {v : Value} {xs : List Value} (h : w.ownsRow base e 1 v n xs) (hb : base' ≤ base) : w.ownsRow base' e 1 v n xs := by
  refine ⟨h.1, ?_⟩
  rcases h.2 with h' | ⟨g, cap, cur, rfl, hb', hr⟩
  · exact .inl h'
  · exact .inr ⟨g, cap, cur, rfl, Nat.le_trans hb hb', hr⟩
theorem bad_eta (st : Rf.St) (h : st.bad = true) : ({ st with bad := true } : Rf.St) = st := by cases st; simp_all
theorem vals_snoc (out : List Int) (k : Nat) (x : Int) : vals (out ++ List.replicate (k + 1) x) = vals (out ++ List.replicate k x) ++ [Value.int .i64 x] := by
  simp [vals, List.replicate_succ']

/-- A list of integers in a block that holds integers, apart from the reader. -/
structure Far (w : World) (B : Nat) (ao : Option Addr) (ls : List Int) : Prop where
  ints : Ints w ao ls
  ne : ∀ a, ao = some a → ls ≠ [] → a.block ≠ B ∧ ∃ c fr, w.heap[a.block]? = some (.cells c 3 fr)
theorem Far.apart {w : World} {B : Nat} {ao : Option Addr} {ls : List Int} (h : Far w B ao ls) : Apart w B ao ls :=
  ⟨h.ints, fun a e e2 => ⟨(h.ne a e e2).1, by obtain ⟨_, c, fr, q⟩ := h.ne a e e2; exact lt_of_block q⟩⟩
theorem Far.later {w w' : World} {B : Nat} {ao : Option Addr} {ls : List Int} (h : Far w B ao ls) (hf : Fr B w w') : Far w' B ao ls := by
  have key : ∀ a, ao = some a → ls ≠ [] → w'.heap[a.block]? = w.heap[a.block]? := by
    intro a e e2
    obtain ⟨hne, c, fr, q⟩ := h.ne a e e2
    by_cases hlt : a.block < B
    · exact hf.below.block _ hlt
    · exact hf.other _ (by omega) (lt_of_block q) (fun c' fr' => by rw [q]; simp)
  refine ⟨fun j hj => ?_, fun a e e2 => ?_⟩
  · obtain ⟨b, off, rfl, hc⟩ := h.ints j hj
    have hk := key ⟨b, off, none⟩ rfl (ne_of_lt hj)
    exact ⟨b, off, rfl, (World.cell?_of_block (w := w) (a := ⟨b, off + j, none⟩) hk).trans hc⟩
  · obtain ⟨hne, c, fr, q⟩ := h.ne a e e2
    exact ⟨hne, c, fr, (key a e e2).trans q⟩
theorem Far.ofLst {w : World} {B g : Nat} {ls : List Int} (h : Lst w g ls) (hg : g ≠ B) : Far w B (some ⟨g, 0, none⟩) ls :=
  ⟨h.ints, fun a e _ => by cases e; exact ⟨hg, _, _, h⟩⟩
theorem Fr.ofBelow {B : Nat} {w w' : World} (h : Below w.heap.size w w') (hB : B ≤ w.heap.size) : Fr B w w' :=
  ⟨h.mono hB, fun k _ h2 _ => h.block k h2⟩

theorem hidden {p : Prop} (h : p) : Hid p := h

theorem own_cell {w : World} {base n g cap : Nat} {zs : List Int} (h : w.ownsRow base 3 1 (.slice (some ⟨g, 0, none⟩) n cap) n (vals zs)) (j : Nat) (hj : j < zs.length) : w.cell? ⟨g, j, none⟩ = some (.int .i64 zs[j]) := by
  have hl := h.1
  rcases h.2 with ⟨h', _⟩ | ⟨g', cap', cur, e, _, hb, _, _, _, ht⟩
  · cases h'
  · cases e
    rw [cell_of_row _ _ _ _ _ _ hb]
    have h1 : (cur.toList.take (n * 1))[j]? = cur.toList[j]? := by rw [List.getElem?_take, if_pos (by simp [vals] at hl; omega)]
    rw [ht] at h1
    have h2 : cur[j]? = cur.toList[j]? := by simp
    rw [h2, ← h1]
    simp [vals, hj]
theorem own_far {w : World} {base n g cap B : Nat} {zs : List Int} (h : w.ownsRow base 3 1 (.slice (some ⟨g, 0, none⟩) n cap) n (vals zs)) (hg : g ≠ B) (m : Nat) :
    Far w B (some ⟨g, 0, none⟩) (zs.take m) ∧ Far w B (some ⟨g, m, none⟩) (zs.drop m) := by
  obtain ⟨cur, hb⟩ := own_type h g rfl
  refine ⟨⟨fun j hj => ⟨g, 0, rfl, ?_⟩, fun a e _ => by cases e; exact ⟨hg, _, _, hb⟩⟩, ⟨fun j hj => ⟨g, m, rfl, ?_⟩, fun a e _ => by cases e; exact ⟨hg, _, _, hb⟩⟩⟩
  · have hj' : j < zs.length := by simp at hj; omega
    have := own_cell h j hj'
    simpa using this
  · have hj' : m + j < zs.length := by simp at hj; omega
    have := own_cell h (m + j) hj'
    simpa using this
theorem own_cap {w : World} {base n g cap : Nat} {xs : List Value} (h : w.ownsRow base 3 1 (.slice (some ⟨g, 0, none⟩) n cap) n xs) : n ≤ cap ∧ cap ≤ maxLen ∧ g < w.heap.size := by
  rcases h.2 with ⟨h', _⟩ | ⟨g', cap', cur, e, _, hb, h1, h2, _⟩
  · cases h'
  · cases e
    exact ⟨h1, h2, lt_of_block hb⟩
theorem lsF_out (L ls cd : List Int) (n : Nat) : ∀ (f : Nat) (out : List Int) (st : Rf.St), (Rf.lsF L ls cd n f out st).2.out = st.out ∧ st.pos ≤ (Rf.lsF L ls cd n f out st).2.pos
  | 0, _, _ => ⟨rfl, Nat.le_refl _⟩
  | f + 1, out, st => by
    have h1 := (Rf.symbol_out L ls cd st).1
    have h2 := Rf.symbol_mono L ls cd st
    have t : ∀ k, (Rf.take L (Rf.symbol L ls cd st).2 k).2.out = st.out ∧ st.pos ≤ (Rf.take L (Rf.symbol L ls cd st).2 k).2.pos := fun k => ⟨((Rf.take_out L _ k).1).trans h1, Nat.le_trans h2 (Rf.take_mono L _ k)⟩
    have c : ∀ o s, s.out = st.out ∧ st.pos ≤ s.pos → (Rf.lsF L ls cd n f o s).2.out = st.out ∧ st.pos ≤ (Rf.lsF L ls cd n f o s).2.pos := fun o s hs => ⟨(lsF_out L ls cd n f o s).1.trans hs.1, Nat.le_trans hs.2 (lsF_out L ls cd n f o s).2⟩
    simp only [Rf.lsF]
    split
    · exact ⟨rfl, Nat.le_refl _⟩
    · split
      · exact ⟨h1, h2⟩
      · split
        · exact c _ _ ⟨h1, h2⟩
        · split
          · split
            · exact t 2
            · exact c _ _ (t 2)
          · split
            · exact c _ _ (t 3)
            · exact c _ _ (t 7)
theorem listed_out (L ls : List Int) (n : Nat) (st : Rf.St) : (Rf.listed L ls n st).2.out = st.out ∧ st.pos ≤ (Rf.listed L ls n st).2.pos := by
  have h := lsF_out L ls (Rf.codes ls) n (n + 1) [] st
  unfold Rf.listed
  simp only
  split
  · exact h
  · exact h

end Go.Proofs.YtmfijackgekioaaGreatDoor

/-
  Unpacking, block by block, as a plain function; and how far what is written may grow.
-/
namespace Go.Proofs.YtmfijackgekioaaGreatDoor.Rf

def block (L : List Int) (limit : Int) (k : Int) (st : St) : St :=
  if k = 0 then plain L limit st else if k = 1 then symbols L limit fixS fixD st else if k = 2 then own L limit st else { st with bad := true }
def infF (L : List Int) (limit : Int) : Nat → Int → St → St
  | 0, _, st => st
  | f + 1, last, st =>
    if last ≠ 0 ∨ (st.bad || st.full) = true then st else
    let a := take L st 1
    let k := take L a.2 2
    if k.2.bad = true then k.2 else
    infF L limit f a.1 (block L limit k.1 { k.2 with kinds := k.2.kinds ++ [k.1] })
def inflate (L : List Int) (limit : Int) : St := infF L limit (L.length + 2) 0 ⟨0, false, false, [], []⟩

/-- No more than 258 bytes are written for a bit that is read. -/
def Grow (a b : St) : Prop := a.pos ≤ b.pos ∧ b.out.length + 258 * a.pos ≤ a.out.length + 258 * b.pos
theorem Grow.refl (a : St) : Grow a a := ⟨Nat.le_refl _, Nat.le_refl _⟩
theorem Grow.trans {a b c : St} (h : Grow a b) (k : Grow b c) : Grow a c := ⟨Nat.le_trans h.1 k.1, by have := h.2; have := k.2; omega⟩
theorem Grow.same {a b : St} (h : b.out = a.out) (hp : a.pos ≤ b.pos) : Grow a b := ⟨hp, by rw [h]; omega⟩
theorem grow_take (L : List Int) (st : St) (n : Nat) : Grow st (take L st n).2 := .same (take_out L st n).1 (take_mono L st n)
theorem grow_symbol (L ls cd : List Int) (st : St) : Grow st (symbol L ls cd st).2 := .same (symbol_out L ls cd st).1 (symbol_mono L ls cd st)

theorem plF_le (L : List Int) : ∀ (f : Nat) (st : St), st.pos ≤ (plF L f st).pos ∧ (plF L f st).out.length + st.pos ≤ st.out.length + (plF L f st).pos + 1 ∧ (st.bad = true → plF L f st = st)
  | 0, st => ⟨Nat.le_refl _, by simp only [plF]; omega, fun _ => rfl⟩
  | f + 1, st => by
    rw [plF]
    split
    · exact ⟨Nat.le_refl _, by omega, fun _ => rfl⟩
    · rename_i hb
      have ih := plF_le L f { (take L st 8).2 with out := (take L st 8).2.out ++ [UInt8.ofNat (take L st 8).1.toNat] }
      have ho := (take_out L st 8).1
      have hm := take_mono L st 8
      have hl : ((take L st 8).2.out ++ [UInt8.ofNat (take L st 8).1.toNat]).length = st.out.length + 1 := by rw [ho]; simp
      cases hb8 : (take L st 8).2.bad
      · have hp := (take_bad L st 8 hb8).1
        have i1 := ih.1
        have i2 := ih.2.1
        simp only at i1 i2 ⊢
        rw [hl] at i2
        exact ⟨by omega, by omega, fun h => absurd h hb⟩
      · have i3 := ih.2.2 hb8
        simp only at i3 ⊢
        rw [i3]
        simp only
        rw [hl]
        exact ⟨hm, by omega, fun h => absurd h hb⟩
theorem grow_plain (L : List Int) (limit : Int) (st : St) : Grow st (plain L limit st) := by
  have g1 := grow_take L { st with pos := (st.pos + 7) / 8 * 8 } 16
  have g0 : Grow st { st with pos := (st.pos + 7) / 8 * 8 } := .same rfl (by simp only; omega)
  have b1 := take_bad L { st with pos := (st.pos + 7) / 8 * 8 } 16
  unfold plain
  simp only
  generalize take L { st with pos := (st.pos + 7) / 8 * 8 } 16 = A at *
  have g2 := grow_take L A.2 16
  have b2 := take_bad L A.2 16
  have o2 := (take_out L A.2 16).1
  generalize take L A.2 16 = C at *
  have g := (g0.trans g1).trans g2
  by_cases hs : A.1 + C.1 = 65535
  · simp only [if_pos hs]
    split
    · exact g
    · rename_i hb
      have hc : C.2.bad = false := by cases h : C.2.bad <;> simp_all
      have p2 := (b2 hc).1
      have h5 := room_out limit C.2 A.1.toNat
      generalize room limit C.2 A.1.toNat = R at *
      have gR : Grow C.2 R.2 := .same h5.1 (by rw [h5.2.2.1]; omega)
      split
      · have hp := plF_le L A.1.toNat R.2
        have e1 := h5.2.2.1
        have gg := g.trans gR
        refine ⟨by have := gg.1; omega, ?_⟩
        have h1 := (g0.trans g1).2
        have h2 := (g0.trans g1).1
        have h3 := hp.2.1
        have h4 : R.2.out.length = A.2.out.length := by rw [h5.1, o2]
        have h6 := hp.1
        omega
      · exact g.trans gR
  · simp only [if_neg hs, if_true]
    exact g
theorem grow_symsF {L : List Int} (hb : Bits L) (limit : Int) (ls cd far fcd : List Int) : ∀ (f : Nat) (st : St), Grow st (symsF L limit ls cd far fcd f st)
  | 0, st => .refl st
  | f + 1, st => by
    have g := grow_symbol L ls cd st
    rw [symsF]
    split
    · exact .refl st
    · split
      · exact g
      · rename_i hx
        have hbs : (symbol L ls cd st).2.bad = false := by cases h : (symbol L ls cd st).2.bad <;> simp_all
        have hp := symbol_pos L ls cd st hbs
        have ho := (symbol_out L ls cd st).1
        have h5 := room_out limit (symbol L ls cd st).2 1
        have c : ∀ s : St, (symbol L ls cd st).2.pos ≤ s.pos ∧ s.out.length ≤ (symbol L ls cd st).2.out.length + 258 → Grow st (symsF L limit ls cd far fcd f s) := fun s hs =>
          Grow.trans ⟨by omega, by rw [ho] at hs; omega⟩ (grow_symsF hb limit ls cd far fcd f s)
        split
        · apply c
          split
          · simp only
            rw [h5.2.2.1, List.length_append, h5.1]
            simp
          · rw [h5.2.2.1, h5.1]
            omega
        · split
          · apply c
            simp only
            omega
          · rename_i h1 h2
            exact c _ (copied_le hb limit _ (by omega) far fcd _)
theorem grow_symbols {L : List Int} (hb : Bits L) (limit : Int) (ls far : List Int) (st : St) : Grow st (symbols L limit ls far st) := grow_symsF hb limit _ _ _ _ _ st
theorem grow_lenF (L : List Int) : ∀ (f i : Nat) (ls : List Int) (st : St), Grow st (lenF L f i ls st).2
  | 0, _, _, st => .refl st
  | f + 1, i, ls, st => by
    rw [lenF]; split
    · exact .refl st
    · exact (grow_take L st 3).trans (grow_lenF L f _ _ _)
theorem grow_own {L : List Int} (hb : Bits L) (limit : Int) (st : St) : Grow st (own L limit st) := by
  unfold own
  simp only
  have g := ((grow_take L st 5).trans (grow_take L (take L st 5).2 5)).trans (grow_take L (take L (take L st 5).2 5).2 4)
  generalize take L (take L (take L st 5).2 5).2 4 = K at *
  have g2 := g.trans (grow_lenF L (K.1.toNat + 4) 0 (List.replicate 19 0) K.2)
  generalize lenF L (K.1.toNat + 4) 0 (List.replicate 19 0) K.2 = Q at *
  split
  · exact g2
  · generalize ((take L st 5).1 + (take L (take L st 5).2 5).1 + 258).toNat = n
    have hl := listed_out L Q.1 n Q.2
    have g3 := g2.trans (Grow.same hl.1 hl.2)
    split
    · exact g3
    · split
      · exact g3
      · exact g3.trans (grow_symbols hb limit _ _ _)
theorem grow_block {L : List Int} (hb : Bits L) (limit k : Int) (st : St) : Grow st (block L limit k st) := by
  unfold block
  split
  · exact grow_plain L limit st
  · split
    · exact grow_symbols hb limit _ _ st
    · split
      · exact grow_own hb limit st
      · exact .refl st

end Go.Proofs.YtmfijackgekioaaGreatDoor.Rf

/-
  The kinds stay as they are within a block.
-/
namespace Go.Proofs.YtmfijackgekioaaGreatDoor.Rf

theorem take_kinds (L : List Int) (st : St) (n : Nat) : (take L st n).2.kinds = st.kinds := (take_out L st n).2.1
theorem symbol_kinds (L ls cd : List Int) (st : St) : (symbol L ls cd st).2.kinds = st.kinds := (symbol_out L ls cd st).2.1
theorem room_kinds (limit : Int) (st : St) (n : Nat) : (room limit st n).2.kinds = st.kinds := (room_out limit st n).2.1
theorem lenOf_kinds (L : List Int) (i : Nat) (st : St) : (lenOf L i st).2.kinds = st.kinds := by
  unfold lenOf; repeat' split
  all_goals first | rfl | exact take_kinds L st _
theorem distOf_kinds (L : List Int) (j : Nat) (st : St) : (distOf L j st).2.kinds = st.kinds := by
  unfold distOf; repeat' split
  all_goals first | rfl | exact take_kinds L st _
theorem copied_kinds (L : List Int) (limit : Int) (i : Nat) (far code : List Int) (st : St) : (copied L limit i far code st).kinds = st.kinds := by
  have h1 := lenOf_kinds L i st
  unfold copied
  generalize lenOf L i st = A at *
  have h2 := symbol_kinds L far code A.2
  generalize symbol L far code A.2 = S at *
  have h3 := distOf_kinds L S.1.toNat S.2
  generalize distOf L S.1.toNat S.2 = D at *
  have h4 := room_kinds limit D.2 A.1
  generalize room limit D.2 A.1 = R at *
  repeat' split
  all_goals simp only [h1, h2, h3, h4]
theorem plF_kinds (L : List Int) : ∀ (f : Nat) (st : St), (plF L f st).kinds = st.kinds
  | 0, _ => rfl
  | f + 1, st => by
    rw [plF]; split
    · rfl
    · exact (plF_kinds L f _).trans (take_kinds L st 8)
theorem plain_kinds (L : List Int) (limit : Int) (st : St) : (plain L limit st).kinds = st.kinds := by
  have h1 := take_kinds L { st with pos := (st.pos + 7) / 8 * 8 } 16
  unfold plain
  simp only
  generalize take L { st with pos := (st.pos + 7) / 8 * 8 } 16 = A at *
  have h2 := take_kinds L A.2 16
  generalize take L A.2 16 = C at *
  by_cases hs : A.1 + C.1 = 65535
  · simp only [if_pos hs]
    have h4 := room_kinds limit C.2 A.1.toNat
    generalize room limit C.2 A.1.toNat = R at *
    repeat' split
    · rw [h2, h1]
    · rw [plF_kinds, h4, h2, h1]
    · rw [h4, h2, h1]
  · simp only [if_neg hs, if_true]
    rw [h2, h1]
theorem symsF_kinds (L : List Int) (limit : Int) (ls cd far fcd : List Int) : ∀ (f : Nat) (st : St), (symsF L limit ls cd far fcd f st).kinds = st.kinds
  | 0, _ => rfl
  | f + 1, st => by
    have h1 := symbol_kinds L ls cd st
    have h2 := room_kinds limit (symbol L ls cd st).2 1
    rw [symsF]
    split
    · rfl
    · split
      · exact h1
      · split
        · rw [symsF_kinds L limit ls cd far fcd f]
          split
          · exact h2.trans h1
          · exact h2.trans h1
        · split
          · exact (symsF_kinds L limit ls cd far fcd f _).trans h1
          · exact ((symsF_kinds L limit ls cd far fcd f _).trans (copied_kinds L limit _ far fcd _)).trans h1
theorem lsF_kinds (L ls cd : List Int) (n : Nat) : ∀ (f : Nat) (out : List Int) (st : St), (lsF L ls cd n f out st).2.kinds = st.kinds
  | 0, _, _ => rfl
  | f + 1, out, st => by
    have h1 := symbol_kinds L ls cd st
    have t : ∀ k, (take L (symbol L ls cd st).2 k).2.kinds = st.kinds := fun k => (take_kinds L _ k).trans h1
    simp only [lsF]
    split
    · rfl
    · split
      · exact h1
      · split
        · exact (lsF_kinds L ls cd n f _ _).trans h1
        · split
          · split
            · exact t 2
            · exact (lsF_kinds L ls cd n f _ _).trans (t 2)
          · split
            · exact (lsF_kinds L ls cd n f _ _).trans (t 3)
            · exact (lsF_kinds L ls cd n f _ _).trans (t 7)
theorem listed_kinds (L ls : List Int) (n : Nat) (st : St) : (listed L ls n st).2.kinds = st.kinds := by
  have h := lsF_kinds L ls (codes ls) n (n + 1) [] st
  unfold listed
  simp only
  split
  · exact h
  · exact h
theorem lenF_kinds (L : List Int) : ∀ (f i : Nat) (ls : List Int) (st : St), (lenF L f i ls st).2.kinds = st.kinds
  | 0, _, _, _ => rfl
  | f + 1, i, ls, st => by
    rw [lenF]; split
    · rfl
    · exact (lenF_kinds L f _ _ _).trans (take_kinds L st 3)
theorem own_kinds (L : List Int) (limit : Int) (st : St) : (own L limit st).kinds = st.kinds := by
  unfold own
  simp only
  have g : (take L (take L (take L st 5).2 5).2 4).2.kinds = st.kinds := by rw [take_kinds, take_kinds, take_kinds]
  generalize take L (take L (take L st 5).2 5).2 4 = K at *
  have g2 := (lenF_kinds L (K.1.toNat + 4) 0 (List.replicate 19 0) K.2).trans g
  generalize lenF L (K.1.toNat + 4) 0 (List.replicate 19 0) K.2 = Q at *
  split
  · exact g2
  · generalize ((take L st 5).1 + (take L (take L st 5).2 5).1 + 258).toNat = n
    have g3 := (listed_kinds L Q.1 n Q.2).trans g2
    split
    · exact g3
    · split
      · exact g3
      · exact (symsF_kinds L limit _ _ _ _ _ _).trans g3
theorem block_kinds (L : List Int) (limit k : Int) (st : St) : (block L limit k st).kinds = st.kinds := by
  unfold block
  split
  · exact plain_kinds L limit st
  · split
    · exact symsF_kinds L limit _ _ _ _ _ st
    · split
      · exact own_kinds L limit st
      · rfl

end Go.Proofs.YtmfijackgekioaaGreatDoor.Rf
