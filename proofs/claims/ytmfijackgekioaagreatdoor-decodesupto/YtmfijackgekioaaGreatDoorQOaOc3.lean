import Derived.Test.YtmfijackgekioaaGreatDoorQNs
import Derived.Test.YtmfijackgekioaaGreatDoorQLbLm3
import Derived.Test.YtmfijackgekioaaGreatDoorQUwVc6

/-
  A file read as a picture: plain. For Decodes.
-/
namespace Go.Proofs.YtmfijackgekioaaGreatDoor
open Go.RowKit Go.Maps

/-- A picture. -/
structure Res where
  hd : Hd
  pal : List Int
  sam : List Int
def rawOf (h : Hd) : Int := Pm.raw h.wd h.ht (Pm.chan h.kd h.dp * h.dp) h.ps
def picOf (h : Hd) : Pm.Pic := ⟨h.wd.toNat, h.ht.toNat, (Pm.chan h.kd h.dp).toNat, h.dp.toNat⟩
def palOf (kd : Int) (p : Option ByteArray) : List Int := if kd = 3 then palL (p.getD ⟨#[]⟩) else []
def lateOf (h : Hd) (p : Option ByteArray) (t : ByteArray) : Except Int Res :=
  match Pm.pict (picOf h) (byteAt t) h.ps with
  | none => .error 15
  | some l => if h.kd = 3 ∧ Pm.allB l (((palOf h.kd p).length : Int) / 3) = false then .error 16 else .ok ⟨h, palOf h.kd p, l⟩
def dataOf (h : Hd) (P : Parts) : Except Int Res :=
  if wcode P.data (rawOf h) = 7 ∨ (wcode P.data (rawOf h) = 0 ∧ ((wtext P.data (rawOf h)).size : Int) ≠ rawOf h) then .error 14
  else if wcode P.data (rawOf h) ≠ 0 then .error (wcode P.data (rawOf h))
  else lateOf h P.pal (wtext P.data (rawOf h))
def partOf (P : Parts) (limit : Int) : Except Int Res :=
  if hdOk P.head = false then .error 13
  else if limit < rawOf (hdOf P.head) ∨ 4194304 < rawOf (hdOf P.head) then .error 7
  else if palOk (hdOf P.head).kd (hdOf P.head).dp P.pal = false then .error 3
  else dataOf (hdOf P.head) P
/-- The document's reading of a file: a picture, or the error's number. -/
def decOf (b : ByteArray) (limit : Int) : Except Int Res :=
  match partsOf b with
  | .error c => .error c
  | .ok P => partOf P limit
theorem dec_parts {b : ByteArray} {limit c : Int} (h : partsOf b = .error c) : decOf b limit = .error c := by unfold decOf; rw [h]
theorem dec_ok {b : ByteArray} {P : Parts} (limit : Int) (h : partsOf b = .ok P) : decOf b limit = partOf P limit := by unfold decOf; rw [h]
theorem hdOk_facts {b : ByteArray} (h : hdOk b = true) : b.size = 13 ∧ Pm.sideB (hdOf b).wd = true ∧ Pm.sideB (hdOf b).ht = true ∧ Pm.chan (hdOf b).kd (hdOf b).dp ≠ 0 := by
  simp only [hdOk, Bool.and_eq_true, Bool.not_eq_true', decide_eq_true_eq, beq_eq_false_iff_ne] at h
  exact ⟨h.1, h.2.1.1, h.2.1.2, h.2.2.2⟩
theorem joinS_size (nm : List UInt8) : ∀ L : List Ch, (joinS nm L).size ≤ sumC L
  | [] => Nat.le_refl _
  | c :: r => by
    have ih := joinS_size nm r
    have e : sumC (c :: r) = c.data.size + sumC r := by simp [sumC]
    rw [joinS_cons, e]
    split
    · rw [ByteArray.size_append]; omega
    · omega
theorem parts_sizes {b : ByteArray} {P : Parts} (h : partsOf b = .ok P) : P.data.size ≤ b.size ∧ ∀ p, P.pal = some p → p.size ≤ b.size := by
  unfold partsOf at h
  split at h
  · cases hc : chunksOf (b.extract 8 b.size) with
    | none => rw [hc] at h; cases h
    | some L =>
      rw [hc] at h
      simp only at h
      cases ho : ordOf L with
      | none => rw [ho] at h; cases h
      | some Q =>
        rw [ho] at h
        simp only [Except.ok.injEq] at h
        subst h
        obtain ⟨a1, _, a3⟩ := join_parts ho
        have hz := (chunks_sizes hc).1
        have hs : (b.extract 8 b.size).size ≤ b.size := by rw [ByteArray.size_extract]; omega
        have j1 := joinS_size nIDAT L
        have j2 := joinS_size nPLTE L
        rw [a1] at j1
        rw [a3] at j2
        refine ⟨by omega, fun p hp => ?_⟩
        rw [hp] at j2
        have : p.size ≤ sumC L := j2
        omega
  · cases h
theorem palL_length (p : ByteArray) : (palL p).length = p.size := by simp [palL]
/-- A list as a value: none, or one in a row of its own that is just as long. -/
def ListV (w : World) (B : Nat) (v : Value) (l : List Int) : Prop := (l = [] ∧ v = .slice none 0 0) ∨ ∃ G, B ≤ G ∧ v = .slice (some ⟨G, 0, none⟩) l.length l.length ∧ Lst w G l
theorem ListV.below {w w' : World} {B : Nat} {v : Value} {l : List Int} (h : ListV w B v l) (k : Below w.heap.size w w') : ListV w' B v l := by
  rcases h with h | ⟨G, a, b, c⟩
  · exact .inl h
  · exact .inr ⟨G, a, b, (k.block _ (lt_of_block c)).trans c⟩
theorem ListV.mono {w : World} {B B' : Nat} {v : Value} {l : List Int} (h : ListV w B v l) (k : B' ≤ B) : ListV w B' v l := by
  rcases h with h | ⟨G, a, b, c⟩
  · exact .inl h
  · exact .inr ⟨G, by omega, b, c⟩
abbrev resV (R : Res) (pv sv : Value) : Value := .agg #[.int .i64 R.hd.wd, .int .i64 R.hd.ht, .int .i64 R.hd.kd, .int .i64 R.hd.dp, .bool R.hd.ps, pv, sv]
/-- What reading a file comes to. -/
inductive EndsD (b : ByteArray) (limit : Int) (w : World) : Ending → World → Prop
  | no {w' c} : decOf b limit = .error c → Below w.heap.size w w' → EndsD b limit w (dies c) w'
  | ok {w' R pv sv} : decOf b limit = .ok R → ListV w' w.heap.size pv R.pal → ListV w' w.heap.size sv R.sam → (∀ a n c a' n' c', pv = .slice (some a) n c → sv = .slice (some a') n' c' → a.block ≠ a'.block) → Below w.heap.size w w' → EndsD b limit w (.returned (resV R pv sv)) w'
end Go.Proofs.YtmfijackgekioaaGreatDoor

/-
  A file read as a picture: the program. For Decodes.
-/
namespace Go.Proofs.YtmfijackgekioaaGreatDoor
open Go.RowKit Go.Maps

theorem unw_call (args : Array Value) (w : World) : (callFunc 46 args).run Tryz.prog w = .ok (.enter 46 args) w := by kernel_rfl
theorem raw_range (h : Hd) (h1 : Pm.sideB h.wd = true) (h2 : Pm.sideB h.ht = true) (h3 : Pm.chan h.kd h.dp ≠ 0) : 0 ≤ rawOf h ∧ rawOf h ≤ 2000000000 := by
  have a1 := (Pm.sideB_iff _).1 h1
  have a2 := (Pm.sideB_iff _).1 h2
  have a3 := Pm.pb_range _ _ h3
  unfold rawOf Pm.raw
  split
  · have := rawTo_range (Pm.chan h.kd h.dp * h.dp) a1 a2 a3 7 (Nat.le_refl _)
    omega
  · have := Pm.ad_range h.wd h.ht (Pm.chan h.kd h.dp * h.dp) (by omega) (by omega) a3
    omega
theorem palOf_other {kd : Int} (h : kd ≠ 3) (p : Option ByteArray) : palOf kd p = [] := by unfold palOf; rw [if_neg h]
theorem EndsL.both {kd dp : Int} {P : Parts} {w : World} {e : Ending} {w' : World} (h : EndsL kd dp P w e w') : (e = dies 3 ∧ palOk kd dp P.pal = false ∧ Below w.heap.size w w') ∨
    (∃ pa pc, e = .returned (.slice pa (palOf kd P.pal).length pc) ∧ palOk kd dp P.pal = true ∧ ListV w' w.heap.size (.slice pa (palOf kd P.pal).length pc) (palOf kd P.pal) ∧ Below w.heap.size w w') := by
  cases h with
  | no h1 h2 => exact .inl ⟨rfl, h1, h2⟩
  | none h1 h3 h2 =>
    have e := palOf_other h3 P.pal
    exact .inr ⟨Option.none, 0, by rw [e]; rfl, h1, .inl ⟨e, by rw [e]; rfl⟩, h2⟩
  | @ok _ p G h1 h3 h4 h5 h6 h2 =>
    have e : palOf kd P.pal = palL p := by unfold palOf; rw [if_pos h3, h4]; rfl
    have el : (palL p).length = p.size := palL_length p
    exact .inr ⟨some ⟨G, 0, Option.none⟩, p.size, by rw [e, el], h1, .inr ⟨G, h6, by rw [e, el], by rw [e]; exact h5⟩, h2⟩
/-- Behind the samples: the picture is put together. -/
theorem read_end {w w6 w7 : World} {MB base G W H D : Nat} {kd : Int} {ps : Bool} {pa : Option Addr} {pc : Nat} {pl l : List Int} (B7 : Below w.heap.size w w7) (z7 : w7.heap[w.heap.size]? = some (.cells hdZero 30 (0, 0)))
    (lv6 : ListV w6 base (.slice pa pl.length pc) pl) (b7 : Below w6.heap.size w6 w7) (h5 : Lst w7 G l) (h6 : w6.heap.size ≤ G) (hM : w.heap.size < MB) (hb : MB < base) (hM6 : MB < w6.heap.size) :
    (set7 (w7.setCell ⟨MB, 6, none⟩ (.slice (some ⟨G, 0, none⟩) l.length l.length)) w.heap.size (.int .i64 (W : Nat)) (.int .i64 (H : Nat)) (.int .i64 kd) (.int .i64 (D : Nat)) (.bool ps) (.slice pa pl.length pc) (.slice (some ⟨G, 0, none⟩) l.length l.length)).heap[w.heap.size]? = some (.cells #[.int .i64 (W : Nat), .int .i64 (H : Nat), .int .i64 kd, .int .i64 (D : Nat), .bool ps, .slice pa pl.length pc, .slice (some ⟨G, 0, none⟩) l.length l.length] 30 (0, 0)) ∧
    Below w.heap.size w (set7 (w7.setCell ⟨MB, 6, none⟩ (.slice (some ⟨G, 0, none⟩) l.length l.length)) w.heap.size (.int .i64 (W : Nat)) (.int .i64 (H : Nat)) (.int .i64 kd) (.int .i64 (D : Nat)) (.bool ps) (.slice pa pl.length pc) (.slice (some ⟨G, 0, none⟩) l.length l.length)) ∧
    ListV (set7 (w7.setCell ⟨MB, 6, none⟩ (.slice (some ⟨G, 0, none⟩) l.length l.length)) w.heap.size (.int .i64 (W : Nat)) (.int .i64 (H : Nat)) (.int .i64 kd) (.int .i64 (D : Nat)) (.bool ps) (.slice pa pl.length pc) (.slice (some ⟨G, 0, none⟩) l.length l.length)) w.heap.size (.slice pa pl.length pc) pl ∧
    ListV (set7 (w7.setCell ⟨MB, 6, none⟩ (.slice (some ⟨G, 0, none⟩) l.length l.length)) w.heap.size (.int .i64 (W : Nat)) (.int .i64 (H : Nat)) (.int .i64 kd) (.int .i64 (D : Nat)) (.bool ps) (.slice pa pl.length pc) (.slice (some ⟨G, 0, none⟩) l.length l.length)) w.heap.size (.slice (some ⟨G, 0, none⟩) l.length l.length) l ∧
    (∀ a n c a' n' c', Value.slice pa pl.length pc = .slice (some a) n c → Value.slice (some ⟨G, 0, none⟩) l.length l.length = .slice (some a') n' c' → a.block ≠ a'.block) := by
  have far8 := fun g (hg : g ≠ MB) => set_far w7 MB 6 (.slice (some ⟨G, 0, none⟩) l.length l.length) g hg
  have z8 := (far8 w.heap.size (by omega)).trans z7
  have B8 : Below w.heap.size w (w7.setCell ⟨MB, 6, none⟩ (.slice (some ⟨G, 0, none⟩) l.length l.length)) := B7.setCell (p := ⟨MB, 6, none⟩) (by dsimp only; omega) _
  have hfr := fun g (hg : g ≠ w.heap.size) (hg2 : g ≠ MB) => (set7_far (w7.setCell ⟨MB, 6, none⟩ (.slice (some ⟨G, 0, none⟩) l.length l.length)) w.heap.size (.int .i64 (W : Nat)) (.int .i64 (H : Nat)) (.int .i64 kd) (.int .i64 (D : Nat)) (.bool ps) (.slice pa pl.length pc) (.slice (some ⟨G, 0, none⟩) l.length l.length) g hg).trans (far8 g hg2)
  refine ⟨set7_row z8 _ _ _ _ _ _ _, set7_below B8 w.heap.size (Nat.le_refl _) _ _ _ _ _ _ _, ?_, .inr ⟨G, by omega, rfl, (hfr G (by omega) (by omega)).trans h5⟩, ?_⟩
  · rcases lv6 with h | ⟨g, g1, g2, g3⟩
    · exact .inl h
    · exact .inr ⟨g, by omega, g2, (hfr g (by omega) (by omega)).trans ((b7.block g (lt_of_block g3)).trans g3)⟩
  · intro a n1 c1 a' n2 c2 e1 e2 e3
    injection e1 with e1
    injection e2 with e2
    injection e2 with e2
    subst e2
    rcases lv6 with h | ⟨g, g1, g2, g3⟩
    · injection h.2 with h
      rw [h] at e1
      cases e1
    · injection g2 with g2
      rw [g2] at e1
      injection e1 with e1
      subst e1
      dsimp only at e3
      have := lt_of_block g3
      omega
set_option maxRecDepth 100000 in
set_option maxHeartbeats 1000000 in
theorem readP (b : ByteArray) (limit : Int) (w : World) (hs : b.size ≤ 5000000) (tt : TypeId) (fr : Nat × Nat) (hTb : w.heap[0]? = some (.cells tab42 tt fr)) :
    Calls Tryz.prog 52 #[.string b, .int .i64 limit, .func (.func 46) #[] #[]] w fun e w' => EndsD b limit w e w' := by
  have hcall := unw_call
  have hrp := fun u => readPartsP b u (by omega)
  have k0 := below_alloc w (.cells hdZero 30)
  have q0 := blk_new w (.cells hdZero 30)
  have HTb : Hid (_) := hTb
  have HZ0 : Hid (_ ∧ _) := ⟨k0, q0⟩
  clear k0 q0 hTb
  go_enter Tryz.func52, Tryz.ntmps52
  go_wp2_with fail
  refine (hrp _).mono ?_
  intro e w1 he
  have kw1 : Below (w.heap.size + 1) (w.alloc (.cells hdZero 30)) w1 → Below w.heap.size w w1 := fun k => HZ0.out.1.trans (k.mono (by omega))
  cases he with
  | @no _ c h1 k1 =>
    simp only [World.size_alloc] at k1
    have HD : Hid (_ ∧ _) := ⟨dec_parts (limit := limit) h1, kw1 k1⟩
    clear h1 k1 kw1 hrp
    go_wp2
    exact ⟨rfl, .no HD.out.1 HD.out.2⟩
  | @ok _ P h1 k1 =>
    simp only [World.size_alloc] at k1
    have hps := parts_sizes h1
    have HDE : Hid (decOf b limit = partOf P limit) := dec_ok limit h1
    have B1 := kw1 k1
    have z1 := (k1.block w.heap.size (by omega)).trans HZ0.out.2
    have lz := lt_of_block z1
    have hrh := fun u => readHeadP P.head u
    obtain ⟨kk, p0⟩ := And.intro (below_alloc w1 (.cells #[.string P.head, .bool P.pal.isSome, .string (P.pal.getD ⟨#[]⟩), .string P.data] 116)) (blk_new w1 (.cells #[.string P.head, .bool P.pal.isSome, .string (P.pal.getD ⟨#[]⟩), .string P.data] 116))
    have HW1 : Hid (_ ∧ _ ∧ _ ∧ _) := ⟨B1.trans (kk.mono B1.size), (kk.block _ lz).trans z1, p0, hps⟩
    clear h1 k1 kw1 hrp hps B1 z1 HZ0 kk p0
    go_wp2_with fail
    refine (hrh _).mono ?_
    intro e w2 he
    cases he with
    | no h2 k2 =>
      simp only [World.size_alloc] at k2
      have HD : Hid (_ ∧ _) := ⟨(by rw [HDE.out, partOf, if_pos h2] : decOf b limit = .error 13), HW1.out.1.trans (k2.mono (by have := HW1.out.1.size; simpa using this))⟩
      clear h2 k2 hrh
      go_wp2
      exact ⟨rfl, .no HD.out.1 HD.out.2⟩
    | ok h2 k2 =>
      simp only [World.size_alloc] at k2
      obtain ⟨_, f1, f2, f3⟩ := hdOk_facts h2
      have hrr := raw_range _ f1 f2 f3
      have HD2 : Hid (decOf b limit = if limit < rawOf (hdOf P.head) ∨ 4194304 < rawOf (hdOf P.head) then .error 7 else if palOk (hdOf P.head).kd (hdOf P.head).dp P.pal = false then .error 3 else dataOf (hdOf P.head) P) := by
        show _ = _
        rw [HDE.out, partOf, if_neg (by rw [h2]; decide)]
      generalize hdOf P.head = h at *
      obtain ⟨wd, ht, kd, dp, ps⟩ := h
      simp only at f1 f2 f3
      have a1 := (Pm.sideB_iff _).1 f1
      have a2 := (Pm.sideB_iff _).1 f2
      have a3 := Pm.chan_depth _ _ f3
      have a4 := Pm.chan_range kd dp
      obtain ⟨W, rfl⟩ := Int.eq_ofNat_of_zero_le (a := wd) (by omega)
      obtain ⟨H, rfl⟩ := Int.eq_ofNat_of_zero_le (a := ht) (by omega)
      obtain ⟨D, rfl⟩ := Int.eq_ofNat_of_zero_le (a := dp) (by omega)
      obtain ⟨n, hn⟩ := Int.eq_ofNat_of_zero_le (a := Pm.chan kd D) (by omega)
      have hraw : rawOf ⟨W, H, kd, D, ps⟩ = Pm.raw W H ((n * D : Nat) : Int) ps := by
        unfold rawOf
        dsimp only
        rw [hn]
        push_cast
        rfl
      have kk := below_alloc w2 (.cells (hdCells ⟨W, H, kd, D, ps⟩) 30)
      have m0 := blk_new w2 (.cells (hdCells ⟨W, H, kd, D, ps⟩) 30)
      have zz := k2.size
      simp only [World.size_alloc] at zz
      have z2 := (kk.block _ (by omega)).trans ((k2.block w.heap.size (by omega)).trans HW1.out.2.1)
      have p2 := (kk.block _ (by omega)).trans ((k2.block w1.heap.size (by omega)).trans HW1.out.2.2.1)
      have B2 : Below w.heap.size w (w2.alloc (.cells (hdCells ⟨W, H, kd, D, ps⟩) 30)) := (HW1.out.1.trans (k2.mono (by omega))).trans (kk.mono (by omega))
      have hrw := fun u hu => raw30 (W : Int) H kd D ps (.slice none 0 0) (.slice none 0 0) u tt fr hu (by omega) (by omega) f3
      have t2 : Hid ((w2.alloc (.cells (hdCells ⟨W, H, kd, D, ps⟩) 30)).heap[0]? = some (.cells tab42 tt fr)) := (B2.block _ (lt_of_block HTb.out)).trans HTb.out
      have hrw2 := hrw _ t2
      rw [show Pm.raw W H (Pm.chan kd D * D) ps = rawOf ⟨W, H, kd, D, ps⟩ from rfl] at hrw2
      obtain ⟨r, hr⟩ : ∃ r, r = rawOf ⟨W, H, kd, D, ps⟩ := ⟨_, rfl⟩
      rw [← hr] at hrw2 HD2 hraw hrr
      have hps := HW1.out.2.2.2
      have HW2 : Hid (_ ∧ _ ∧ _ ∧ _ ∧ _) := ⟨B2, z2, p2, m0, hps⟩
      have HF : Hid (_ ∧ _ ∧ _ ∧ _) := ⟨hn, hraw, hr, f3⟩
      have HT2 : Hid (_) := t2
      obtain ⟨y0, y1, y2, y3, y4, y5, y6⟩ := cells7 m0
      have lm := lt_of_block m0
      clear HW1 HDE kk m0 z2 p2 B2 hrw t2 hraw hr hps h2 k2 hrh f1 f2 f3 hn
      go_wp2_with fail
      refine hrw2.mono ?_
      rintro e w3 ⟨rfl, b3⟩
      simp only [World.size_alloc] at b3
      obtain ⟨B2, z2, p2, m2, hps⟩ := HW2.out
      have B3 : Below w.heap.size w w3 := B2.trans (b3.mono (by omega))
      have z3 := (b3.block w.heap.size (by omega)).trans z2
      have p3 := (b3.block w1.heap.size (by omega)).trans p2
      have m3 := (b3.block w2.heap.size (by omega)).trans m2
      have sz3 := b3.size
      simp only [World.size_alloc] at sz3
      have t3 : Hid (w3.heap[0]? = some (.cells tab42 tt fr)) := (B3.block _ (lt_of_block HTb.out)).trans HTb.out
      have HW3 : Hid (_ ∧ _ ∧ _ ∧ _ ∧ _) := ⟨B3, z3, p3, m3, hps⟩
      clear B2 z2 p2 m2 B3 z3 hps HW2 b3 hrw2 HT2 y0 y1 y2 y3 y4 y5 y6
      by_cases hbig : limit < r ∨ 4194304 < r
      · have HD : Hid (decOf b limit = .error 7) := by show _ = _; rw [HD2.out, if_pos hbig]
        by_cases hb1 : limit < r
        · go_wp2
          exact ⟨rfl, .no HD.out HW3.out.1⟩
        · have hb2 : 4194304 < r := by omega
          go_wp2
          exact ⟨rfl, .no HD.out HW3.out.1⟩
      · have hb1 : ¬ limit < r := by omega
        have hb2 : ¬ 4194304 < r := by omega
        have HD3 : Hid (decOf b limit = if palOk kd D P.pal = false then .error 3 else dataOf ⟨W, H, kd, D, ps⟩ P) := by show _ = _; rw [HD2.out, if_neg hbig]
        obtain ⟨y0, y1, y2, y3, y4, y5, y6⟩ := cells7 m3
        obtain ⟨x0, x1, x2, x3, xf, xl⟩ := cells4 p3
        have hrd := fun u => readPaletteP kd D P u (by omega) (fun p hp => by have := HW3.out.2.2.2.2.2 p hp; omega)
        clear HD2 hbig p3 m3
        go_wp2_with fail
        refine (hrd _).mono ?_
        intro e w4 he
        have HHE : Hid (_) := he.both
        clear he
        obtain ⟨rfl, h4, b4⟩ | ⟨pa, pc, rfl, h4, hlv, b4⟩ := HHE.out
        · have HD : Hid (_ ∧ _) := ⟨(by rw [HD3.out, if_pos h4] : decOf b limit = .error 3), HW3.out.1.trans (b4.mono (by have := HW3.out.1.size; omega))⟩
          clear HHE h4 b4 hrd
          go_wp2
          exact ⟨rfl, .no HD.out.1 HD.out.2⟩
        · clear HHE
          have HD4 : Hid (decOf b limit = dataOf ⟨W, H, kd, D, ps⟩ P) := by show _ = _; rw [HD3.out, if_neg (by rw [h4]; decide)]
          obtain ⟨B3, z3, p3, m3, hps⟩ := HW3.out
          have sz4 := b4.size
          have B4 : Below w.heap.size w w4 := B3.trans (b4.mono (by omega))
          have z4 := (b4.block w.heap.size (by omega)).trans z3
          have p4 := (b4.block w1.heap.size (by omega)).trans p3
          have m4 := (b4.block w2.heap.size (by omega)).trans m3
          obtain ⟨pl, hpl⟩ : ∃ pl, pl = palOf kd P.pal := ⟨_, rfl⟩
          rw [← hpl] at hlv
          have hplen : pl.length ≤ 5000000 := by
            rw [hpl]
            unfold palOf
            split
            · rw [palL_length]
              cases hp : P.pal with
              | none => show (0 : Nat) ≤ _; omega
              | some p => show p.size ≤ _; have := hps.2 p hp; omega
            · exact Nat.zero_le _
          have m5 : (w4.setCell ⟨w2.heap.size, 5, none⟩ (.slice pa pl.length pc)).heap[w2.heap.size]? = some (.cells #[.int .i64 (W : Nat), .int .i64 (H : Nat), .int .i64 kd, .int .i64 (D : Nat), .bool ps, .slice pa pl.length pc, .slice none 0 0] 30 (0, 0)) := heap_setCell_same _ w2.heap.size 5 _ _ (.slice pa pl.length pc) m4
          have far5 := fun g (hg : g ≠ w2.heap.size) => set_far w4 w2.heap.size 5 (.slice pa pl.length pc) g hg
          have B5 : Below w.heap.size w (w4.setCell ⟨w2.heap.size, 5, none⟩ (.slice pa pl.length pc)) := B4.setCell (p := ⟨w2.heap.size, 5, none⟩) (by dsimp only; omega) _
          have z5 := (far5 w.heap.size (by omega)).trans z4
          have p5 := (far5 w1.heap.size (by omega)).trans p4
          have lv5 : ListV (w4.setCell ⟨w2.heap.size, 5, none⟩ (.slice pa pl.length pc)) w3.heap.size (.slice pa pl.length pc) pl := by
            rcases hlv with h | ⟨G, g1, g2, g3⟩
            · exact .inl h
            · exact .inr ⟨G, g1, g2, (far5 G (by omega)).trans g3⟩
          have huw := unwrap15 P.data r (w4.setCell ⟨w2.heap.size, 5, none⟩ (.slice pa pl.length pc)) (by have := hps.1; omega) (by omega) (by omega)
          have sz5 : (w4.setCell ⟨w2.heap.size, 5, none⟩ (.slice pa pl.length pc)).heap.size = w4.heap.size := by simp
          obtain ⟨u0, u1, u2, u3, u4, u5, u6, uf, ul⟩ := cells7H m4
          obtain ⟨v0, v1, v2, v3, vf, vl⟩ := cells4 p4
          have HW5 : Hid (_ ∧ _ ∧ _ ∧ _ ∧ _) := ⟨B5, z5, p5, m5, lv5⟩
          have HPL : Hid (pl = palOf kd P.pal) := hpl
          rw [← hpl]
          clear HW3 hlv b4 B3 z3 p3 m3 B4 z4 p4 m4 m5 far5 B5 z5 p5 lv5 hps h4 HD3 hpl hrd y0 y1 y2 y3 y4 y5 y6 x0 x1 x2 x3 xf
          go_wp2_with fail
          refine huw.mono ?_
          rintro e w6 ⟨rfl, _, b6⟩
          rw [sz5] at b6
          obtain ⟨B5, z5, p5, m5, lv5⟩ := HW5.out
          have sz6 := b6.size
          rw [sz5] at sz6
          have B6 : Below w.heap.size w w6 := B5.trans (b6.mono (by omega))
          have z6 := (b6.block w.heap.size (by omega)).trans z5
          have m6 := (b6.block w2.heap.size (by omega)).trans m5
          have lv6 := lv5.below (by rw [sz5]; exact b6)
          have t6 := (B6.block _ (lt_of_block HTb.out)).trans HTb.out
          have HDD : Hid (decOf b limit = if wcode P.data r = 7 ∨ (wcode P.data r = 0 ∧ ((wtext P.data r).size : Int) ≠ r) then .error 14 else if wcode P.data r ≠ 0 then .error (wcode P.data r) else lateOf ⟨W, H, kd, D, ps⟩ P.pal (wtext P.data r)) := by
            show _ = _
            rw [HD4.out, dataOf, ← HF.out.2.2.1]
          have HW6 : Hid (_ ∧ _ ∧ _ ∧ _ ∧ _) := ⟨B6, z6, m6, lv6, t6⟩
          generalize wcode P.data r = c at *
          generalize wtext P.data r = t at *
          clear B5 z5 p5 m5 lv5 HW5 B6 z6 lv6 t6 b6 huw HD4 u0 u1 u2 u3 u4 u5 u6 uf v0 v1 v2 v3 vf
          by_cases c7 : c = 7
          · have HD : Hid (decOf b limit = .error 14) := by show _ = _; rw [HDD.out, if_pos (.inl c7)]
            subst c7
            go_wp2
            exact ⟨rfl, .no HD.out HW6.out.1⟩
          · have c7' : (c == 7) = false := beq_eq_false_iff_ne.2 c7
            by_cases c0 : c = 0
            · subst c0
              by_cases ht : (t.size : Int) = r
              · have ht' : ((t.size : Int) != r) = false := by rw [ht]; simp
                have HD7 : Hid (decOf b limit = lateOf ⟨W, H, kd, D, ps⟩ P.pal t) := by
                  show _ = _
                  rw [HDD.out, if_neg (by intro h; rcases h with h | h; exact c7 h; exact h.2 ht), if_neg (fun h => h rfl)]
                have HTS : Hid ((t.size : Int) = r) := ht
                have hn14 : 1 ≤ n ∧ n ≤ 4 := by have h1 := HF.out.1; have h2 := HF.out.2.2.2; omega
                have hsm := samplesP W H n D kd ps pa pl.length pc (.slice none 0 0) t w6 tt fr HW6.out.2.2.2.2 (by rw [← HF.out.2.1]; exact ht.symm) (by omega) (by omega) HF.out.1 hn14 (by omega) (by omega)
                obtain ⟨y0, y1, y2, y3, y4, y5, y6⟩ := cells7 m6
                have HM6 : Hid (_) := m6
                clear HDD ht m6
                go_wp2_with fail
                refine hsm.mono ?_
                intro e w7 he
                clear hsm y0 y1 y2 y3 y4 y5 y6
                cases he with
                | filt h1 b7 =>
                  have HD : Hid (_ ∧ _) := ⟨(by rw [HD7.out]; unfold lateOf; show (match Pm.pict ⟨W, H, (Pm.chan kd D).toNat, D⟩ (byteAt t) ps with | none => _ | some l => _) = _; rw [show (Pm.chan kd D).toNat = n by rw [HF.out.1]; rfl, h1] : decOf b limit = .error 15), HW6.out.1.trans (b7.mono (by have := HW6.out.1.size; omega))⟩
                  clear h1 b7
                  go_wp2
                  exact ⟨rfl, .no HD.out.1 HD.out.2⟩
                | @idx _ l h1 h3 h5 b7 =>
                  have HD : Hid (_ ∧ _) := ⟨(by rw [HD7.out]; unfold lateOf; show (match Pm.pict ⟨W, H, (Pm.chan kd D).toNat, D⟩ (byteAt t) ps with | none => _ | some l => _) = _; rw [show (Pm.chan kd D).toNat = n by rw [HF.out.1]; rfl, h1]; show (if _ then _ else _) = _; rw [← HPL.out]; exact if_pos ⟨h3, h5⟩ : decOf b limit = .error 16), HW6.out.1.trans (b7.mono (by have := HW6.out.1.size; omega))⟩
                  clear h1 b7 h3 h5
                  go_wp2
                  exact ⟨rfl, .no HD.out.1 HD.out.2⟩
                | @ok _ l G h1 h3 h5 h6 b7 =>
                  have HD : Hid (decOf b limit = .ok ⟨⟨W, H, kd, D, ps⟩, pl, l⟩) := by
                    show _ = _
                    rw [HD7.out]
                    unfold lateOf
                    show (match Pm.pict ⟨W, H, (Pm.chan kd D).toNat, D⟩ (byteAt t) ps with | none => _ | some l => _) = _
                    rw [show (Pm.chan kd D).toNat = n by rw [HF.out.1]; rfl, h1]
                    show (if _ then _ else _) = _
                    rw [← HPL.out]
                    refine if_neg (fun h => ?_)
                    rw [h3 h.1] at h
                    cases h.2
                  have hll := (Pm.pict_fine _ _ _ _ h1).1
                  rw [← hll]
                  clear hll
                  obtain ⟨B6, z6, m6, lv6, t6⟩ := HW6.out
                  have sz7 := b7.size
                  have lw6 := B6.size
                  have ll6 := lt_of_block m6
                  have B7 : Below w.heap.size w w7 := B6.trans (b7.mono (by omega))
                  have z7 := (b7.block w.heap.size (by omega)).trans z6
                  have m7 := (b7.block w2.heap.size (by omega)).trans m6
                  obtain ⟨u0, u1, u2, u3, u4, u5, u6, uf, ul⟩ := cells7H m7
                  obtain ⟨v0, v1, v2, v3, v4, v5, v6, vf, vl⟩ := cells7H z7
                  have HE : Hid (_) := read_end (W := W) (H := H) (D := D) (kd := kd) (ps := ps) (MB := w2.heap.size) B7 z7 lv6 b7 h5 h6 (by omega) (by omega) (by omega)
                  have nw : w.heap.size ≠ w2.heap.size := by omega
                  clear HW6 B6 z6 m6 lv6 t6 B7 z7 m7 HM6 HD7 h1 h3 h5 b7
                  go_wp2
                  obtain ⟨hend, hbe, lp, ls, ha⟩ := HE.out
                  exact bodyPost_ret (v := resV ⟨⟨W, H, kd, D, ps⟩, pl, l⟩ (.slice pa pl.length pc) (.slice (some ⟨G, 0, none⟩) l.length l.length)) (results_cell_row rfl _ _ w.heap.size 30 _ (0, 0) _ rfl hend Tryz.underlying30 rfl Tryz.infoImage) rfl (.ok HD.out lp ls ha hbe)
              · have ht' : ((t.size : Int) != r) = true := by simp [ht]
                have HD : Hid (decOf b limit = .error 14) := by show _ = _; rw [HDD.out, if_pos (.inr ⟨rfl, ht⟩)]
                go_wp2
                exact ⟨rfl, .no HD.out HW6.out.1⟩
            · have c0' : (c == 0) = false := beq_eq_false_iff_ne.2 c0
              have c0n : (c != 0) = true := by simp [c0]
              have HD : Hid (decOf b limit = .error c) := by show _ = _; rw [HDD.out, if_neg (by intro h; rcases h with h | h; exact c7 h; exact c0 h.1), if_pos c0]
              go_wp2
              exact ⟨rfl, .no HD.out HW6.out.1⟩
end Go.Proofs.YtmfijackgekioaaGreatDoor

/-
  Decode: the call's face. For Decodes.
-/
namespace Go.Proofs.YtmfijackgekioaaGreatDoor
open Go.RowKit Go.Maps

theorem dcatch_panicking (p : Addr) (x c : Int) (older : List PanicEntry) (w : World) (hc : w.cell? p = some (.int .i64 x)) (hz : w.frozen? p = false) :
    CallsD Tryz.prog 50 #[.pointer (some p)] (.panicking ({ v := .iface 113 (.int .i64 c), recovered := false } :: older)) w fun e u' w' =>
      e = .returned (.tuple #[]) ∧ u' = .panicking ({ v := .iface 113 (.int .i64 c), recovered := true } :: older) ∧ w' = w.setCell p (.int .i64 c) := by
  refine callsD_of_wpS Tryz.func50 rfl fun c₀ cs hu => ?_
  apply wpS_region
  simp [wpOpsS, go_sem, recoverD, hu, Tryz.ntmps50]
  refine (number_fault c 11 w).mono ?_
  rintro e w' ⟨rfl, rfl⟩
  simp [go_sem, hc, hz, bodyPostS, results, Tryz.results50]
theorem dcatch_idle (p : Addr) (x : Int) (w : World) (hc : w.cell? p = some (.int .i64 x)) (hz : w.frozen? p = false) :
    CallsD Tryz.prog 50 #[.pointer (some p)] .returning w fun e u' w' => e = .returned (.tuple #[]) ∧ u' = .returning ∧ w' = w.setCell p (.int .i64 0) := by
  refine callsD_of_wpS Tryz.func50 rfl fun c₀ cs hu => ?_
  apply wpS_region
  simp [wpOpsS, go_sem, recoverD, hu, Tryz.ntmps50]
  refine (number_nil 11 w).mono ?_
  rintro e w' ⟨rfl, rfl⟩
  simp [go_sem, hc, hz, bodyPostS, results, Tryz.results50]
  cases c₀
  simp_all
/-- What Decode answers. -/
inductive EndsG (b : ByteArray) (limit : Int) (w : World) : Ending → World → Prop
  | no {w' c} : decOf b limit = .error c → Below w.heap.size w w' → EndsG b limit w (.returned (.tuple #[.agg hdZero, .int .i64 c])) w'
  | ok {w' R pv sv} : decOf b limit = .ok R → ListV w' w.heap.size pv R.pal → ListV w' w.heap.size sv R.sam → (∀ a n c a' n' c', pv = .slice (some a) n c → sv = .slice (some a') n' c' → a.block ≠ a'.block) → Below w.heap.size w w' → EndsG b limit w (.returned (.tuple #[resV R pv sv, .int .i64 0])) w'
theorem ListV.far {w w' : World} {B : Nat} {v : Value} {l : List Int} (h : ListV w B v l) (k : ∀ g, B ≤ g → g < w.heap.size → w'.heap[g]? = w.heap[g]?) : ListV w' B v l := by
  rcases h with h | ⟨G, a, b, c⟩
  · exact .inl h
  · exact .inr ⟨G, a, b, (k _ a (lt_of_block c)).trans c⟩
theorem list_one {w : World} {B : Nat} {v : Value} {l : List Int} (h : ListV w B v l) : ∃ a n c, v = .slice a n c := by
  rcases h with h | ⟨G, a, b, c⟩
  · exact ⟨_, _, _, h.2⟩
  · exact ⟨_, _, _, b⟩
set_option maxRecDepth 100000 in
set_option maxHeartbeats 1000000 in
theorem decodeP (b : ByteArray) (limit : Int) (w : World) (hs : b.size ≤ 5000000) (tt : TypeId) (fr : Nat × Nat) (hTb : w.heap[0]? = some (.cells tab42 tt fr)) :
    Calls Tryz.prog 21 #[.string b, .int .i64 limit] w fun e w' => EndsG b limit w e w' := by
  have hmf : ∀ (fn : Fn) (first cap : Array Value) (w : World), (Instr.makeFunc fn first cap).run Tryz.prog w = .ok (.func fn first cap) w := fun _ _ _ _ => rfl
  obtain ⟨k0, q0, q1⟩ := two_boxes w (.cells hdZero 30) (.cells #[.int .i64 0] 34)
  have hr := readP b limit _ hs tt fr ((k0.block _ (lt_of_block hTb)).trans hTb)
  have HK : Hid (_ ∧ _ ∧ _) := ⟨k0, q0, q1⟩
  clear k0 q0 q1 hTb
  go_enter_defers Tryz.func21, Tryz.ntmps21
  go_wp2_with fail
  refine hr.mono ?_
  intro e w1 he
  clear hr
  cases he with
  | @no _ c h1 b1 =>
    simp only [World.size_alloc] at b1
    obtain ⟨k0, q0, q1⟩ := HK.out
    have z0 := (b1.block w.heap.size (by omega)).trans q0
    have hb := (b1.block (w.heap.size + 1) (by omega)).trans q1
    obtain ⟨c0, cz, clt⟩ := one_cell hb
    have hset2 := one_set hb (.int .i64 c)
    obtain ⟨x0, xz, xlt⟩ := one_cell hset2
    have z1 := (set_far w1 (w.heap.size + 1) 0 (.int .i64 c) w.heap.size (by omega)).trans z0
    obtain ⟨y0, y1, y2, y3, y4, y5, y6⟩ := cells7 z1
    have HD : Hid (_ ∧ _) := ⟨h1, (k0.trans (b1.mono (by omega))).setCell (p := ⟨w.heap.size + 1, 0, none⟩) (by dsimp only; omega) (.int .i64 c)⟩
    clear h1 b1 HK k0 q0 q1 z0 z1 hset2
    go_wp2
    refine leaves_cons (f := 50) (args := #[.pointer (some ⟨w.heap.size + 1, 0, none⟩)]) (by simp) (by simp [go_sem]) ?_
    refine (dcatch_panicking ⟨w.heap.size + 1, 0, none⟩ 0 c [] _ c0 cz).mono ?_
    rintro e u' w'' ⟨rfl, rfl, rfl⟩
    simp [Leaves, settle, results, Tryz.results21, go_sem, x0, y0, y1, y2, y3, y4, y5, y6]
    exact .no HD.out.1 HD.out.2
  | @ok _ R pv sv h1 lp ls ha b1 =>
    simp only [World.size_alloc] at b1 lp ls
    obtain ⟨k0, q0, q1⟩ := HK.out
    have z0 := (b1.block w.heap.size (by omega)).trans q0
    have e0 := (b1.block (w.heap.size + 1) (by omega)).trans q1
    obtain ⟨pa, pn, pc, rfl⟩ := list_one lp
    obtain ⟨sa, sn, sc, rfl⟩ := list_one ls
    obtain ⟨⟨wd, ht, kd, dp, ps⟩, pl, sl⟩ := R
    dsimp only at lp ls
    have r1 := set7_row z0 (.int .i64 wd) (.int .i64 ht) (.int .i64 kd) (.int .i64 dp) (.bool ps) (.slice pa pn pc) (.slice sa sn sc)
    have f1 := fun g hg => set7_far w1 w.heap.size (.int .i64 wd) (.int .i64 ht) (.int .i64 kd) (.int .i64 dp) (.bool ps) (.slice pa pn pc) (.slice sa sn sc) g hg
    have B1 := set7_below (k0.trans (b1.mono (by omega))) w.heap.size (Nat.le_refl _) (.int .i64 wd) (.int .i64 ht) (.int .i64 kd) (.int .i64 dp) (.bool ps) (.slice pa pn pc) (.slice sa sn sc)
    have e1 := (f1 (w.heap.size + 1) (by omega)).trans e0
    obtain ⟨v0, v1, v2, v3, v4, v5, v6, vf, vl⟩ := cells7H z0
    obtain ⟨i0, iz, il⟩ := one_cell e0
    have hset1 := one_set e1 (.int .i64 0)
    obtain ⟨d0, dz, dl⟩ := one_cell hset1
    have hset2 := one_set hset1 (.int .i64 0)
    obtain ⟨x0, xz, xl⟩ := one_cell hset2
    have r2 := (set_far _ (w.heap.size + 1) 0 (.int .i64 0) w.heap.size (by omega)).trans ((set_far _ (w.heap.size + 1) 0 (.int .i64 0) w.heap.size (by omega)).trans r1)
    obtain ⟨y0, y1, y2, y3, y4, y5, y6⟩ := cells7 r2
    have f2 := fun g (h0 : g ≠ w.heap.size) (h1 : g ≠ w.heap.size + 1) => (set_far _ (w.heap.size + 1) 0 (.int .i64 0) g h1).trans ((set_far _ (w.heap.size + 1) 0 (.int .i64 0) g h1).trans (f1 g h0))
    have lp2 := lp.far (fun g h0 _ => f2 g (by omega) (by omega))
    have ls2 := ls.far (fun g h0 _ => f2 g (by omega) (by omega))
    have B2 := (B1.setCell (p := ⟨w.heap.size + 1, 0, none⟩) (by dsimp only; omega) (.int .i64 0)).setCell (p := ⟨w.heap.size + 1, 0, none⟩) (by dsimp only; omega) (.int .i64 0)
    have HD : Hid (_ ∧ _ ∧ _ ∧ _ ∧ _) := ⟨h1, lp2.mono (B' := w.heap.size) (by omega), ls2.mono (B' := w.heap.size) (by omega), ha, B2⟩
    clear h1 b1 HK k0 q0 q1 z0 lp ls r1 f1 B1 hset1 hset2 r2 f2 lp2 ls2 B2 ha e0 e1
    go_wp2
    refine leaves_cons (f := 50) (args := #[.pointer (some ⟨w.heap.size + 1, 0, none⟩)]) (by simp) (by simp [go_sem]) ?_
    refine (dcatch_idle ⟨w.heap.size + 1, 0, none⟩ 0 _ d0 dz).mono ?_
    rintro e u' w'' ⟨rfl, rfl, rfl⟩
    simp [Leaves, settle, results, Tryz.results21, go_sem, x0, y0, y1, y2, y3, y4, y5, y6]
    exact .ok HD.out.1 HD.out.2.1 HD.out.2.2.1 HD.out.2.2.2.1 HD.out.2.2.2.2
end Go.Proofs.YtmfijackgekioaaGreatDoor
