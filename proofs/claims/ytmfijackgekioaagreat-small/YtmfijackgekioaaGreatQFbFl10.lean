import Derived.Test.YtmfijackgekioaaGreatQEyFa3
import Derived.Test.YtmfijackgekioaaGreatQUpUs4

/-
  How many lengths of the numbers are told. For Deflates.
-/
namespace Go.Proofs.YtmfijackgekioaaGreat
open Go.RowKit

def inOrd (nl : List Int) (k : Nat) : List Int := (List.range k).map (fun i => nl.getD (Rf.order.getD i 0) 0)
theorem inOrd_length (nl : List Int) (k : Nat) : (inOrd nl k).length = k := by simp [inOrd]
theorem inOrd_succ (nl : List Int) (k : Nat) : inOrd nl (k + 1) = inOrd nl k ++ [nl.getD (Rf.order.getD k 0) 0] := by simp [inOrd, List.range_succ]
theorem inOrd_getD (nl : List Int) (k i : Nat) (h : i < k) : (inOrd nl k).getD i 0 = nl.getD (Rf.order.getD i 0) 0 := by
  unfold inOrd
  rw [List.getD_eq_getElem?_getD, List.getElem?_map, List.getElem?_range h]
  rfl

theorem index_arr (O : Array Value) (k : Nat) (hk : k < 19) (v : Int) (h : O[k]? = some (.int .i64 v)) (u : World) : (Instr.index 136 (.agg O) (.int .i64 (k : Int))).run Tryz.prog u = .ok (.int .i64 v) u := by
  obtain ⟨i0, hi, hz0, hz1, hz2⟩ := info_parts Tryz.info3
  have h1 : (0 : Int) ≤ (k : Int) ∧ (k : Int) < 19 := by omega
  simp [Instr.index, run_underlying Tryz.underlying136, asIntOf, h1, sizeOf, typeInfo, hi, hz1, go_sem, h, hk]

theorem own_ints {w : World} {base n cap : Nat} {oa : Option Addr} {zs : List Int} (h : w.ownsRow base 3 1 (.slice oa n cap) n (vals zs)) : Ints w oa zs := by
  intro j hj
  rcases h.2 with ⟨e, e2⟩ | ⟨g, cap', cur, e, hb, hg, hnc, hcm, hcs, htake⟩
  · have := h.1
    rw [e2] at this
    simp [vals] at this
    rw [this] at hj
    simp at hj
  · simp only [Value.slice.injEq, true_and] at e
    obtain ⟨rfl, rfl⟩ := e
    refine ⟨g, 0, rfl, ?_⟩
    have := h.cells (g := g) rfl j (.int .i64 zs[j]) (by rw [List.getElem?_map, List.getElem?_eq_getElem hj]; rfl)
    rw [add_at] at this
    exact this

set_option maxRecDepth 100000 in
set_option maxHeartbeats 2000000 in
theorem lengthCount117 (nl : List Int) (G3 : Nat) (sa da : Option Addr) (sn sc dn dc : Nat) (w : World) (h19 : nl.length = 19) (h : Lst w G3 nl) :
    Calls Tryz.prog 121 #[tabsV (.slice sa sn sc) (.slice da dn dc) (.slice (some ⟨G3, 0, none⟩) 19 19)] w fun e w' => e = .returned (.int .i64 (trimF (inOrd nl 19) 4 19 : Nat)) ∧ Below w.heap.size w w' := by
  obtain ⟨i0, hi, hz0, hz1, hz2⟩ := info_parts Tryz.info3
  obtain ⟨Z, hZ⟩ : ∃ Z : List Value, Z = List.replicate 19 (.int .i64 0) := ⟨_, rfl⟩
  have hmk : ∀ u : World, (Instr.makeSlice 39 (.int .i64 0) (.int .i64 19)).run Tryz.prog u = .ok (.slice (some ⟨u.heap.size, 0, none⟩) 0 19) (u.alloc (.cells Z.toArray 3)) := fun u => make_cap 19 (by omega) Z hZ u
  have hZl : Z.length = 19 := by rw [hZ]; simp
  clear hZ
  have hlt := lt_of_block h
  have kT := below_alloc w (.cells #[.slice sa sn sc, .slice da dn dc, .slice (some ⟨G3, 0, none⟩) 19 19] 127)
  go_enter Tryz.func121, Tryz.ntmps121
  go_wp2_with fail
  have hsz2 : ((w.alloc (.cells #[.slice sa sn sc, .slice da dn dc, .slice (some ⟨G3, 0, none⟩) 19 19] 127)).alloc (.cells Z.toArray 3)).heap.size = w.heap.size + 1 + 1 := by simp
  have hb2 : Below w.heap.size w ((w.alloc (.cells #[.slice sa sn sc, .slice da dn dc, .slice (some ⟨G3, 0, none⟩) 19 19] 127)).alloc (.cells Z.toArray 3)) := kT.alloc (by simp) _
  have hbox : ((w.alloc (.cells #[.slice sa sn sc, .slice da dn dc, .slice (some ⟨G3, 0, none⟩) 19 19] 127)).alloc (.cells Z.toArray 3)).heap[w.heap.size]? = some (.cells #[.slice sa sn sc, .slice da dn dc, .slice (some ⟨G3, 0, none⟩) 19 19] 127 (0, 0)) := blk_old (blk_new w _) _
  have hown : ((w.alloc (.cells #[.slice sa sn sc, .slice da dn dc, .slice (some ⟨G3, 0, none⟩) 19 19] 127)).alloc (.cells Z.toArray 3)).ownsRow (w.heap.size + 1) 3 1 (.slice (some ⟨w.heap.size + 1, 0, none⟩) 0 19) 0 [] :=
    ⟨rfl, .inr ⟨w.heap.size + 1, 19, Z.toArray, rfl, Nat.le_refl _, blk_at (by simp), by omega, by unfold maxLen; omega, by simp [hZl], by simp⟩⟩
  refine (order85 _).mono ?_
  rintro e w1 ⟨O, rfl, hO1, hO2, _, hb1⟩
  rw [hsz2] at hb1
  have hb01 : Below w.heap.size w w1 := hb2.trans (hb1.mono (by omega))
  have hs1 := hb1.size
  rw [hsz2] at hs1
  have HBOX : Hid (w1.heap[w.heap.size]? = some (.cells #[.slice sa sn sc, .slice da dn dc, .slice (some ⟨G3, 0, none⟩) 19 19] 127 (0, 0))) := (hb1.block _ (by omega)).trans hbox
  have HOWN : Hid (w1.ownsRow (w.heap.size + 1) 3 1 (.slice (some ⟨w.heap.size + 1, 0, none⟩) 0 19) 0 (vals (inOrd nl 0))) := own_keep hown (fun g hg => hb1.block g (by simp [Value.ownBlock] at hg; omega))
  have HL : Hid (Lst w G3 nl) := h
  clear hbox hown hb1 kT hb2 hmk h
  go_wp2
  go_loopw [3, 11] (fun ov iv wr => ∃ (k : Nat) (oa : Option Addr) (oc : Nat), k ≤ 19 ∧ iv = .int .i64 k ∧ ov = .slice oa k oc ∧ Hid (wr.ownsRow (w.heap.size + 1) 3 1 (.slice oa k oc) k (vals (inOrd nl k))) ∧ Hid (wr.heap[w.heap.size]? = some (.cells #[.slice sa sn sc, .slice da dn dc, .slice (some ⟨G3, 0, none⟩) 19 19] 127 (0, 0))) ∧ Below w.heap.size w wr ∧ w.heap.size + 1 ≤ wr.heap.size) (fun _ iv _ => 19 - (intOf iv).toNat)
  case atStart => exact ⟨0, _, _, Nat.zero_le _, rfl, rfl, HOWN, HBOX, hb01, by omega⟩
  case round =>
    clear HOWN HBOX hb01 hs1
    obtain ⟨k, oa, oc, hk, rfl, rfl, HOWN, HBOX, hb, hsz⟩ := hrel
    by_cases hk19 : k < 19
    · have hok : ∀ u : World, (Instr.index 136 (.agg O) (.int .i64 (k : Int))).run Tryz.prog u = .ok (.int .i64 (Rf.order.getD k 0 : Nat)) u := fun u => index_arr O k hk19 _ (hO2 k hk19) u
      have hol := Rf.order_lt k
      obtain ⟨c0, c1, c2, fz, hltb⟩ := cells3 HBOX.out
      have hLr : Lst wr G3 nl := (hb.block _ hlt).trans HL.out
      have hcell := hLr.at_ (Rf.order.getD k 0) (by omega)
      have HS : Hid (inOrd nl (k + 1) = inOrd nl k ++ [nl.getD (Rf.order.getD k 0) 0]) := inOrd_succ nl k
      generalize nl.getD (Rf.order.getD k 0) 0 = y at *
      generalize Rf.order.getD k 0 = q at *
      have hq : (q : Int) < 19 := by omega
      have kA := below_alloc wr (.cells #[.int .i64 y] 3)
      have hoA : (wr.alloc (.cells #[.int .i64 y] 3)).ownsRow (w.heap.size + 1) 3 1 (.slice oa k oc) k (vals (inOrd nl k)) := HOWN.out.alloc _
      have hsA : Src (wr.alloc (.cells #[.int .i64 y] 3)) 1 (.slice (some ⟨wr.heap.size, 0, none⟩) 1 1) 1 (vals [y]) := by
        have := lst_src (w := wr.alloc (.cells #[.int .i64 y] 3)) (g := wr.heap.size) (zs := [y]) (blk_new wr _) 1 1 (by simp)
        simpa using this
      obtain ⟨v', w', hr, ho', hg'⟩ := append_src (ty := 39) Tryz.underlying39 hi hz0 hz1 hz2 rfl (by decide) hoA hsA (by unfold maxLen; omega) (by omega) (by simp; omega)
      obtain ⟨oa', oc', rfl⟩ := own_slice ho'
      have hb' : Below w.heap.size w w' := grown_below (hb.trans (kA.mono hb.size)) hg' (fun j hj => by have := (hoA.lt j hj).1; omega) (Nat.le_refl _)
      have HO' : Hid (w'.ownsRow (w.heap.size + 1) 3 1 (.slice oa' (k + 1) oc') (k + 1) (vals (inOrd nl (k + 1)))) := by
        show w'.ownsRow _ _ _ _ _ _
        rw [HS.out, vals, List.map_append]; exact ho'
      have HB' : Hid (w'.heap[w.heap.size]? = some (.cells #[.slice sa sn sc, .slice da dn dc, .slice (some ⟨G3, 0, none⟩) 19 19] 127 (0, 0))) := by
        refine ((hg'.block _ (by simp; omega) (fun e => ?_)).trans (Below.heap_alloc _ _ _ hltb)).trans HBOX.out
        have := (hoA.lt _ e.symm).1
        omega
      have hsz' : w.heap.size + 1 ≤ w'.heap.size := by have := hg'.size; simp at this; omega
      have hkI : (k : Int) < 19 := by omega
      clear hsA hoA ho' hg' kA HOWN HBOX hLr HS hO2
      go_wp2_with (at_builtin; refine Lib.wpList_append_run _ rfl _ _ _ _ rfl _ _ rfl rfl _ _ hr ?_)
      go_roundw
      case rel => exact ⟨k + 1, oa', oc', by omega, by go_num, rfl, HO', HB', hb', hsz'⟩
      case measure => simp [intOf]; omega
    · have e : k = 19 := by omega
      subst e
      obtain ⟨g, oc', hform, hgb⟩ := HOWN.out.form (by omega)
      simp only [Value.slice.injEq, true_and] at hform
      obtain ⟨rfl, rfl⟩ := hform
      have hint := own_ints HOWN.out
      have htr := trimmed131 (inOrd nl 19) 4 19 oc (some ⟨g, 0, none⟩) wr (inOrd_length nl 19) (by omega) (by omega) hint
      go_wp2_with fail
      refine htr.mono ?_
      rintro e w2 ⟨rfl, m, rfl⟩
      go_wp2
      go_ret
      exact ⟨rfl, below_drewN hb m⟩
end Go.Proofs.YtmfijackgekioaaGreat

/-
  Lengths told with codes, written. For Deflates.
-/
namespace Go.Proofs.YtmfijackgekioaaGreat
open Go.RowKit

/-- A list of lengths in a block that is not the writer's. -/
def Told (w : World) (B : Nat) (ao : Option Addr) (l : List Nat) : Prop :=
  l ≠ [] → ∃ g cs fr, ao = some ⟨g, 0, none⟩ ∧ g ≠ B ∧ w.heap[g]? = some (.cells cs 3 fr) ∧ ∀ j, j < l.length → cs[j]? = some (.int .i64 (l.getD j 0 : Nat))
theorem Told.ints {w : World} {B : Nat} {ao : Option Addr} {l : List Nat} (h : Told w B ao l) : Ints w ao (intsOf l) := by
  intro j hj
  have hj' : j < l.length := by simpa using hj
  obtain ⟨g, cs, fr, e, _, hg, hc⟩ := h (ne_of_lt hj')
  refine ⟨g, 0, e, ?_⟩
  have e2 : w.cell? ⟨g, 0 + j, none⟩ = cs[j]? := by rw [Nat.zero_add]; simp [World.cell?, hg]
  rw [e2, hc j hj', List.getElem_map, List.getD_eq_getElem?_getD, List.getElem?_eq_getElem hj']
  rfl
theorem Told.fr {w w' : World} {B : Nat} {ao : Option Addr} {l : List Nat} (h : Told w B ao l) (k : Fr B w w') : Told w' B ao l := fun hn => by
  obtain ⟨g, cs, fr, e, h1, h2, h3⟩ := h hn
  exact ⟨g, cs, fr, e, h1, (k.kept h1 h2 (by decide)).trans h2, h3⟩
theorem Told.below {w w' : World} {B : Nat} {ao : Option Addr} {l : List Nat} (h : Told w B ao l) (k : Below w.heap.size w w') : Told w' B ao l := fun hn => by
  obtain ⟨g, cs, fr, e, h1, h2, h3⟩ := h hn
  exact ⟨g, cs, fr, e, h1, (k.block _ (lt_of_block h2)).trans h2, h3⟩

theorem tellBits_snoc (tb : Nat → List Int) : ∀ (ts : List (Nat × Nat)) (t : Nat × Nat), Rf.tellBits tb (ts ++ [t]) = Rf.tellBits tb ts ++ (tb t.1 ++ Rf.nb t.2 (Rf.tkb t))
  | [], t => by simp [Rf.tellBits]
  | s :: r, t => by
    rw [List.cons_append, Rf.tellBits, Rf.tellBits, tellBits_snoc tb r t]
    simp [List.append_assoc]

/-- What telling lengths keeps. -/
structure LInv (B : Nat) (W nl : List Int) (fv : Value) (ao : Option Addr) (l : List Nat) (w0 w : World) (ts : List (Nat × Nat)) : Prop where
  wr : Writes w B (W ++ Rf.tellBits (Rf.cbits nl) ts)
  cw : CodeW w fv B nl 0
  fr : Fr B w0 w
  told : Told w B ao l
  len : (Rf.tellBits (Rf.cbits nl) ts).length ≤ 22 * ts.length

/-- The lengths, told and written. -/
theorem lens_written (B : Nat) (W nl : List Int) (fv : Value) (ao : Option Addr) (cap : Nat) (l : List Nat) (w : World) (hW : W.length ≤ 100000000) (h19 : nl.length = 19) (hw : Writes w B W) (hc : CodeW w fv B nl 0) (ht : Told w B ao l) (hl : ∀ x ∈ l, x ≤ 15) (h6 : l.length ≤ 600) :
    Calls Tryz.prog 118 #[.slice ao l.length cap, fv] w fun e w' => e = .returned (.tuple #[]) ∧ Writes w' B (W ++ Rf.tellBits (Rf.cbits nl) (E l)) ∧ Fr B w w' := by
  obtain ⟨WB, Lb, C, e1, _⟩ := hc.val
  have h0 : LInv B W nl fv ao l w w [] := ⟨by simpa [Rf.tellBits] using hw, hc, Fr.refl _ _, ht, by simp [Rf.tellBits]⟩
  have hB := hw.lt
  have hd : DoesLen 126 #[.pointer (some ⟨WB, 0, none⟩), .pointer (some ⟨Lb, 0, none⟩)] ao l (LInv B W nl fv ao l w) := by
    refine ⟨?_, call122, ?_, fun u ts h => h.told.ints⟩
    · intro u ts t h hts h18 hx
      obtain ⟨WB', Lb', C', e, b1, b2, n1, _⟩ := h.cw.val
      rw [e1] at e
      simp at e
      obtain ⟨rfl, rfl⟩ := e
      have hlen := h.len
      have htk := tkb_le t
      refine (write122 t.1 t.2 (Rf.tkb t) WB Lb C' nl B (W ++ Rf.tellBits (Rf.cbits nl) ts) u b1 b2 n1 h.cw.w15 h.wr (by omega) (by omega) (by rw [List.length_append]; omega)).mono ?_
      rintro e u' ⟨rfl, hw', hf'⟩
      refine ⟨rfl, ⟨?_, h.cw.fr hf', h.fr.trans hf', h.told.fr hf', ?_⟩⟩
      · rw [tellBits_snoc, ← List.append_assoc, ← nbI_nat]; exact hw'
      · rw [tellBits_snoc, List.length_append, List.length_append, List.length_append, Rf.cbits_length, Rf.nb_length, List.length_singleton]
        have := (h.cw.w15 t.1).2
        omega
    · intro u ts n h
      have hb : Below u.heap.size u (u.drewN n) := below_drewN (Below.refl _ _) n
      exact ⟨h.wr.drewN n, h.cw.below hb, h.fr.drewN n, h.told.below hb, h.len⟩
  rw [e1]
  refine (eachLength114 126 _ ao cap l _ hd w h0 hl h6).mono ?_
  rintro e u ⟨rfl, h⟩
  exact ⟨rfl, h.wr, h.fr⟩

/-- Lengths counted up: how many bits they have. -/
def lenSum (nl : List Int) (ts : List (Nat × Nat)) : Int := (ts.map (fun t => nl.getD t.1 0 + (Rf.tkb t : Nat))).sum
theorem lenSum_snoc (nl : List Int) (ts : List (Nat × Nat)) (t : Nat × Nat) : lenSum nl (ts ++ [t]) = lenSum nl ts + (nl.getD t.1 0 + (Rf.tkb t : Nat)) := by simp [lenSum]
theorem tellBits_sum (nl : List Int) (h : ∀ j, 0 ≤ nl.getD j 0) : ∀ ts, ((Rf.tellBits (Rf.cbits nl) ts).length : Int) = lenSum nl ts
  | [] => by simp [Rf.tellBits, lenSum]
  | t :: r => by
    have ih := tellBits_sum nl h r
    rw [Rf.tellBits]
    simp only [List.length_append, Rf.cbits_length, Rf.nb_length]
    have : lenSum nl (t :: r) = (nl.getD t.1 0 + (Rf.tkb t : Nat)) + lenSum nl r := by simp [lenSum]
    rw [this, ← ih]
    have := h t.1
    omega
end Go.Proofs.YtmfijackgekioaaGreat

/-
  The tables, written. For Deflates.
-/
namespace Go.Proofs.YtmfijackgekioaaGreat
open Go.RowKit

theorem lenBits_snoc (nl : List Int) : ∀ (f s : Nat), Rf.lenBits nl s (f + 1) = Rf.lenBits nl s f ++ Rf.nb (nl.getD (Rf.order.getD (s + f) 0) 0).toNat 3
  | 0, s => by simp [Rf.lenBits]
  | f + 1, s => by
    rw [Rf.lenBits, lenBits_snoc nl f (s + 1)]
    conv => rhs; rw [Rf.lenBits]
    rw [List.append_assoc, show s + 1 + f = s + (f + 1) by omega]

/-- The lengths that are told, as numbers. -/
def toldL (ls ds : List Int) (N1 N2 : Nat) : List Nat := (ls.take (trimF ls 257 N1) ++ ds.take (trimF ds 1 N2)).map Int.toNat
theorem toldL_ints (ls ds : List Int) (N1 N2 : Nat) (h1 : ∀ j, 0 ≤ ls.getD j 0) (h2 : ∀ j, 0 ≤ ds.getD j 0) : intsOf (toldL ls ds N1 N2) = ls.take (trimF ls 257 N1) ++ ds.take (trimF ds 1 N2) := by
  unfold toldL intsOf
  rw [List.map_map]
  have : ∀ x ∈ ls.take (trimF ls 257 N1) ++ ds.take (trimF ds 1 N2), ((fun (x : Nat) => (x : Int)) ∘ Int.toNat) x = id x := fun x hx => by
    have h0 : 0 ≤ x := by
      rcases List.mem_append.1 hx with q | q
      · obtain ⟨j, hj, rfl⟩ := List.getElem_of_mem (List.mem_of_mem_take q)
        have := h1 j
        rwa [List.getD_eq_getElem?_getD, List.getElem?_eq_getElem hj] at this
      · obtain ⟨j, hj, rfl⟩ := List.getElem_of_mem (List.mem_of_mem_take q)
        have := h2 j
        rwa [List.getD_eq_getElem?_getD, List.getElem?_eq_getElem hj] at this
    simp only [Function.comp, id]
    omega
  rw [List.map_congr_left this, List.map_id]
theorem toldL_length (ls ds : List Int) (N1 N2 : Nat) (h1 : ls.length = N1) (h2 : ds.length = N2) : (toldL ls ds N1 N2).length = trimF ls 257 N1 + trimF ds 1 N2 := by
  have a := trimF_le ls 257 N1
  have b := trimF_le ds 1 N2
  simp [toldL]
  omega
theorem toldL_le (ls ds : List Int) (N1 N2 : Nat) (h1 : ∀ j, ls.getD j 0 ≤ 15) (h2 : ∀ j, ds.getD j 0 ≤ 15) : ∀ x ∈ toldL ls ds N1 N2, x ≤ 15 := by
  intro x hx
  obtain ⟨y, hy, rfl⟩ := List.mem_map.1 hx
  have : y ≤ 15 := by
    rcases List.mem_append.1 hy with q | q
    · obtain ⟨j, hj, rfl⟩ := List.getElem_of_mem (List.mem_of_mem_take q)
      have := h1 j
      rwa [List.getD_eq_getElem?_getD, List.getElem?_eq_getElem hj] at this
    · obtain ⟨j, hj, rfl⟩ := List.getElem_of_mem (List.mem_of_mem_take q)
      have := h2 j
      rwa [List.getD_eq_getElem?_getD, List.getElem?_eq_getElem hj] at this
  omega

theorem own_told {w : World} {base B n : Nat} {v : Value} {l : List Nat} (h : w.ownsRow base 3 1 v n (vals (intsOf l))) (hl : l.length = n) (hB : B < base) : ∃ ao cap, v = .slice ao n cap ∧ Told w B ao l := by
  rcases h.2 with ⟨rfl, h0⟩ | ⟨g, cap, cur, rfl, hb, hg, hnc, hcm, hcs, htake⟩
  · exact ⟨_, _, by rw [h0], fun hn => absurd (List.eq_nil_of_length_eq_zero (by omega)) hn⟩
  · refine ⟨_, _, rfl, fun _ => ⟨g, cur, (0, 0), rfl, by omega, hg, fun j hj => ?_⟩⟩
    have q : (cur.toList.take (n * 1))[j]? = some (.int .i64 (l.getD j 0 : Nat)) := by
      rw [htake, vals, intsOf, List.getElem?_map, List.getElem?_map, List.getElem?_eq_getElem hj, List.getD_eq_getElem?_getD, List.getElem?_eq_getElem hj]
      rfl
    rw [List.getElem?_take, if_pos (by omega)] at q
    rw [← Array.getElem?_toList]
    exact q

/-- Tables in memory. -/
structure Tabs (w : World) (G1 G2 G3 N1 N2 : Nat) (ls ds nl : List Int) : Prop where
  s : Lst w G1 ls
  d : Lst w G2 ds
  n : Lst w G3 nl
  l1 : ls.length = N1
  l2 : ds.length = N2
  l3 : nl.length = 19
  g1 : 257 ≤ N1 ∧ N1 ≤ 286
  g2 : 1 ≤ N2 ∧ N2 ≤ 30
  r1 : ∀ j, 0 ≤ ls.getD j 0 ∧ ls.getD j 0 ≤ 15
  r2 : ∀ j, 0 ≤ ds.getD j 0 ∧ ds.getD j 0 ≤ 15
  r3 : ∀ j, 0 ≤ nl.getD j 0 ∧ nl.getD j 0 ≤ 7
  full : Rf.fs nl nl.length ≤ 32768
theorem Tabs.below {w w' : World} {G1 G2 G3 N1 N2 : Nat} {ls ds nl : List Int} (h : Tabs w G1 G2 G3 N1 N2 ls ds nl) (k : Below w.heap.size w w') : Tabs w' G1 G2 G3 N1 N2 ls ds nl :=
  ⟨h.s.keep k, h.d.keep k, h.n.keep k, h.l1, h.l2, h.l3, h.g1, h.g2, h.r1, h.r2, h.r3, h.full⟩
theorem Tabs.fr {w w' : World} {B G1 G2 G3 N1 N2 : Nat} {ls ds nl : List Int} (h : Tabs w G1 G2 G3 N1 N2 ls ds nl) (k : Fr B w w') (hB : w.heap[B]? ≠ none → ∃ cs, w.heap[B]? = some (.cells cs 57 (0, 0))) : Tabs w' G1 G2 G3 N1 N2 ls ds nl := by
  have key : ∀ g zs, Lst w g zs → Lst w' g zs := fun g zs hz => by
    have hne : g ≠ B := fun e => by
      subst e
      obtain ⟨cs, hcs⟩ := hB (by rw [show w.heap[g]? = _ from hz]; simp)
      rw [show w.heap[g]? = _ from hz] at hcs
      simp at hcs
    exact (k.kept hne hz (by decide)).trans hz
  exact ⟨key _ _ h.s, key _ _ h.d, key _ _ h.n, h.l1, h.l2, h.l3, h.g1, h.g2, h.r1, h.r2, h.r3, h.full⟩
theorem Writes.box {w : World} {B : Nat} {W : List Int} (h : Writes w B W) : w.heap[B]? ≠ none → ∃ cs, w.heap[B]? = some (.cells cs 57 (0, 0)) := fun _ => by
  obtain ⟨pv, P, h⟩ := h
  exact ⟨_, h.blk⟩
end Go.Proofs.YtmfijackgekioaaGreat

/-
  The tables, written: the program. For Deflates.
-/
namespace Go.Proofs.YtmfijackgekioaaGreat
open Go.RowKit

theorem fr_below {B : Nat} {w w' : World} (hB : B < w.heap.size) (k : Below w.heap.size w w') : Fr B w w' := ⟨k.mono (Nat.le_of_lt hB), fun j _ hj _ => k.block j hj⟩

set_option maxRecDepth 100000 in
set_option maxHeartbeats 4000000 in
theorem write103 (G1 G2 G3 N1 N2 B : Nat) (ls ds nl W : List Int) (w : World) (h : Tabs w G1 G2 G3 N1 N2 ls ds nl) (hw : Writes w B W) (hW : W.length ≤ 90000000) :
    Calls Tryz.prog 104 #[tabsV (.slice (some ⟨G1, 0, none⟩) N1 N1) (.slice (some ⟨G2, 0, none⟩) N2 N2) (.slice (some ⟨G3, 0, none⟩) 19 19), .pointer (some ⟨B, 0, none⟩)] w fun e w' =>
      e = .returned (.tuple #[]) ∧ Writes w' B (W ++ Rf.headBits (trimF ls 257 N1 - 257) (trimF ds 1 N2 - 1) (trimF (inOrd nl 19) 4 19) nl (E (toldL ls ds N1 N2))) ∧ Fr B w w' := by
  have hB := hw.lt
  have kT := below_alloc w (.cells #[.slice (some ⟨G1, 0, none⟩) N1 N1, .slice (some ⟨G2, 0, none⟩) N2 N2, .slice (some ⟨G3, 0, none⟩) 19 19] 127)
  have a1 := trimF_le ls 257 N1
  have a2 := trimF_ge ls 257 N1 h.g1.1
  have b1 := trimF_le ds 1 N2
  have b2 := trimF_ge ds 1 N2 h.g2.1
  have c1 := trimF_le (inOrd nl 19) 4 19
  have c2 := trimF_ge (inOrd nl 19) 4 19 (by omega)
  have gg1 := h.g1.2
  have gg2 := h.g2.2
  have hcnt := counts119 ls ds N1 N2 N1 N2 (some ⟨G1, 0, none⟩) (some ⟨G2, 0, none⟩) _ (some ⟨G3, 0, none⟩) 19 19 rfl (w.alloc (.cells #[.slice (some ⟨G1, 0, none⟩) N1 N1, .slice (some ⟨G2, 0, none⟩) N2 N2, .slice (some ⟨G3, 0, none⟩) 19 19] 127)) h.l1 h.l2 (by omega) (by omega) (h.below kT).s.ints (h.below kT).d.ints (fun a e _ => by cases e; exact lt_of_block (h.below kT).s) (fun a e _ => by cases e; exact lt_of_block (h.below kT).d)
  have HA : Hid (∃ X, X = trimF ls 257 N1) := ⟨_, rfl⟩
  have hfin : ∀ X Y Z : Nat, X = trimF ls 257 N1 → Y = trimF ds 1 N2 → Z = trimF (inOrd nl 19) 4 19 → W ++ Rf.headBits (trimF ls 257 N1 - 257) (trimF ds 1 N2 - 1) (trimF (inOrd nl 19) 4 19) nl (E (toldL ls ds N1 N2)) = ((((W ++ Rf.nb (X - 257) 5) ++ Rf.nb (Y - 1) 5) ++ Rf.nb (Z - 4) 4) ++ Rf.lenBits nl 0 Z) ++ Rf.tellBits (Rf.cbits nl) (E (toldL ls ds N1 N2)) := fun X Y Z e1 e2 e3 => by
    subst e1 e2 e3
    simp only [Rf.headBits, List.append_assoc]
  have hcn := fun (u : World) (hu : Below w.heap.size w u) => lengthCount117 nl G3 (some ⟨G1, 0, none⟩) (some ⟨G2, 0, none⟩) N1 N1 N2 N2 u h.l3 ((hu.block _ (lt_of_block h.n)).trans h.n)
  have HFIN : Hid (∀ X Y Z : Nat, _) := hfin
  have HTABS : Hid (Tabs w G1 G2 G3 N1 N2 ls ds nl) := h
  generalize hX : trimF ls 257 N1 = X at *
  generalize hY : trimF ds 1 N2 = Y at *
  generalize hZ : trimF (inOrd nl 19) 4 19 = Z at *
  have HXYZ : Hid (trimF ls 257 N1 = X ∧ trimF ds 1 N2 = Y ∧ trimF (inOrd nl 19) 4 19 = Z) := ⟨hX, hY, hZ⟩
  clear hfin HA hX hY hZ h
  go_enter Tryz.func104, Tryz.ntmps104
  go_wp2_with fail
  refine hcnt.mono ?_
  rintro e w1 ⟨rfl, hb1⟩
  have hbw1 : Below w.heap.size w w1 := kT.trans (hb1.mono (by simp))
  have hbox : w1.heap[w.heap.size]? = some (.cells #[.slice (some ⟨G1, 0, none⟩) N1 N1, .slice (some ⟨G2, 0, none⟩) N2 N2, .slice (some ⟨G3, 0, none⟩) 19 19] 127 (0, 0)) := (hb1.block _ (by simp)).trans (blk_new w _)
  obtain ⟨x0, x1, x2, fz, hlt1⟩ := cells3 hbox
  clear hcnt hb1 kT
  go_wp2_with fail
  refine (hcn w1 hbw1).mono ?_
  rintro e w2 ⟨rfl, hb2⟩
  have hbw2 : Below w.heap.size w w2 := hbw1.trans (hb2.mono hbw1.size)
  have hbox2 := (hb2.block _ hlt1).trans hbox
  clear x0 x1 x2 fz hcn hbox
  have hw2 : Writes w2 B W := hw.below hbw2
  have eX : (X : Int) - 257 = ((X - 257 : Nat) : Int) := by omega
  have eY : (Y : Int) - 1 = ((Y - 1 : Nat) : Int) := by omega
  have eZ : (Z : Int) - 4 = ((Z - 4 : Nat) : Int) := by omega
  have n1 := number92 ((X - 257 : Nat) : Int) 5 B W w2 hw2 (by omega) (by omega)
  rw [nbI_nat] at n1
  go_wp2_with fail
  refine n1.mono ?_
  rintro e w3 ⟨rfl, hw3, f3⟩
  have n2 := number92 ((Y - 1 : Nat) : Int) 5 B _ w3 hw3 (by omega) (by rw [List.length_append, Rf.nb_length]; omega)
  rw [nbI_nat] at n2
  go_wp2_with fail
  refine n2.mono ?_
  rintro e w4 ⟨rfl, hw4, f4⟩
  have n3 := number92 ((Z - 4 : Nat) : Int) 4 B _ w4 hw4 (by omega) (by rw [List.length_append, List.length_append, Rf.nb_length, Rf.nb_length]; omega)
  rw [nbI_nat] at n3
  go_wp2_with fail
  refine n3.mono ?_
  rintro e w5 ⟨rfl, hw5, f5⟩
  have F5 : Fr B w2 w5 := (f3.trans f4).trans f5
  clear n1 n2 n3 hw3 hw4 f3 f4 f5
  go_wp2_with fail
  refine (order85 _).mono ?_
  rintro e w6 ⟨O, rfl, hO1, hO2, hall, hb6⟩
  have hi19 : (Tryz.prog.info? 136).map (·.size) = some O.size := by rw [hO1]; exact info19
  go_wp2_with (refine wpList_store_row rfl 136 _ _ rfl w6.heap.size O rfl (by rfl) 136 zero19 (blk_new w6 _) hi19 hO1.symm hall ?_)
  have hOb : ((w6.alloc (.cells zero19 136)).setRow w6.heap.size O).heap[w6.heap.size]? = some (.cells O 136 (0, 0)) := setRow_heap _ w6.heap.size _ _ 136 _ (blk_new w6 _)
  have hb7 : Below w6.heap.size w6 ((w6.alloc (.cells zero19 136)).setRow w6.heap.size O) := below_setRow (below_alloc w6 _) (Nat.le_refl _) _
  generalize ((w6.alloc (.cells zero19 136)).setRow w6.heap.size O) = w7 at *
  have hb57 : Below w5.heap.size w5 w7 := hb6.trans (hb7.mono hb6.size)
  have hlt5 : B < w5.heap.size := hw5.lt
  have hw7 : Writes w7 B (((W ++ Rf.nb (X - 257) 5) ++ Rf.nb (Y - 1) 5) ++ Rf.nb (Z - 4) 4) := hw5.below hb57
  have F25 : Fr B w w5 := (fr_below hB hbw2).trans F5
  have F7 : Fr B w w7 := F25.trans (fr_below hlt5 hb57)
  have hneB : w.heap.size ≠ B := by omega
  have box5 : w5.heap[w.heap.size]? = some (.cells #[.slice (some ⟨G1, 0, none⟩) N1 N1, .slice (some ⟨G2, 0, none⟩) N2 N2, .slice (some ⟨G3, 0, none⟩) 19 19] 127 (0, 0)) := (F5.kept hneB hbox2 (by decide)).trans hbox2
  have box7 : w7.heap[w.heap.size]? = some (.cells #[.slice (some ⟨G1, 0, none⟩) N1 N1, .slice (some ⟨G2, 0, none⟩) N2 N2, .slice (some ⟨G3, 0, none⟩) 19 19] 127 (0, 0)) := (hb57.block _ (lt_of_block box5)).trans box5
  have tabs7 : Tabs w7 G1 G2 G3 N1 N2 ls ds nl := HTABS.out.fr F7 hw.box
  have hK7 : w6.heap.size ≠ B := by have := hb6.size; omega
  have hZ19 : (Z : Int) ≤ 19 := by omega
  have HS0 : Hid (Writes w7 B ((((W ++ Rf.nb (X - 257) 5) ++ Rf.nb (Y - 1) 5) ++ Rf.nb (Z - 4) 4) ++ Rf.lenBits nl 0 0) ∧ Fr B w w7) := ⟨by simpa [Rf.lenBits] using hw7, F7⟩
  generalize hW3 : (((W ++ Rf.nb (X - 257) 5) ++ Rf.nb (Y - 1) 5) ++ Rf.nb (Z - 4) 4) = W3 at *
  have hW3l : W3.length ≤ 90000014 := by rw [← hW3]; simp only [List.length_append, Rf.nb_length]; omega
  have HW3 : Hid ((((W ++ Rf.nb (X - 257) 5) ++ Rf.nb (Y - 1) 5) ++ Rf.nb (Z - 4) 4) = W3) := hW3
  have HB7 : Hid (w7.heap[w.heap.size]? = _ ∧ w7.heap[w6.heap.size]? = _ ∧ Tabs w7 G1 G2 G3 N1 N2 ls ds nl) := ⟨box7, hOb, tabs7⟩
  generalize w6.heap.size = K7 at *
  clear hW3 hw7 F7 F25 box5 box7 tabs7 hOb hb7 hb57 hw5 F5 hbox2 hb6 hw2 hbw2 hbw1 hb2 hi19 hall hO1
  have hsl : ∀ u : World, (Instr.sliceAt 136 (.pointer (some ⟨K7, 0, none⟩)) none (some (.int .i64 (Z : Int))) none).run Tryz.prog u = .ok (.slice (some ⟨K7, 0, none⟩) Z 19) u := fun u => by
    obtain ⟨i0, hi, hz0, hz1, hz2⟩ := info_parts Tryz.info3
    have hz0' : (0 : Int) ≤ (Z : Int) := by omega
    simp [Instr.sliceAt, Instr.sureAddr, run_underlying Tryz.underlying136, Instr.sliceBounds, run_sliceBound, sizeOf, typeInfo, hi, hZ19, hz0', go_sem]
  rw [hsl]
  clear hsl
  go_wp2
  go_loopw [33] (fun iv wr => ∃ i : Nat, i ≤ Z ∧ iv = .int .i64 i ∧ Hid (Writes wr B (W3 ++ Rf.lenBits nl 0 i) ∧ Fr B w wr) ∧ Hid (wr.heap[w.heap.size]? = some (.cells #[.slice (some ⟨G1, 0, none⟩) N1 N1, .slice (some ⟨G2, 0, none⟩) N2 N2, .slice (some ⟨G3, 0, none⟩) 19 19] 127 (0, 0)) ∧ wr.heap[K7]? = some (.cells O 136 (0, 0)) ∧ Tabs wr G1 G2 G3 N1 N2 ls ds nl)) (fun iv _ => Z - (intOf iv).toNat)
  case atStart => exact ⟨0, Nat.zero_le _, rfl, HS0, HB7⟩
  case round =>
    clear HS0 HB7
    obtain ⟨i, hi, rfl, HS, HM⟩ := hrel
    obtain ⟨x0, x1, x2, fz, hltb⟩ := cells3 HM.out.1
    by_cases hiz : i < Z
    · have hol := Rf.order_lt i
      have co : wr.cell? ⟨K7, i, none⟩ = some (.int .i64 ((Rf.order.getD i 0 : Nat) : Int)) := (cell_at HM.out.2.1 i).trans (hO2 i (by omega))
      have cn := HM.out.2.2.n.at_ (Rf.order.getD i 0) (by have := HM.out.2.2.l3; omega)
      have hr3 := HM.out.2.2.r3 (Rf.order.getD i 0)
      have hsn := lenBits_snoc nl i 0
      rw [Nat.zero_add] at hsn
      have hnum := number92 (nl.getD (Rf.order.getD i 0) 0) 3 B (W3 ++ Rf.lenBits nl 0 i) wr HS.out.1 (by omega) (by rw [List.length_append, Rf.lenBits_length]; omega)
      have HSN : Hid ((W3 ++ Rf.lenBits nl 0 i) ++ nbI (nl.getD (Rf.order.getD i 0) 0) 3 = W3 ++ Rf.lenBits nl 0 (i + 1)) := by
        show _ = _
        rw [hsn, List.append_assoc, ← nbI_nat, show (((nl.getD (Rf.order.getD i 0) 0).toNat : Nat) : Int) = nl.getD (Rf.order.getD i 0) 0 by omega]
      generalize nl.getD (Rf.order.getD i 0) 0 = y at *
      generalize Rf.order.getD i 0 = q at *
      have hq : (q : Int) < 19 := by omega
      clear hsn
      go_wp2_with fail
      refine hnum.mono ?_
      rintro e w8 ⟨rfl, hw8, f8⟩
      rw [HSN.out] at hw8
      have HM8 : Hid (w8.heap[w.heap.size]? = some (.cells #[.slice (some ⟨G1, 0, none⟩) N1 N1, .slice (some ⟨G2, 0, none⟩) N2 N2, .slice (some ⟨G3, 0, none⟩) 19 19] 127 (0, 0)) ∧ w8.heap[K7]? = some (.cells O 136 (0, 0)) ∧ Tabs w8 G1 G2 G3 N1 N2 ls ds nl) := ⟨(f8.kept hneB HM.out.1 (by decide)).trans HM.out.1, (f8.kept hK7 HM.out.2.1 (by decide)).trans HM.out.2.1, HM.out.2.2.fr f8 HS.out.1.box⟩
      have HS8 : Hid (Writes w8 B (W3 ++ Rf.lenBits nl 0 (i + 1)) ∧ Fr B w w8) := ⟨hw8, HS.out.2.trans f8⟩
      clear hw8 f8 hnum HS HM co cn x0 x1 x2 fz hltb
      go_wp2
      go_roundw
      case rel => exact ⟨i + 1, by omega, by go_num, HS8, HM8⟩
      case measure => simp [intOf]; omega
    · have ei : i = Z := by omega
      subst ei
      have keepS : ∀ u : World, u.heap[w.heap.size]? = some (.cells #[.slice (some ⟨G1, 0, none⟩) N1 N1, .slice (some ⟨G2, 0, none⟩) N2 N2, .slice (some ⟨G3, 0, none⟩) 19 19] 127 (0, 0)) → u.cell? ⟨w.heap.size, 0, none⟩ = some (.slice (some ⟨G1, 0, none⟩) N1 N1) ∧ u.cell? ⟨w.heap.size, 1, none⟩ = some (.slice (some ⟨G2, 0, none⟩) N2 N2) ∧ u.cell? ⟨w.heap.size, 2, none⟩ = some (.slice (some ⟨G3, 0, none⟩) 19 19) := fun u hu => by
        obtain ⟨z0, z1, z2, _⟩ := cells3 hu
        exact ⟨z0, z1, z2⟩
      have bxd : wr.drew.heap[w.heap.size]? = some (.cells #[.slice (some ⟨G1, 0, none⟩) N1 N1, .slice (some ⟨G2, 0, none⟩) N2 N2, .slice (some ⟨G3, 0, none⟩) 19 19] 127 (0, 0)) := HM.out.1
      have hS := keepS _ bxd
      have tb := HM.out.2.2
      have hrd : Below wr.heap.size wr wr.drew := ⟨rfl, rfl, rfl, Nat.le_refl _, fun _ _ => rfl⟩
      have tbd := tb.below hrd
      have hwd := HS.out.1.below hrd
      have hBr := HS.out.1.lt
      have htold := told115 ls ds G1 G2 N1 N2 (some ⟨G3, 0, none⟩) 19 19 wr.drew tb.l1 tb.l2 (by omega) (by omega) tb.g1.1 tb.g2.1 tbd.s tbd.d
      have hti := toldL_ints ls ds N1 N2 (fun j => (tb.r1 j).1) (fun j => (tb.r2 j).1)
      have htl := toldL_length ls ds N1 N2 tb.l1 tb.l2
      have hte := toldL_le ls ds N1 N2 (fun j => (tb.r1 j).2) (fun j => (tb.r2 j).2)
      rw [← hti, ← htl] at htold
      rw [HXYZ.out.1, HXYZ.out.2.1] at htl
      have HTL : Hid ((toldL ls ds N1 N2).length = X + Y) := htl
      clear htl
      have hlb := Rf.lenBits_length nl i 0
      go_wp2
      refine regionZ (by kernel_rfl) (fun w' => w'.cell? ⟨w.heap.size, 0, none⟩ = some (.slice (some ⟨G1, 0, none⟩) N1 N1) ∧ w'.cell? ⟨w.heap.size, 1, none⟩ = some (.slice (some ⟨G2, 0, none⟩) N2 N2) ∧ w'.cell? ⟨w.heap.size, 2, none⟩ = some (.slice (some ⟨G3, 0, none⟩) 19 19)) 999 ?_
      refine anyZ_take (i := 0) (v := ?_) rfl (by kernel_rfl) (by kernel_rfl) (by kernel_rfl) (by kernel_rfl) (fun _ _ _ h => h) (by kernel_rfl) ?_ hS ?_
      rotate_left
      · intro w hSw; (try dsimp only at hSw); go_simp; try with_reducible rfl
      try simp only [Act.put]
      refine anyZ_take (i := 2) (v := ?_) rfl (by kernel_rfl) (by kernel_rfl) (by kernel_rfl) (by kernel_rfl) (fun _ _ _ h => h) (by kernel_rfl) ?_ hS ?_
      rotate_left
      · intro w hSw; (try dsimp only at hSw); go_simp; try with_reducible rfl
      try simp only [Act.put]
      refine anyZ_take (i := 3) (v := ?_) rfl (by kernel_rfl) (by kernel_rfl) (by kernel_rfl) (by kernel_rfl) (fun _ _ _ h => h) (by kernel_rfl) ?_ hS ?_
      rotate_left
      · intro w hSw; (try dsimp only at hSw); go_simp; try with_reducible rfl
      try simp only [Act.put]
      refine anyZ_take (i := 4) (v := ?_) rfl (by kernel_rfl) (by kernel_rfl) (by kernel_rfl) (by kernel_rfl) (fun _ _ _ h => h) (by kernel_rfl) ?_ hS ?_
      rotate_left
      · intro w hSw; (try dsimp only at hSw); go_simp; try with_reducible rfl
      try simp only [Act.put]
      refine anyZ_one (i := 1) (by kernel_rfl) rfl (fun K hK => ?_)
      go_simp
      refine htold.mono ?_
      rintro e w8 ⟨v8, rfl, ho8, hb8⟩
      obtain ⟨ta, tc, rfl, ht8⟩ := own_told (B := B) ho8 rfl hBr
      have bx8 := (hb8.block _ (lt_of_block bxd)).trans bxd
      refine hK _ _ (fun _ => keepS _ bx8) ?_
      clear hK K
      have tb8 := tbd.below hb8
      have hw8 := hwd.below hb8
      have hcw := codeWriter111 B (some ⟨G3, 0, none⟩) 19 nl 19 w8 tb.l3 (by omega) tb8.n.ints (fun a e _ => by cases e; exact lt_of_block tb8.n) (fun j => by have := tb.r3 j; omega) tb.full hw8.lt
      refine anyZ_one (i := 5) (by kernel_rfl) rfl (fun K hK => ?_)
      go_simp
      refine hcw.mono ?_
      rintro e w9 ⟨fv, rfl, hc9, hb9⟩
      have bx9 := (hb9.block _ (lt_of_block bx8)).trans bx8
      refine hK _ _ (fun _ => keepS _ bx9) ?_
      clear hK K
      have hw9 := hw8.below hb9
      have hlw := lens_written B (W3 ++ Rf.lenBits nl 0 i) nl fv ta tc (toldL ls ds N1 N2) w9 (by rw [List.length_append, hlb]; omega) tb.l3 hw9 (hc9.weak (Nat.zero_le _)) (ht8.below hb9) hte (by have := HTL.out; omega)
      refine anyZ_one (i := 6) (by kernel_rfl) rfl (fun K hK => ?_)
      go_simp
      refine hlw.mono ?_
      rintro e w10 ⟨rfl, hw10, f10⟩
      have bx10 := (f10.kept hneB bx9 (by decide)).trans bx9
      refine hK _ _ (fun _ => keepS _ bx10) ?_
      clear hK K
      refine anyZ_done (by kernel_rfl) ?_ _
      have F10 : Fr B w w10 := ((HS.out.2.trans (fr_below hBr hrd)).trans (fr_below hwd.lt hb8)).trans ((fr_below hw8.lt hb9).trans f10)
      go_wp2
      go_end0
      refine ⟨rfl, ?_, F10⟩
      have := HFIN.out X Y i rfl rfl rfl
      rw [this, HW3.out]
      exact hw10
end Go.Proofs.YtmfijackgekioaaGreat

/-
  How many bits the tables take to tell: the program. For Deflates.
-/
namespace Go.Proofs.YtmfijackgekioaaGreat
open Go.RowKit

theorem lenSum_le (nl : List Int) (h : ∀ j, 0 ≤ nl.getD j 0 ∧ nl.getD j 0 ≤ 7) : ∀ ts : List (Nat × Nat), 0 ≤ lenSum nl ts ∧ lenSum nl ts ≤ 14 * ts.length
  | [] => by simp [lenSum]
  | t :: r => by
    have ih := lenSum_le nl h r
    have := h t.1
    have htk := tkb_le t
    have e : lenSum nl (t :: r) = (nl.getD t.1 0 + (Rf.tkb t : Nat)) + lenSum nl r := by simp [lenSum]
    rw [e, List.length_cons]
    omega

/-- The sum in memory. -/
structure SInv (S Tb G1 G2 G3 N1 N2 : Nat) (nl : List Int) (c0 : Int) (ao : Option Addr) (l : List Nat) (b0 : Nat) (w0 w : World) (ts : List (Nat × Nat)) : Prop where
  sum : w.heap[S]? = some (.cells #[.int .i64 (c0 + lenSum nl ts)] 3 (0, 0))
  box : w.heap[Tb]? = some (.cells #[.slice (some ⟨G1, 0, none⟩) N1 N1, .slice (some ⟨G2, 0, none⟩) N2 N2, .slice (some ⟨G3, 0, none⟩) 19 19] 127 (0, 0))
  n : Lst w G3 nl
  be : Below b0 w0 w
  told : Told w S ao l
  ne : Tb ≠ S ∧ G3 ≠ S ∧ b0 ≤ S

theorem SInv.next {S Tb G1 G2 G3 N1 N2 : Nat} {nl : List Int} {c0 : Int} {ao : Option Addr} {l : List Nat} {b0 : Nat} {w0 w : World} {ts : List (Nat × Nat)} (h : SInv S Tb G1 G2 G3 N1 N2 nl c0 ao l b0 w0 w ts) (t : Nat × Nat) (v : Int) (hv : v = c0 + lenSum nl (ts ++ [t])) :
    SInv S Tb G1 G2 G3 N1 N2 nl c0 ao l b0 w0 (w.setCell ⟨S, 0, none⟩ (.int .i64 v)) (ts ++ [t]) := by
  obtain ⟨n1, n2, n3⟩ := h.ne
  refine ⟨?_, (Below.heap_setCell w ⟨S, 0, none⟩ _ Tb n1).trans h.box, (Below.heap_setCell w ⟨S, 0, none⟩ _ G3 n2).trans h.n, h.be.setCell (p := ⟨S, 0, none⟩) n3 _, fun hn => ?_, h.ne⟩
  · rw [hv]
    exact one_set h.sum _
  · obtain ⟨g, cs, fr, e, h1, h2, h3⟩ := h.told hn
    exact ⟨g, cs, fr, e, h1, (Below.heap_setCell w ⟨S, 0, none⟩ _ g h1).trans h2, h3⟩

set_option maxRecDepth 100000 in
set_option maxHeartbeats 1000000 in
theorem sum118 (S Tb G1 G2 G3 N1 N2 : Nat) (nl : List Int) (c0 : Int) (ao : Option Addr) (l : List Nat) (b0 : Nat) (w0 w : World) (ts : List (Nat × Nat)) (t : Nat × Nat) (h : SInv S Tb G1 G2 G3 N1 N2 nl c0 ao l b0 w0 w ts) (hts : ts.length < 700) (h18 : t.1 ≤ 18) (h19 : nl.length = 19) (hr : ∀ j, 0 ≤ nl.getD j 0 ∧ nl.getD j 0 ≤ 7) (hc : 0 ≤ c0 ∧ c0 ≤ 100000) :
    Calls Tryz.prog 122 #[.int .i64 t.1, .int .i64 t.2, .int .i64 (Rf.tkb t), .pointer (some ⟨S, 0, none⟩), .pointer (some ⟨Tb, 0, none⟩)] w fun e w' => e = .returned (.tuple #[]) ∧ SInv S Tb G1 G2 G3 N1 N2 nl c0 ao l b0 w0 w' (ts ++ [t]) := by
  have hb1 : Below w.heap.size w w.drew := ⟨rfl, rfl, rfl, Nat.le_refl _, fun _ _ => rfl⟩
  have hlS := lt_of_block h.sum
  have h1 : SInv S Tb G1 G2 G3 N1 N2 nl c0 ao l b0 w0 w.drew ts := ⟨h.sum, h.box, h.n, h.be.trans (hb1.mono (by have := h.ne; omega)), h.told.below hb1, h.ne⟩
  clear h hb1 hlS
  generalize hwd : w.drew = wd at *
  obtain ⟨x0, x1, x2, fz, hltT⟩ := cells3 h1.box
  obtain ⟨s0, sz, sl⟩ := one_cell h1.sum
  have cn := h1.n.at_ t.1 (by omega)
  have hle := lenSum_le nl hr ts
  have hrt := hr t.1
  have htk := tkb_le t
  have HN : Hid (∀ v : Int, v = c0 + lenSum nl ts + (nl.getD t.1 0 + (Rf.tkb t : Nat)) → SInv S Tb G1 G2 G3 N1 N2 nl c0 ao l b0 w0 (wd.setCell ⟨S, 0, none⟩ (.int .i64 v)) (ts ++ [t])) := fun v hv => h1.next t v (by rw [hv, lenSum_snoc]; omega)
  generalize nl.getD t.1 0 = y at *
  generalize hk : Rf.tkb t = k at *
  generalize hq : t.1 = q at *
  generalize lenSum nl ts = z at *
  obtain ⟨c, hcz⟩ : ∃ c, c0 + z = c := ⟨_, rfl⟩
  rw [hcz] at s0 HN
  have hcb : 0 ≤ c ∧ c ≤ 110000 := by omega
  have hq19 : (q : Int) < 19 := by omega
  clear h1 hk hq hcz hle hc x0 x1
  have hS : wd.cell? ⟨S, 0, none⟩ = some (.int .i64 c) ∧ wd.cell? ⟨Tb, 2, none⟩ = some (.slice (some ⟨G3, 0, none⟩) 19 19) ∧ wd.cell? ⟨G3, q, none⟩ = some (.int .i64 y) := ⟨s0, x2, cn⟩
  go_enter Tryz.func122, Tryz.ntmps122
  go_wp2
  refine regionZ (by kernel_rfl) (fun w' => w'.cell? ⟨S, 0, none⟩ = some (.int .i64 c) ∧ w'.cell? ⟨Tb, 2, none⟩ = some (.slice (some ⟨G3, 0, none⟩) 19 19) ∧ w'.cell? ⟨G3, q, none⟩ = some (.int .i64 y)) 9 ?_
  rw [hwd]
  refine anyZ_take (i := 0) (v := ?_) rfl (by kernel_rfl) (by kernel_rfl) (by kernel_rfl) (by kernel_rfl) (fun _ _ _ h => h) (by kernel_rfl) ?_ hS ?_
  rotate_left
  · intro w hSw; (try dsimp only at hSw); go_simp; try with_reducible rfl
  try simp only [Act.put]
  refine anyZ_take (i := 1) (v := ?_) rfl (by kernel_rfl) (by kernel_rfl) (by kernel_rfl) (by kernel_rfl) (fun _ _ _ h => h) (by kernel_rfl) ?_ hS ?_
  rotate_left
  · intro w hSw; (try dsimp only at hSw); go_simp; try with_reducible rfl
  try simp only [Act.put]
  refine anyZ_take (i := 2) (v := ?_) rfl (by kernel_rfl) (by kernel_rfl) (by kernel_rfl) (by kernel_rfl) (fun _ _ _ h => h) (by kernel_rfl) ?_ hS ?_
  rotate_left
  · intro w hSw; (try dsimp only at hSw); go_simp; try with_reducible rfl
  try simp only [Act.put]
  refine anyZ_take (i := 3) (v := ?_) rfl (by kernel_rfl) (by kernel_rfl) (by kernel_rfl) (by kernel_rfl) (fun _ _ _ h => h) (by kernel_rfl) ?_ hS ?_
  rotate_left
  · intro w hSw; (try dsimp only at hSw); go_simp; try with_reducible rfl
  try simp only [Act.put]
  refine anyZ_take (i := 4) (v := ?_) rfl (by kernel_rfl) (by kernel_rfl) (by kernel_rfl) (by kernel_rfl) (fun _ _ _ h => h) (by kernel_rfl) ?_ hS ?_
  rotate_left
  · intro w hSw; (try dsimp only at hSw); go_simp; try with_reducible rfl
  try simp only [Act.put]
  refine anyZ_take (i := 5) (v := ?_) rfl (by kernel_rfl) (by kernel_rfl) (by kernel_rfl) (by kernel_rfl) (fun _ _ _ h => h) (by kernel_rfl) ?_ hS ?_
  rotate_left
  · intro w hSw; (try dsimp only at hSw); go_simp; try with_reducible rfl
  try simp only [Act.put]
  refine anyZ_take (i := 6) (v := ?_) rfl (by kernel_rfl) (by kernel_rfl) (by kernel_rfl) (by kernel_rfl) (fun _ _ _ h => h) (by kernel_rfl) ?_ hS ?_
  rotate_left
  · intro w hSw; (try dsimp only at hSw); go_simp; try with_reducible rfl
  try simp only [Act.put]
  refine anyZ_take (i := 7) (v := ?_) rfl (by kernel_rfl) (by kernel_rfl) (by kernel_rfl) (by kernel_rfl) (fun _ _ _ h => h) (by kernel_rfl) ?_ hS ?_
  rotate_left
  · intro w hSw; (try dsimp only at hSw); go_simp; try with_reducible rfl
  try simp only [Act.put]
  refine anyZ_take (i := 8) (v := ?_) rfl (by kernel_rfl) (by kernel_rfl) (by kernel_rfl) (by kernel_rfl) (fun _ _ _ h => h) (by kernel_rfl) ?_ hS ?_
  rotate_left
  · intro w hSw; (try dsimp only at hSw); go_simp; try with_reducible rfl
  try simp only [Act.put]
  refine anyZ_one (i := 9) (by kernel_rfl) rfl (fun K hK => ?_)
  go_simp
  refine hK _ _ (fun h => absurd rfl h) ?_
  clear hK K
  refine anyZ_done (by kernel_rfl) ?_ _
  go_wp2
  go_end0
  exact ⟨rfl, HN.out _ (by rw [IntKind.wrap_i64, IntKind.wrap_i64]; omega)⟩

theorem call118 (args : Array Value) (w : World) : (callFunc 122 args).run Tryz.prog w = .ok (.enter 122 args) w := by kernel_rfl

theorem lens_summed (S Tb G1 G2 G3 N1 N2 : Nat) (nl : List Int) (c0 : Int) (ao : Option Addr) (cap : Nat) (l : List Nat) (b0 : Nat) (w0 w : World) (h : SInv S Tb G1 G2 G3 N1 N2 nl c0 ao l b0 w0 w []) (h19 : nl.length = 19) (hr : ∀ j, 0 ≤ nl.getD j 0 ∧ nl.getD j 0 ≤ 7) (hc : 0 ≤ c0 ∧ c0 ≤ 100000) (hl : ∀ x ∈ l, x ≤ 15) (h6 : l.length ≤ 600) :
    Calls Tryz.prog 118 #[.slice ao l.length cap, .func (.func 122) #[] #[.pointer (some ⟨S, 0, none⟩), .pointer (some ⟨Tb, 0, none⟩)]] w fun e w' => e = .returned (.tuple #[]) ∧ SInv S Tb G1 G2 G3 N1 N2 nl c0 ao l b0 w0 w' (E l) := by
  refine eachLength114 122 _ ao cap l (SInv S Tb G1 G2 G3 N1 N2 nl c0 ao l b0 w0) ⟨?_, call118, ?_, fun u ts h => h.told.ints⟩ w h hl h6
  · intro u ts t h hts h18 hx
    exact sum118 S Tb G1 G2 G3 N1 N2 nl c0 ao l b0 w0 u ts t h hts h18 h19 hr hc
  · intro u ts n h
    have hb : Below u.heap.size u (u.drewN n) := below_drewN (Below.refl _ _) n
    exact ⟨h.sum, h.box, h.n, below_drewN h.be n, h.told.below hb, h.ne⟩
end Go.Proofs.YtmfijackgekioaaGreat

/-
  How many bits the tables take: the method. For Deflates.
-/
namespace Go.Proofs.YtmfijackgekioaaGreat
open Go.RowKit

set_option maxRecDepth 100000 in
set_option maxHeartbeats 4000000 in
theorem bits101 (G1 G2 G3 N1 N2 : Nat) (ls ds nl : List Int) (w : World) (h : Tabs w G1 G2 G3 N1 N2 ls ds nl) :
    Calls Tryz.prog 102 #[tabsV (.slice (some ⟨G1, 0, none⟩) N1 N1) (.slice (some ⟨G2, 0, none⟩) N2 N2) (.slice (some ⟨G3, 0, none⟩) 19 19)] w fun e w' =>
      e = .returned (.int .i64 (14 + 3 * (trimF (inOrd nl 19) 4 19 : Nat) + lenSum nl (E (toldL ls ds N1 N2)))) ∧ Below w.heap.size w w' := by
  have c1 := trimF_le (inOrd nl 19) 4 19
  have hcn := fun (u : World) (hu : Below w.heap.size w u) => lengthCount117 nl G3 (some ⟨G1, 0, none⟩) (some ⟨G2, 0, none⟩) N1 N1 N2 N2 u h.l3 ((hu.block _ (lt_of_block h.n)).trans h.n)
  have HTABS : Hid (Tabs w G1 G2 G3 N1 N2 ls ds nl) := h
  generalize trimF (inOrd nl 19) 4 19 = Z at *
  clear h
  go_enter Tryz.func102, Tryz.ntmps102
  go_wp2_with fail
  have kT := below_alloc w (.cells #[.slice (some ⟨G1, 0, none⟩) N1 N1, .slice (some ⟨G2, 0, none⟩) N2 N2, .slice (some ⟨G3, 0, none⟩) 19 19] 127)
  refine (hcn _ kT).mono ?_
  rintro e w2 ⟨rfl, hb2⟩
  have hbw2 : Below w.heap.size w w2 := kT.trans (hb2.mono (by simp))
  have hbox2 : w2.heap[w.heap.size]? = some (.cells #[.slice (some ⟨G1, 0, none⟩) N1 N1, .slice (some ⟨G2, 0, none⟩) N2 N2, .slice (some ⟨G3, 0, none⟩) 19 19] 127 (0, 0)) := (hb2.block _ (by simp)).trans (blk_new w _)
  obtain ⟨x0, x1, x2, fz, hlt1⟩ := cells3 hbox2
  clear hcn hb2 kT
  go_wp2_with fail
  have tb := HTABS.out
  have kS := below_alloc w2 (.cells #[.int .i64 (14 + 3 * (Z : Int))] 3)
  have hbw3 : Below w.heap.size w (w2.alloc (.cells #[.int .i64 (14 + 3 * (Z : Int))] 3)) := hbw2.trans (kS.mono hbw2.size)
  have bs3 : (w2.alloc (.cells #[.int .i64 (14 + 3 * (Z : Int))] 3)).heap[w2.heap.size]? = some (.cells #[.int .i64 (14 + 3 * (Z : Int))] 3 (0, 0)) := blk_new w2 _
  have bx3 : (w2.alloc (.cells #[.int .i64 (14 + 3 * (Z : Int))] 3)).heap[w.heap.size]? = some (.cells #[.slice (some ⟨G1, 0, none⟩) N1 N1, .slice (some ⟨G2, 0, none⟩) N2 N2, .slice (some ⟨G3, 0, none⟩) 19 19] 127 (0, 0)) := blk_old hbox2 _
  have hs3 : w2.heap.size < (w2.alloc (.cells #[.int .i64 (14 + 3 * (Z : Int))] 3)).heap.size := by simp
  have tb3 := tb.below hbw3
  have hG3 := lt_of_block tb.n
  clear x0 x1 x2 fz kS hbox2
  generalize hw3 : (w2.alloc (.cells #[.int .i64 (14 + 3 * (Z : Int))] 3)) = w3 at *
  have gg1 := tb.g1.2
  have gg2 := tb.g2.2
  have htold := told115 ls ds G1 G2 N1 N2 (some ⟨G3, 0, none⟩) 19 19 w3 tb.l1 tb.l2 (by omega) (by omega) tb.g1.1 tb.g2.1 tb3.s tb3.d
  have hti := toldL_ints ls ds N1 N2 (fun j => (tb.r1 j).1) (fun j => (tb.r2 j).1)
  have htl := toldL_length ls ds N1 N2 tb.l1 tb.l2
  have hte := toldL_le ls ds N1 N2 (fun j => (tb.r1 j).2) (fun j => (tb.r2 j).2)
  have a1 := trimF_le ls 257 N1
  have b1 := trimF_le ds 1 N2
  have htn : Hid ((toldL ls ds N1 N2).length ≤ 600) := by show _ ≤ _; omega
  rw [← hti, ← htl] at htold
  clear htl hti a1 b1
  refine htold.mono ?_
  rintro e w4 ⟨v4, rfl, ho4, hb4⟩
  obtain ⟨ta, tc, rfl, ht4⟩ := own_told (B := w2.heap.size) ho4 rfl hs3
  have si : SInv w2.heap.size w.heap.size G1 G2 G3 N1 N2 nl (14 + 3 * (Z : Int)) ta (toldL ls ds N1 N2) w.heap.size w w4 [] :=
    ⟨by rw [show (14 + 3 * (Z : Int)) + lenSum nl [] = 14 + 3 * (Z : Int) by simp [lenSum]]; exact (hb4.block _ hs3).trans bs3, (hb4.block _ (lt_of_block bx3)).trans bx3, (tb3.below hb4).n, hbw3.trans (hb4.mono hbw3.size), ht4, by omega, by omega, hbw2.size⟩
  have hls := lens_summed w2.heap.size w.heap.size G1 G2 G3 N1 N2 nl (14 + 3 * (Z : Int)) ta tc (toldL ls ds N1 N2) w.heap.size w w4 si tb.l3 tb.r3 (by omega) hte htn.out
  generalize w2.heap.size = S at *
  clear ht4 ho4 hb4 bs3 bx3 si tb3 tb
  go_wp2_with fail
  refine hls.mono ?_
  rintro e w5 ⟨rfl, h5⟩
  obtain ⟨s0, sz, sl⟩ := one_cell h5.sum
  have HB5 := h5.be
  go_wp2
  go_ret
  exact ⟨rfl, HB5⟩
end Go.Proofs.YtmfijackgekioaaGreat

/-
  How often each number tells lengths: the program. For Deflates.
-/
namespace Go.Proofs.YtmfijackgekioaaGreat
open Go.RowKit

def ntok (t : Nat × Nat) : Tok := (false, t.1, 0, 0)
def ntal (ts : List (Nat × Nat)) : List Int := tal 19 false (ts.map ntok)
theorem ntal_snoc (ts : List (Nat × Nat)) (t : Nat × Nat) : ntal (ts ++ [t]) = (ntal ts).set t.1 ((ntal ts).getD t.1 0 + 1) := by
  unfold ntal
  rw [List.map_append]
  exact tal_same 19 false (ts.map ntok) t.1 0 0
theorem ntal_length (ts : List (Nat × Nat)) : (ntal ts).length = 19 := tal_length _ _ _
theorem ntal_range (ts : List (Nat × Nat)) (j : Nat) : 0 ≤ (ntal ts).getD j 0 ∧ (ntal ts).getD j 0 ≤ ts.length := by
  have := tal_range 19 false (ts.map ntok) j
  rw [List.length_map] at this
  exact this
/-- A number that comes weighs. -/
theorem ntal_pos (ts : List (Nat × Nat)) (t : Nat × Nat) (h : t ∈ ts) (h18 : t.1 ≤ 18) : 0 < (ntal ts).getD t.1 0 := by
  unfold ntal
  rw [tal_getD 19 false _ t.1 (by omega)]
  have : 0 < (ts.map ntok).countP (fun u => decide (u.1 = false ∧ u.2.1 = t.1)) := List.countP_pos_iff.2 ⟨ntok t, List.mem_map_of_mem h, by simp [ntok]⟩
  omega

/-- The weights in memory. -/
structure NInv (Wb G : Nat) (ao : Option Addr) (l : List Nat) (b0 : Nat) (w0 w : World) (ts : List (Nat × Nat)) : Prop where
  box : w.heap[Wb]? = some (.cells #[.slice (some ⟨G, 0, none⟩) 19 19] 39 (0, 0))
  n : Lst w G (ntal ts)
  be : Below b0 w0 w
  told : Told w G ao l
  ne : Wb ≠ G ∧ b0 ≤ G

theorem NInv.next {Wb G : Nat} {ao : Option Addr} {l : List Nat} {b0 : Nat} {w0 w : World} {ts : List (Nat × Nat)} (h : NInv Wb G ao l b0 w0 w ts) (t : Nat × Nat) :
    NInv Wb G ao l b0 w0 (w.setCell ⟨G, t.1, none⟩ (.int .i64 ((ntal ts).getD t.1 0 + 1))) (ts ++ [t]) := by
  obtain ⟨n1, n2⟩ := h.ne
  refine ⟨(Below.heap_setCell w ⟨G, t.1, none⟩ _ Wb n1).trans h.box, by rw [ntal_snoc]; exact h.n.set _ _, h.be.setCell (p := ⟨G, t.1, none⟩) n2 _, fun hn => ?_, h.ne⟩
  obtain ⟨g, cs, fr, e, h1, h2, h3⟩ := h.told hn
  exact ⟨g, cs, fr, e, h1, (Below.heap_setCell w ⟨G, t.1, none⟩ _ g h1).trans h2, h3⟩

set_option maxRecDepth 100000 in
set_option maxHeartbeats 1000000 in
theorem count116 (Wb G : Nat) (ao : Option Addr) (l : List Nat) (b0 : Nat) (w0 w : World) (ts : List (Nat × Nat)) (t : Nat × Nat) (h : NInv Wb G ao l b0 w0 w ts) (hts : ts.length < 700) (h18 : t.1 ≤ 18) (x k : Value) :
    Calls Tryz.prog 120 #[.int .i64 t.1, x, k, .pointer (some ⟨Wb, 0, none⟩)] w fun e w' => e = .returned (.tuple #[]) ∧ NInv Wb G ao l b0 w0 w' (ts ++ [t]) := by
  obtain ⟨s0, sz, sl⟩ := one_cell h.box
  have cn := h.n.at_ t.1 (by rw [ntal_length]; omega)
  have hfz : ∀ j, w.frozen? ⟨G, j, none⟩ = false := fun j => frozen_of_row w G j _ _ h.n
  have hr := ntal_range ts t.1
  have HN : Hid (NInv Wb G ao l b0 w0 (w.setCell ⟨G, t.1, none⟩ (.int .i64 ((ntal ts).getD t.1 0 + 1))) (ts ++ [t])) := h.next t
  generalize (ntal ts).getD t.1 0 = y at *
  generalize hq : t.1 = q at *
  have hq19 : (q : Int) < 19 := by omega
  clear h hq
  go_enter Tryz.func120, Tryz.ntmps120
  go_wp2
  go_end0
  exact ⟨rfl, HN.out⟩

theorem call116 (args : Array Value) (w : World) : (callFunc 120 args).run Tryz.prog w = .ok (.enter 120 args) w := by kernel_rfl

theorem lens_counted (Wb G : Nat) (ao : Option Addr) (cap : Nat) (l : List Nat) (b0 : Nat) (w0 w : World) (h : NInv Wb G ao l b0 w0 w []) (hl : ∀ x ∈ l, x ≤ 15) (h6 : l.length ≤ 600) :
    Calls Tryz.prog 118 #[.slice ao l.length cap, .func (.func 120) #[] #[.pointer (some ⟨Wb, 0, none⟩)]] w fun e w' => e = .returned (.tuple #[]) ∧ NInv Wb G ao l b0 w0 w' (E l) := by
  refine eachLength114 120 _ ao cap l (NInv Wb G ao l b0 w0) ⟨?_, call116, ?_, fun u ts h => h.told.ints⟩ w h hl h6
  · intro u ts t h hts h18 hx
    exact count116 Wb G ao l b0 w0 u ts t h hts h18 _ _
  · intro u ts n h
    have hb : Below u.heap.size u (u.drewN n) := below_drewN (Below.refl _ _) n
    exact ⟨h.box, h.n, below_drewN h.be n, h.told.below hb, h.ne⟩
end Go.Proofs.YtmfijackgekioaaGreat

/-
  The tables for a tally: the program. For Deflates.
-/
namespace Go.Proofs.YtmfijackgekioaaGreat
open Go.RowKit

/-- What the tables for a tally are. -/
structure Made (sw dw ls ds nl : List Int) : Prop where
  s : ∃ ws, TwoOk sw ws 286 ∧ 2 ≤ (heavy ws 286).length ∧ LensOk ws 286 15 ls
  d : LensOk dw 30 15 ds
  n : ∃ ws, TwoOk (ntal (E (toldL ls ds 286 30))) ws 19 ∧ 2 ≤ (heavy ws 19).length ∧ LensOk ws 19 7 nl
end Go.Proofs.YtmfijackgekioaaGreat

/-
  The lists that the tables tell may be. For Deflates.
-/
namespace Go.Proofs.YtmfijackgekioaaGreat
open Go.RowKit

theorem getD_take (l : List Int) (m j : Nat) : (l.take m).getD j 0 = if j < m then l.getD j 0 else 0 := by
  rw [List.getD_eq_getElem?_getD, List.getElem?_take]
  by_cases h : j < m
  · rw [if_pos h, if_pos h, List.getD_eq_getElem?_getD]
  · rw [if_neg h, if_neg h]; rfl

theorem fs_take (l : List Int) (m : Nat) : ∀ k, k ≤ m → Rf.fs (l.take m) k = Rf.fs l k
  | 0, _ => rfl
  | k + 1, h => by rw [Rf.fs, Rf.fs, fs_take l m k (by omega), getD_take, if_pos (show k < m by omega)]
theorem fs_zero (l : List Int) (m : Nat) : ∀ n, m ≤ n → (∀ j, m ≤ j → j < n → l.getD j 0 = 0) → Rf.fs l n = Rf.fs l m
  | 0, h, _ => by have : m = 0 := by omega
                  rw [this]
  | n + 1, h, hz => by
    by_cases e : m = n + 1
    · rw [e]
    · rw [Rf.fs, fs_zero l m n (by omega) (fun j h1 h2 => hz j h1 (by omega)), hz n (by omega) (by omega)]
      simp
theorem full_trim (l : List Int) (least N : Nat) (hN : l.length = N) : Rf.full (l.take (trimF l least N)) = decide (Rf.fs l N = 32768) := by
  have h1 := trimF_le l least N
  unfold Rf.full
  rw [List.length_take, show min (trimF l least N) l.length = trimF l least N by omega, fs_take l _ _ (Nat.le_refl _), fs_zero l _ N h1 (trimF_zero l least N)]

theorem sum_one (far : List Int) (j : Nat) (h : ∀ i, far.getD i 0 = if i = j then 1 else 0) : ∀ k, Rf.sumF far k = (if j < k then 1 else 0) ∧ Rf.onesF far k = (if j < k then 1 else 0)
  | 0 => by simp [Rf.sumF, Rf.onesF]
  | k + 1 => by
    obtain ⟨i1, i2⟩ := sum_one far j h k
    rw [Rf.sumF, Rf.onesF, i1, i2, h k]
    by_cases e : k = j
    · subst e
      simp
    · rw [if_neg e]
      by_cases e2 : j < k
      · have e3 : j < k + 1 := by omega
        simp [e2, e3]
      · have e3 : ¬ j < k + 1 := by omega
        simp only [if_neg e2, if_neg e3]
        simp
theorem sum_none (far : List Int) (h : ∀ i, far.getD i 0 = 0) : ∀ k, Rf.sumF far k = 0
  | 0 => rfl
  | k + 1 => by rw [Rf.sumF, sum_none far h k, h k]; rfl

theorem lists_good {sw dw ls ds nl : List Int} (h : Made sw dw ls ds nl) (h256 : 0 < sw.getD 256 0) : Rf.badLists (ls.take (trimF ls 257 286)) (ds.take (trimF ds 1 30)) = false := by
  obtain ⟨ws, hw1, hw2, hw3⟩ := h.s
  have a1 : Rf.full (ls.take (trimF ls 257 286)) = true := by rw [full_trim ls 257 286 hw3.len]; exact decide_eq_true (hw3.full hw2)
  have a2 := trimF_ge ls 257 286 (by omega)
  have a3 : (ls.take (trimF ls 257 286)).getD 256 0 ≠ 0 := by
    rw [getD_take, if_pos (by omega)]
    have := hw3.pos 256 ((heavy_mem ws 286 256).2 ⟨by omega, hw1.keep 256 h256⟩)
    omega
  have b0 := trimF_le ds 1 30
  have bl : (ds.take (trimF ds 1 30)).length = trimF ds 1 30 := by rw [List.length_take, h.d.len]; omega
  have bz := trimF_zero ds 1 30
  have b1 : Rf.full (ds.take (trimF ds 1 30)) = decide (Rf.fs ds 30 = 32768) := full_trim ds 1 30 h.d.len
  unfold Rf.badLists
  rw [a1, b1, bl, decide_eq_false a3]
  rcases Nat.lt_or_ge (heavy dw 30).length 2 with hlt | hge
  · rcases Nat.lt_or_ge (heavy dw 30).length 1 with h0 | h1
    · have e0 : heavy dw 30 = [] := List.eq_nil_of_length_eq_zero (by omega)
      have := sum_none (ds.take (trimF ds 1 30)) (fun i => by
        rw [getD_take, h.d.non i (by rw [e0]; simp)]
        simp) (trimF ds 1 30)
      rw [this]
      simp
    · obtain ⟨j, ej⟩ := List.length_eq_one_iff.1 (show (heavy dw 30).length = 1 by omega)
      have hj : ds.getD j 0 = 1 := h.d.one (by omega) j (by rw [ej]; simp)
      have hj30 : j < 30 := ((heavy_mem dw 30 j).1 (by rw [ej]; simp)).1
      have hjm : j < trimF ds 1 30 := by
        rcases Nat.lt_or_ge j (trimF ds 1 30) with q | q
        · exact q
        · have := bz j q hj30
          omega
      have hs := sum_one (ds.take (trimF ds 1 30)) j (fun i => by
        rw [getD_take]
        by_cases e : i = j
        · subst e
          rw [if_pos hjm, if_pos rfl, hj]
        · rw [if_neg e, h.d.non i (by rw [ej]; simpa using e)]
          simp) (trimF ds 1 30)
      rw [hs.1, hs.2, if_pos hjm, if_pos hjm]
      simp
  · rw [decide_eq_true (h.d.full hge)]
    simp
end Go.Proofs.YtmfijackgekioaaGreat

/-
  A part's tokens are the whole text's steps. For Deflates.
-/
namespace Go.Proofs.YtmfijackgekioaaGreat
open Go.RowKit

theorem fits_le (T : List UInt8) : ∀ {p q : Nat} {steps : List (Nat × Nat)}, Rf.Fits T p steps q → p ≤ q
  | _, _, [], h => Nat.le_of_eq h
  | _, _, _ :: _, h => Nat.le_trans (Nat.le_add_right _ _) (fits_le T h.2)

theorem fits_steps (T : List UInt8) (o n : Nat) : ∀ {p : Nat} {steps : List (Nat × Nat)}, Rf.Fits T (o + p) steps (o + n) → StepsOk n p steps
  | p, [], h => by
    have h : o + p = o + n := h
    show p ≤ n
    omega
  | p, s :: r, h => by
    obtain ⟨h1, h2⟩ := h
    rw [Nat.add_assoc] at h2
    have hle := fits_le T h2
    refine ⟨?_, fits_steps T o n h2⟩
    rcases h1 with ⟨a, b, _⟩ | ⟨a, b, c, d, _⟩
    · exact .inl ⟨a, b, by omega⟩
    · exact .inr ⟨a, b, c, d, by omega⟩

theorem nb_zero (x : Nat) : Rf.nb x 0 = [] := List.eq_nil_of_length_eq_zero (Rf.nb_length x 0)

theorem tok_all (ls ds : List Int) (T U : List UInt8) (o n : Nat) (hU : ∀ j, j < n → U.getD j 0 = T.getD (o + j) 0) : ∀ (p : Nat) (steps : List (Nat × Nat)), StepsOk n p steps →
    tokBits ls ds (toksOf U p steps) = Rf.allBits (Rf.cbits ls) (Rf.cbits ds) T (o + p) steps
  | p, [], _ => by simp [toksOf, tokBits, Rf.allBits, nb_zero]
  | p, s :: r, h => by
    have ih := tok_all ls ds T U o n hU (p + s.1) r h.2
    have e : tokBits ls ds (stepToks U p s ++ toksOf U (p + s.1) r) = tokBits ls ds (stepToks U p s) ++ tokBits ls ds (toksOf U (p + s.1) r) := by simp [tokBits]
    rw [toksOf, Rf.allBits, e, ih, Nat.add_assoc]
    congr 1
    unfold stepToks Rf.stepBits
    by_cases h0 : s.2 = 0
    · have hp : p < n := by
        rcases h.1 with ⟨_, _, q⟩ | ⟨_, _, q, _⟩
        · exact q
        · omega
      rw [if_pos h0, if_pos h0, hU p hp]
      simp [tokBits, nb_zero]
    · rw [if_neg h0, if_neg h0]
      simp [tokBits]
end Go.Proofs.YtmfijackgekioaaGreat
