import Derived.Test.YtmfijackgekioaaGreatDoorQLc
import Derived.Test.YtmfijackgekioaaGreatDoorQLbLm3
import Derived.Test.YtmfijackgekioaaGreatDoorLs

/-
  The chunks in their order: the program. For Decodes.
-/
namespace Go.Proofs.YtmfijackgekioaaGreatDoor
open Go.RowKit Go.Maps

/-- A list of chunks as a value. -/
structure ChV (w : World) (v : Value) (L : List Ch) : Prop where
  shape : (L = [] ∧ v = .slice none 0 0) ∨ ∃ g cap, v = .slice (some ⟨g, 0, none⟩) L.length cap ∧ g < w.heap.size ∧ L.length ≤ cap ∧ ∀ j, j < L.length → w.cell? ⟨g, j * 2, none⟩ = some (.string (L.getD j ⟨⟨#[]⟩, ⟨#[]⟩⟩).name) ∧ w.cell? ⟨g, j * 2 + 1, none⟩ = some (.string (L.getD j ⟨⟨#[]⟩, ⟨#[]⟩⟩).data)
theorem ch_at (L : List Ch) (j : Nat) (h : j < L.length) : (chCells L)[j * 2]? = some (.string (L.getD j ⟨⟨#[]⟩, ⟨#[]⟩⟩).name) ∧ (chCells L)[j * 2 + 1]? = some (.string (L.getD j ⟨⟨#[]⟩, ⟨#[]⟩⟩).data) := by
  induction L generalizing j with
  | nil => simp at h
  | cons x r ih =>
    have e : chCells (x :: r) = [.string x.name, .string x.data] ++ chCells r := by simp [chCells]
    cases j with
    | zero => rw [e]; exact ⟨rfl, rfl⟩
    | succ j =>
      have := ih j (by simpa using h)
      rw [e, show (j + 1) * 2 = 2 + j * 2 by omega, show 2 + j * 2 + 1 = 2 + (j * 2 + 1) by omega]
      rw [List.getElem?_append_right (by simp), List.getElem?_append_right (by simp)]
      simpa using this
theorem Chl.val {w : World} {X : Nat} {L : List Ch} {v : Value} (h : Chl w X L v) : ChV w v L := by
  constructor
  rcases h.own.2 with ⟨hv, h0⟩ | ⟨g, cap, cur, hv, hg, hblk, hnc, hcm, hcs, htake⟩
  · exact .inl ⟨List.eq_nil_of_length_eq_zero h0, hv⟩
  · refine .inr ⟨g, cap, hv, lt_of_block hblk, hnc, fun j hj => ?_⟩
    obtain ⟨a, b⟩ := ch_at L j hj
    have hl := chCells_length L
    rw [← htake, List.getElem?_take, if_pos (by omega), Array.getElem?_toList] at a b
    exact ⟨(cell_at hblk _).trans a, (cell_at hblk _).trans b⟩

/-- What the order comes to. -/
inductive EndsP (L : List Ch) (w : World) : Ending → World → Prop
  | no {w'} : ordOf L = none → Below w.heap.size w w' → EndsP L w (dies 12) w'
  | ok {w' P} : ordOf L = some P → Below w.heap.size w w' → EndsP L w (.returned (.agg #[.string P.head, .bool P.pal.isSome, .string (P.pal.getD ⟨#[]⟩), .string P.data])) w'

theorem ord_none {L : List Ch} (h : ordF (firstC L).name [] none (midC L) = none) : ordOf L = none := by
  unfold ordOf
  split
  · rw [h]
  · rfl
theorem ord_some {L : List Ch} {d : List ByteArray} {p : Option ByteArray} (he : endsOk L = true) (h : ordF (firstC L).name [] none (midC L) = some (d, p)) : ordOf L = if d.isEmpty = true then none else some ⟨(firstC L).data, p, catB d⟩ := by
  unfold ordOf
  rw [if_pos he, h]
theorem mid_length {L : List Ch} {n : Nat} (hn : L.length = n + 2) : (midC L).length = n := by
  unfold midC
  rw [List.length_drop, List.length_take]
  omega
theorem mid_drop {L : List Ch} {n k : Nat} (hn : L.length = n + 2) (hk : k < n) : (midC L).drop k = L.getD (k + 1) ⟨⟨#[]⟩, ⟨#[]⟩⟩ :: (midC L).drop (k + 1) := by
  have hm := mid_length hn
  rw [List.drop_eq_getElem_cons (by omega)]
  congr 1
  unfold midC
  rw [List.getElem_drop, List.getElem_take, List.getD_eq_getElem?_getD, List.getElem?_eq_getElem (by omega)]
  simp only [Option.getD_some]
  congr 1
  omega
theorem mid_end {L : List Ch} {n : Nat} (hn : L.length = n + 2) : (midC L).drop n = [] := List.drop_eq_nil_of_le (by rw [mid_length hn]; exact Nat.le_refl _)

set_option maxRecDepth 100000 in
set_option maxHeartbeats 1000000 in
theorem neededP (nm dt : ByteArray) (w : World) (h : 0 < nm.size) :
    Calls Tryz.prog 172 #[.agg #[.string nm, .string dt]] w fun e w' => e = .returned (.bool (capB (byteAt nm 0))) ∧ Below w.heap.size w w' := by
  have hb := byteAt_eq nm 0 h
  have hb2 := byteAt_lt nm 0
  have hcap := fun v => capitalP (byteAt nm 0) v
  have h0 : (0 : Int) < (nm.size : Int) := by omega
  generalize byteAt nm 0 = c at *
  generalize capB c = cb at *
  go_enter Tryz.func172, Tryz.ntmps172
  go_wp2_with (go_at_call 201; refine (hcap _).mono ?_; rintro e w' ⟨rfl, rfl⟩)
  go_ret
  exact ⟨rfl, below_alloc _ _⟩

theorem Tryz.infoStr : (Tryz.prog.info? 9).map (fun i => (i.zero, i.size, i.bytes)) = some (some (.string ⟨#[]⟩), 1, 16) := by kernel_rfl
abbrev strs (d : List ByteArray) : List Value := d.map Value.string
/-- One string more behind a list of strings. -/
theorem push_str {u : World} {base : Nat} {v : Value} {d : List ByteArray} (h : u.ownsRow base 9 1 v d.length (strs d)) (x : ByteArray) (hd : d.length ≤ 100000000) (hb : base ≤ u.heap.size) (ty : TypeId) :
    ∃ v' w', (Builtin.append_ #[209, 209] ty #[v, .slice (some ⟨u.heap.size, 0, none⟩) 1 1]).run Tryz.prog (u.alloc (.cells #[.string x] 9)) = .ok v' w' ∧ w'.ownsRow base 9 1 v' (d ++ [x]).length (strs (d ++ [x])) ∧ (u.alloc (.cells #[.string x] 9)).grownBy w' v.ownBlock := by
  obtain ⟨i0, hi, hz0, hz1, hz2⟩ := info_parts Tryz.infoStr
  have hq := blk_new u (.cells #[.string x] 9)
  obtain ⟨v', w', hr, ho', hg', _, _⟩ := run_append_own_at (P := Tryz.prog) (u.alloc (.cells #[.string x] 9)) base 209 ty 9 i0 _ 1 16 Tryz.underlying209 hi hz0 hz1 hz2 rfl (by decide) v d.length (strs d) (h.alloc _) ⟨u.heap.size, 0, none⟩ 1 1 [.string x] rfl (fun j y hj => by
      rw [add_at, Nat.zero_add, cell_at hq]
      simpa using hj) (fun y hy => by
      simp only [List.mem_cons, List.not_mem_nil, or_false] at hy
      rw [hy]; rfl) (by unfold maxLen; omega) (by omega) (by simp; omega)
  refine ⟨v', w', hr, ?_, hg'⟩
  have e : strs (d ++ [x]) = strs d ++ [.string x] := by simp [strs]
  rw [e, List.length_append]
  exact ho'

theorem Tryz.infoParts : (Tryz.prog.info? 116).map (·.size) = some 4 := by kernel_rfl
/-- How much the chunks hold. -/
def sumC (L : List Ch) : Nat := (L.map fun c => c.data.size).sum
theorem catB_snoc (d : List ByteArray) (x : ByteArray) : (catB (d ++ [x])).size = (catB d).size + x.size := by
  induction d with
  | nil => simp only [List.nil_append, catB, ByteArray.size_append]; omega
  | cons y r ih => simp only [List.cons_append, catB, ByteArray.size_append, ih]; omega
theorem ord_size (a : ByteArray) (d : List ByteArray) (p : Option ByteArray) (M : List Ch) (d' : List ByteArray) (p' : Option ByteArray) (h : ordF a d p M = some (d', p')) : (catB d').size ≤ (catB d).size + sumC M := by
  induction M generalizing a d p with
  | nil =>
    simp only [ordF, Option.some.injEq, Prod.mk.injEq] at h
    rw [h.1]
    exact Nat.le_add_right _ _
  | cons c r ih =>
    have es : sumC (c :: r) = c.data.size + sumC r := by simp [sumC]
    unfold ordF at h
    split at h
    · have := ih _ _ _ h
      rw [catB_snoc] at this
      omega
    · split at h
      · have := ih _ _ _ h
        omega
      · split at h
        · cases h
        · have := ih _ _ _ h
          omega
theorem sumC_mid (L : List Ch) : sumC (midC L) ≤ sumC L := by
  have h1 : ∀ (M : List Ch) k, sumC (M.take k) ≤ sumC M := fun M k => by
    conv => rhs; rw [← List.take_append_drop k M]
    unfold sumC
    rw [List.map_append, List.sum_append]
    omega
  have h2 : ∀ (M : List Ch) k, sumC (M.drop k) ≤ sumC M := fun M k => by
    conv => rhs; rw [← List.take_append_drop k M]
    unfold sumC
    rw [List.map_append, List.sum_append]
    omega
  exact Nat.le_trans (h2 _ _) (h1 _ _)
theorem join_cat (d : List ByteArray) : Lib.join (d.map (·.data.toList)) [] = (catB d).data.toList := by
  induction d with
  | nil => rfl
  | cons x r ih =>
    rw [List.map_cons, Lib.join_cons]
    have e : Lib.joinTail [] (r.map (·.data.toList)) = Lib.join (r.map (·.data.toList)) [] := by
      cases r with
      | nil => rfl
      | cons y t => rw [List.map_cons, Lib.join_cons]; simp [Lib.joinTail]
    rw [e, ih]
    simp [catB, ByteArray.data_append]

set_option maxRecDepth 100000 in
set_option maxHeartbeats 1000000 in
theorem inOrderP (L : List Ch) (v : Value) (w : World) (hv : ChV w v L) (hL : L.length ≤ 100000000) (htot : sumC L ≤ 100000000000) (hnm : ∀ c ∈ L, 0 < c.name.size) :
    Calls Tryz.prog 128 #[v] w fun e w' => EndsP L w e w' := by
  have HT : Hid (sumC L ≤ 100000000000) := htot
  clear htot
  by_cases h2 : L.length < 2
  · have HE : Hid (ordOf L = none) := by
      show _ = _
      unfold ordOf endsOk
      rw [decide_eq_false (by omega), Bool.false_and, if_neg (by decide)]
    have h2i : (L.length : Int) - 1 < 1 := by omega
    obtain ⟨ao, cap, rfl⟩ : ∃ ao cap, v = .slice ao L.length cap := by
      rcases hv.shape with ⟨rfl, rfl⟩ | ⟨g, cap, rfl, _⟩
      · exact ⟨_, _, rfl⟩
      · exact ⟨_, _, rfl⟩
    clear hv
    generalize L.length = n at *
    go_enter Tryz.func128, Tryz.ntmps128
    go_wp2
    exact ⟨rfl, .no HE.out (below_alloc _ _)⟩
  · obtain ⟨g, cap, rfl, hg, hcap, hc⟩ : ∃ g cap, v = .slice (some ⟨g, 0, none⟩) L.length cap ∧ g < w.heap.size ∧ L.length ≤ cap ∧ ∀ j, j < L.length → w.cell? ⟨g, j * 2, none⟩ = some (.string (L.getD j ⟨⟨#[]⟩, ⟨#[]⟩⟩).name) ∧ w.cell? ⟨g, j * 2 + 1, none⟩ = some (.string (L.getD j ⟨⟨#[]⟩, ⟨#[]⟩⟩).data) := by
      rcases hv.shape with ⟨rfl, rfl⟩ | h
      · simp at h2
      · exact h
    obtain ⟨n, hn⟩ : ∃ n, L.length = n + 2 := ⟨L.length - 2, by omega⟩
    have f0 := hc 0 (by omega)
    have f1 := hc (n + 1) (by omega)
    have HC : Hid (∀ j, j < L.length → w.cell? ⟨g, j * 2, none⟩ = some (.string (L.getD j ⟨⟨#[]⟩, ⟨#[]⟩⟩).name) ∧ w.cell? ⟨g, j * 2 + 1, none⟩ = some (.string (L.getD j ⟨⟨#[]⟩, ⟨#[]⟩⟩).data)) := hc
    have hl1 : ((n : Int) + 2 - 1) = (n : Int) + 1 := by omega
    have HNM : Hid (∀ j, j < L.length → 0 < (L.getD j ⟨⟨#[]⟩, ⟨#[]⟩⟩).name.size) := fun j hj => hnm _ (by rw [List.getD_eq_getElem?_getD, List.getElem?_eq_getElem hj]; exact List.getElem_mem _)
    clear hv hc h2 hnm
    rw [hn]
    generalize hF : L.getD 0 ⟨⟨#[]⟩, ⟨#[]⟩⟩ = F at *
    generalize hLa : L.getD (n + 1) ⟨⟨#[]⟩, ⟨#[]⟩⟩ = La at *
    have hn1 : ¬ (n : Int) + 1 < 1 := by omega
    have HEO : Hid (endsOk L = ((F.name.toList == [73, 72, 68, 82]) && ((La.name.toList == [73, 69, 78, 68]) && La.data.toList.isEmpty))) := by
      show _ = _
      unfold endsOk firstC lastC isN
      rw [hn, show n + 2 - 1 = n + 1 by omega, hF, hLa, decide_eq_true (by omega), Bool.true_and]
    cases hq1 : (F.name.toList == [73, 72, 68, 82])
    · have HNO : Hid (ordOf L = none) := by show _ = _; unfold ordOf; rw [HEO.out, hq1, Bool.false_and, if_neg (by decide)]
      go_enter Tryz.func128, Tryz.ntmps128
      go_wp2
      exact ⟨rfl, .no HNO.out (below_alloc _ _)⟩
    · cases hq2 : (La.name.toList == [73, 69, 78, 68])
      · have HNO : Hid (ordOf L = none) := by show _ = _; unfold ordOf; rw [HEO.out, hq1, hq2, Bool.false_and, Bool.and_false, if_neg (by decide)]
        go_enter Tryz.func128, Tryz.ntmps128
        go_wp2
        exact ⟨rfl, .no HNO.out (below_alloc _ _)⟩
      · cases hq3 : La.data.toList.isEmpty
        · have HNO : Hid (ordOf L = none) := by show _ = _; unfold ordOf; rw [HEO.out, hq1, hq2, hq3, Bool.and_false, Bool.and_false, if_neg (by decide)]
          go_enter Tryz.func128, Tryz.ntmps128
          go_wp2
          exact ⟨rfl, .no HNO.out (below_alloc _ _)⟩
        · have HEN : Hid (endsOk L = true) := by show _ = _; rw [HEO.out, hq1, hq2, hq3]; rfl
          have hfc : firstC L = F := hF
          have HON : Hid (ordF F.name [] none (midC L) = none → ordOf L = none) := fun h => ord_none (by rw [hfc]; exact h)
          have HOS : Hid (∀ d p, ordF F.name [] none (midC L) = some (d, p) → ordOf L = if d.isEmpty = true then none else some ⟨F.data, p, catB d⟩) := fun d p h => by rw [ord_some HEN.out (by rw [hfc]; exact h), hfc]
          obtain ⟨k0, q0, q1⟩ := two_boxes w (.cells #[.string ⟨#[]⟩, .bool false, .string ⟨#[]⟩, .string ⟨#[]⟩] 116) (.cells #[.string F.data, .bool false, .string ⟨#[]⟩, .string ⟨#[]⟩] 116)
          have HF0 : Hid (L.getD 0 ⟨⟨#[]⟩, ⟨#[]⟩⟩ = F) := hF
          clear hfc hF
          go_enter Tryz.func128, Tryz.ntmps128
          go_wp2
          clear HEO hq1 hq2 hq3 hLa
          go_loopw [5, 39] (fun dv kv wr => ∃ (k : Nat) (d : List ByteArray) (p : Option ByteArray), kv = .int .i64 k ∧ k ≤ n ∧ Hid (ordF F.name [] none (midC L) = ordF (L.getD k ⟨⟨#[]⟩, ⟨#[]⟩⟩).name d p ((midC L).drop k)) ∧ Hid (wr.heap[w.heap.size + 1]? = some (.cells #[.string F.data, .bool p.isSome, .string (p.getD ⟨#[]⟩), .string ⟨#[]⟩] 116 (0, 0))) ∧ Hid (wr.heap[w.heap.size]? = some (.cells #[.string ⟨#[]⟩, .bool false, .string ⟨#[]⟩, .string ⟨#[]⟩] 116 (0, 0))) ∧ Hid (wr.ownsRow (w.heap.size + 2) 9 1 dv d.length (strs d)) ∧ Hid (d.length ≤ k) ∧ Below w.heap.size w wr) (fun _ kv _ => n - (intOf kv).toNat)
          case atStart => exact ⟨0, [], none, rfl, Nat.zero_le _, by show _ = _; rw [HF0.out]; rfl, q1, q0, ⟨rfl, .inl ⟨rfl, rfl⟩⟩, Nat.le_refl _, k0⟩
          case round =>
            clear q0 q1 k0
            obtain ⟨k, d, p, rfl, hkn, HO, HP, HR, HD, HDL, hbl⟩ := hrel
            by_cases hlt : k < n
            · have hlti : (k : Int) < (n : Int) := by omega
              have HMD : Hid ((midC L).drop k = L.getD (k + 1) ⟨⟨#[]⟩, ⟨#[]⟩⟩ :: (midC L).drop (k + 1)) := mid_drop hn hlt
              have ca := HC.out k (by omega)
              have cc := HC.out (k + 1) (by omega)
              have c1 : wr.cell? ⟨g, k * 2, none⟩ = some (.string (L.getD k ⟨⟨#[]⟩, ⟨#[]⟩⟩).name) := (hbl.cell (p := ⟨g, k * 2, none⟩) hg).trans ca.1
              have c2 : wr.cell? ⟨g, 2 + k * 2, none⟩ = some (.string (L.getD (k + 1) ⟨⟨#[]⟩, ⟨#[]⟩⟩).name) := (hbl.cell (p := ⟨g, 2 + k * 2, none⟩) hg).trans (by rw [show 2 + k * 2 = (k + 1) * 2 by omega]; exact cc.1)
              have c3 : wr.cell? ⟨g, 2 + k * 2 + 1, none⟩ = some (.string (L.getD (k + 1) ⟨⟨#[]⟩, ⟨#[]⟩⟩).data) := (hbl.cell (p := ⟨g, 2 + k * 2 + 1, none⟩) hg).trans (by rw [show 2 + k * 2 + 1 = (k + 1) * 2 + 1 by omega]; exact cc.2)
              have hnc := HNM.out (k + 1) (by omega)
              clear ca cc
              generalize L.getD k ⟨⟨#[]⟩, ⟨#[]⟩⟩ = A at *
              generalize hck : L.getD (k + 1) ⟨⟨#[]⟩, ⟨#[]⟩⟩ = c at *
              have HCK : Hid (L.getD (k + 1) ⟨⟨#[]⟩, ⟨#[]⟩⟩ = c) := hck
              clear hck
              have hgw : g < wr.heap.size := Nat.lt_of_lt_of_le hg hbl.size
              have kU := below_alloc wr (.cells #[.string c.name, .string c.data] 94)
              have hCU := blk_new wr (.cells #[.string c.name, .string c.data] 94)
              have hPU := (kU.block _ (lt_of_block HP.out)).trans HP.out
              have hRU := (kU.block _ (lt_of_block HR.out)).trans HR.out
              have hDU := HD.out.alloc (.cells #[.string c.name, .string c.data] 94)
              have BU : Below w.heap.size w (wr.alloc (.cells #[.string c.name, .string c.data] 94)) := hbl.trans (kU.mono hbl.size)
              have hwlt : w.heap.size + 2 ≤ wr.heap.size := by have := lt_of_block HP.out; omega
              have hned := fun v => neededP c.name c.data v hnc
              have HCAP : Hid (isN c.name nIDAT = true ∨ isN c.name nPLTE = true → capB (byteAt c.name 0) = true) := fun h => by
                rcases h with h | h <;> (have := isN_eq h; unfold byteAt; rw [this]; rfl)
              have HIP : Hid (isN c.name nIDAT = true → isN c.name nPLTE = false) := fun h => isN_other h (by decide)
              rw [HMD.out] at HO
              have HO2 : Hid (ordF F.name [] none (midC L) = if (isN c.name nIDAT && (d.isEmpty || isN A.name nIDAT)) = true then ordF c.name (d ++ [c.data]) p ((midC L).drop (k + 1)) else if (isN c.name nPLTE && d.isEmpty && p.isNone) = true then ordF c.name d (some c.data) ((midC L).drop (k + 1)) else if capB (byteAt c.name 0) = true then none else ordF c.name d p ((midC L).drop (k + 1))) := HO.out
              have hps := push_str hDU c.data (by have := HDL.out; omega) (by simp; omega) 209
              have HPS : Hid (_) := hps
              have HDE : Hid (d.isEmpty = decide (d.length = 0)) := by show _ = _; cases d <;> rfl
              obtain ⟨oa, oc, hdv⟩ := own_slice HD.out
              subst hdv
              have hneU : w.heap.size + 1 ≠ wr.heap.size := by omega
              clear HMD HO HP HR hps hbl kU HNM
              have eI : isN c.name nIDAT = (c.name.toList == [73, 68, 65, 84]) := rfl
              have eA : isN A.name nIDAT = (A.name.toList == [73, 68, 65, 84]) := rfl
              have eP : isN c.name nPLTE = (c.name.toList == [80, 76, 84, 69]) := rfl
              rw [eI, eA, eP, HDE.out] at HO2
              rw [eI, eP] at HCAP HIP
              clear eI eA eP HDE
              generalize hbI : (c.name.toList == [73, 68, 65, 84]) = bI at *
              generalize hbA : (A.name.toList == [73, 68, 65, 84]) = bA at *
              generalize hbP : (c.name.toList == [80, 76, 84, 69]) = bP at *
              generalize capB (byteAt c.name 0) = cB at *
              generalize hm : d.length = m at *
              have HM : Hid (d.length = m) := hm
              clear hm
              have hbP2 : bI = true → bP = false := HIP.out
              have hm0 : m = 0 ∨ (m ≠ 0 ∧ ((m : Int) == 0) = false) := by
                rcases Nat.eq_zero_or_pos m with h | h
                · exact .inl h
                · exact .inr ⟨by omega, by simp; omega⟩
              have HK : Hid (Below w.heap.size w (wr.alloc (.cells #[.string c.name, .string c.data] 94))) := BU
              obtain ⟨v', w2, hr, ho', hg'⟩ := HPS.out
              simp only [World.size_alloc] at hr
              have HG : Hid (w2.ownsRow (w.heap.size + 2) 9 1 v' (d ++ [c.data]).length (strs (d ++ [c.data])) ∧ w2.heap[w.heap.size + 1]? = some (.cells #[.string F.data, .bool p.isSome, .string (p.getD ⟨#[]⟩), .string ⟨#[]⟩] 116 (0, 0)) ∧ w2.heap[w.heap.size]? = some (.cells #[.string ⟨#[]⟩, .bool false, .string ⟨#[]⟩, .string ⟨#[]⟩] 116 (0, 0)) ∧ Below w.heap.size w w2) := by
                have hfar : ∀ j, j < w.heap.size + 2 → w2.heap[j]? = (wr.alloc (.cells #[.string c.name, .string c.data] 94)).heap[j]? := fun j hj => by
                  have hsz : j < (wr.alloc (.cells #[.string c.name, .string c.data] 94)).heap.size := by simp; omega
                  rw [hg'.block j (by simp; omega) (fun e => by have := (hDU.lt j e.symm).1; omega)]
                  exact (below_alloc (wr.alloc (.cells #[.string c.name, .string c.data] 94)) _).block j hsz
                refine ⟨ho', (hfar _ (by omega)).trans hPU, (hfar _ (by omega)).trans hRU, ?_⟩
                have hgr : Kp (fun j => (Value.slice oa m oc).ownBlock = some j) (wr.alloc (.cells #[.string c.name, .string c.data] 94)) w2 := Kp.grown (Kp.ofBelow (below_alloc _ _)) hg' (fun j hj => .inl hj)
                exact BU.trans (hgr.below (by simp; omega) (fun j _ hj => by have := (hDU.lt j hj).1; omega))
              obtain ⟨oa', oc', hv'⟩ := own_slice HG.out.1
              subst hv'
              obtain ⟨M, hM⟩ : ∃ M, (d ++ [c.data]).length = M := ⟨_, rfl⟩
              have HM2 : Hid ((d ++ [c.data]).length = M) := hM
              have HOW : Hid (w2.ownsRow (w.heap.size + 2) 9 1 (.slice oa' M oc') (d ++ [c.data]).length (strs (d ++ [c.data]))) := by have := HG.out.1; rw [hM] at this ⊢; exact this
              rw [hM] at hr
              have HDU : Hid ((wr.alloc (.cells #[.string c.name, .string c.data] 94)).ownsRow (w.heap.size + 2) 9 1 (.slice oa m oc) d.length (strs d)) := by show World.ownsRow _ _ _ _ _ _ _; rw [HM.out]; exact hDU
              have HPU : Hid (_) := hPU
              have HRU : Hid (_) := hRU
              have HEX : Hid (∀ (w3 : World), Below (wr.alloc (.cells #[.string c.name, .string c.data] 94)).heap.size (wr.alloc (.cells #[.string c.name, .string c.data] 94)) w3 → ordF F.name [] none (midC L) = ordF c.name d p ((midC L).drop (k + 1)) → ∃ (k' : Nat) (d' : List ByteArray) (p' : Option ByteArray), Value.int .i64 ((k : Int) + 1) = .int .i64 k' ∧ k' ≤ n ∧ Hid (ordF F.name [] none (midC L) = ordF (L.getD k' ⟨⟨#[]⟩, ⟨#[]⟩⟩).name d' p' ((midC L).drop k')) ∧ Hid (w3.heap[w.heap.size + 1]? = some (.cells #[.string F.data, .bool p'.isSome, .string (p'.getD ⟨#[]⟩), .string ⟨#[]⟩] 116 (0, 0))) ∧ Hid (w3.heap[w.heap.size]? = some (.cells #[.string ⟨#[]⟩, .bool false, .string ⟨#[]⟩, .string ⟨#[]⟩] 116 (0, 0))) ∧ Hid (w3.ownsRow (w.heap.size + 2) 9 1 (.slice oa m oc) d'.length (strs d')) ∧ Hid (d'.length ≤ k') ∧ Below w.heap.size w w3) := fun w3 hb ho => ⟨k + 1, d, p, rfl, hlt, by show _ = _; rw [ho, HCK.out], (hb.block _ (lt_of_block HPU.out)).trans HPU.out, (hb.block _ (lt_of_block HRU.out)).trans HRU.out, own_keep HDU.out (fun j hj => hb.block j (HDU.out.lt j hj).2), by show _ ≤ _; have := HM.out; have := HDL.out; omega, HK.out.trans (hb.mono (by simp; omega))⟩
              clear HPS ho' hg' hDU HD BU hM
              have hnx : n - (k + 1) < n - k := by omega
              cases bI
              · rw [Bool.false_and, if_neg (by decide)] at HO2
                cases bP
                · rw [Bool.false_and, Bool.false_and] at HO2
                  have HNX : Hid (ordF F.name [] none (midC L) = if cB = true then none else ordF c.name d p ((midC L).drop (k + 1))) := by show _ = _; rw [HO2.out]; exact if_neg (by decide)
                  clear HO2 hr
                  cases cB
                  · rw [if_neg (by decide)] at HNX
                    go_wp2_with fail
                    refine (hned _).mono ?_
                    rintro e w3 ⟨rfl, hb3⟩
                    go_wp2
                    go_roundw
                    case rel => exact HEX.out w3 hb3 HNX.out
                    case measure => exact hnx
                  · rw [if_pos rfl] at HNX
                    have HNO : Hid (ordOf L = none) := HON.out HNX.out
                    go_wp2_with fail
                    refine (hned _).mono ?_
                    rintro e w3 ⟨rfl, hb3⟩
                    go_wp2
                    exact ⟨rfl, .no HNO.out (HK.out.trans (hb3.mono (by simp; omega)))⟩
                · rw [Bool.true_and] at HO2
                  rcases hm0 with rfl | ⟨hm1, hm2⟩
                  · rw [decide_eq_true rfl, Bool.true_and] at HO2
                    cases p with
                    | none =>
                      have HNX : Hid (ordF F.name [] none (midC L) = ordF c.name d (some c.data) ((midC L).drop (k + 1))) := HO2.out
                      have pc1 := (cell_at hPU 1).trans (show _ = some (Value.bool false) from rfl)
                      have pc2 := (cell_at hPU 2).trans (show _ = some (Value.string ⟨#[]⟩) from rfl)
                      have pf := fun j => frozen_of_row _ (w.heap.size + 1) j _ _ hPU
                      have pl := lt_of_block hPU
                      clear HO2 hr
                      go_wp2
                      go_roundw
                      case rel =>
                        have hne1 : ∀ j, j ≠ w.heap.size + 1 → (((wr.alloc (.cells #[.string c.name, .string c.data] 94)).setCell ⟨w.heap.size + 1, 2, none⟩ (.string c.data)).setCell ⟨w.heap.size + 1, 1, none⟩ (.bool true)).heap[j]? = (wr.alloc (.cells #[.string c.name, .string c.data] 94)).heap[j]? := fun j hj => (Below.heap_setCell _ ⟨w.heap.size + 1, 1, none⟩ _ j (fun e => by dsimp only at e; omega)).trans (Below.heap_setCell _ ⟨w.heap.size + 1, 2, none⟩ _ j (fun e => by dsimp only at e; omega))
                        refine ⟨k + 1, d, some c.data, rfl, hlt, by show _ = _; rw [HNX.out, HCK.out], ?_, (hne1 _ (by omega)).trans HRU.out, own_keep HDU.out (fun j hj => hne1 j (fun e => by have := (HDU.out.lt j hj).1; omega)), by show _ ≤ _; rw [HM.out]; exact Nat.zero_le _, ?_⟩
                        · exact (heap_setCell_same _ (w.heap.size + 1) 1 _ _ _ ((heap_setCell_same _ (w.heap.size + 1) 2 _ _ _ HPU.out).trans rfl)).trans rfl
                        · exact (HK.out.setCell (p := ⟨w.heap.size + 1, 2, none⟩) (by dsimp only; omega) _).setCell (p := ⟨w.heap.size + 1, 1, none⟩) (by dsimp only; omega) _
                      case measure => exact hnx
                    | some p0 =>
                      have HNX : Hid (ordF F.name [] none (midC L) = if cB = true then none else ordF c.name d (some p0) ((midC L).drop (k + 1))) := by show _ = _; rw [HO2.out]; exact if_neg (by simp)
                      clear HO2 hr
                      have pc1 := (cell_at hPU 1).trans (show _ = some (Value.bool true) from rfl)
                      cases cB
                      · rw [if_neg (by decide)] at HNX
                        go_wp2_with fail
                        refine (hned _).mono ?_
                        rintro e w3 ⟨rfl, hb3⟩
                        go_wp2
                        go_roundw
                        case rel => exact HEX.out w3 hb3 HNX.out
                        case measure => exact hnx
                      · rw [if_pos rfl] at HNX
                        have HNO : Hid (ordOf L = none) := HON.out HNX.out
                        go_wp2_with fail
                        refine (hned _).mono ?_
                        rintro e w3 ⟨rfl, hb3⟩
                        go_wp2
                        exact ⟨rfl, .no HNO.out (HK.out.trans (hb3.mono (by simp; omega)))⟩
                  · rw [decide_eq_false hm1, Bool.false_and] at HO2
                    have HNX : Hid (ordF F.name [] none (midC L) = if cB = true then none else ordF c.name d p ((midC L).drop (k + 1))) := by show _ = _; rw [HO2.out]; exact if_neg (by decide)
                    clear HO2 hr
                    cases cB
                    · rw [if_neg (by decide)] at HNX
                      go_wp2_with fail
                      refine (hned _).mono ?_
                      rintro e w3 ⟨rfl, hb3⟩
                      go_wp2
                      go_roundw
                      case rel => exact HEX.out w3 hb3 HNX.out
                      case measure => exact hnx
                    · rw [if_pos rfl] at HNX
                      have HNO : Hid (ordOf L = none) := HON.out HNX.out
                      go_wp2_with fail
                      refine (hned _).mono ?_
                      rintro e w3 ⟨rfl, hb3⟩
                      go_wp2
                      exact ⟨rfl, .no HNO.out (HK.out.trans (hb3.mono (by simp; omega)))⟩
              · rcases hm0 with rfl | ⟨hm1, hm2⟩
                · go_wp2_with (at_builtin; refine Lib.wpList_append_run _ rfl _ _ _ _ rfl _ _ rfl rfl _ _ hr ?_)
                  go_roundw
                  case rel => exact ⟨k + 1, d ++ [c.data], p, rfl, hlt, by show _ = _; rw [HO2.out, HCK.out]; rfl, HG.out.2.1, HG.out.2.2.1, HOW, by show _ ≤ _; rw [List.length_append, HM.out]; simp, HG.out.2.2.2⟩
                  case measure => exact hnx
                · cases bA
                  · have HNO : Hid (ordOf L = none) := HON.out (by rw [HO2.out, HCAP.out (.inl rfl), hbP2 rfl, decide_eq_false hm1]; rfl)
                    have hcb : cB = true := HCAP.out (.inl rfl)
                    have hbp := hbP2 rfl
                    subst hcb
                    subst hbp
                    clear HCAP HIP hbP2 HO2 hr
                    go_wp2_with fail
                    refine (hned _).mono ?_
                    rintro e w3 ⟨rfl, hb3⟩
                    go_wp2
                    exact ⟨rfl, .no HNO.out (HK.out.trans (hb3.mono (by simp; omega)))⟩
                  · go_wp2_with (at_builtin; refine Lib.wpList_append_run _ rfl _ _ _ _ rfl _ _ rfl rfl _ _ hr ?_)
                    go_roundw
                    case rel => exact ⟨k + 1, d ++ [c.data], p, rfl, hlt, by show _ = _; rw [HO2.out, HCK.out, Bool.or_true]; rfl, HG.out.2.1, HG.out.2.2.1, HOW, by show _ ≤ _; have := HM.out; have := HDL.out; rw [List.length_append]; simp; omega, HG.out.2.2.2⟩
                    case measure => exact hnx
            · have hke : k = n := by omega
              subst hke
              have HE : Hid (ordF F.name [] none (midC L) = some (d, p)) := by show _ = _; rw [HO.out, mid_end hn]; rfl
              have hnl : ¬ (k : Int) < (k : Int) := by omega
              have HOL := HOS.out d p HE.out
              have HOL2 : Hid (_) := HOL
              obtain ⟨oa, oc, hdv⟩ := own_slice HD.out
              subst hdv
              clear HOL HO HOS HON
              rcases Nat.eq_zero_or_pos d.length with hd0 | hd0
              · have HNO : Hid (ordOf L = none) := by show _ = _; rw [HOL2.out, if_pos (by simpa using hd0)]
                clear HOL2 HE
                generalize d.length = m at *
                subst hd0
                go_wp2
                exact ⟨rfl, .no HNO.out hbl⟩
              · have HYE : Hid (ordOf L = some ⟨F.data, p, catB d⟩) := by show _ = _; rw [HOL2.out, if_neg (by simp; intro e; rw [e] at hd0; simp at hd0)]
                obtain ⟨g2, cap2, rfl, rfl, hg2, hcap2, hc2⟩ : ∃ g2 cap2, oa = some ⟨g2, 0, none⟩ ∧ oc = cap2 ∧ g2 < wr.heap.size ∧ d.length ≤ cap2 ∧ ∀ (j : Nat) x, d[j]? = some x → wr.cell? ⟨g2, 0 + j, none⟩ = some (.string x) := by
                  rcases HD.out.2 with ⟨_, h0⟩ | ⟨g2, cap2, cur, hv2, _, hblk, hnc, _, _, htake⟩
                  · omega
                  · injection hv2 with e1 e2 e3
                    refine ⟨g2, cap2, e1, e3, lt_of_block hblk, hnc, fun j x hj => ?_⟩
                    have hjl : j < d.length := (List.getElem?_eq_some_iff.mp hj).1
                    have hx : (strs d)[j]? = some (.string x) := by rw [List.getElem?_map, hj]; rfl
                    rw [← htake, List.getElem?_take, if_pos (by omega), Array.getElem?_toList] at hx
                    rw [Nat.zero_add, cell_at hblk]
                    exact hx
                have hjo := Tryz.strings_Join g2 0 oc d ⟨#[]⟩ wr hc2 hg2 (by have := HDL.out; omega) hcap2 (by
                  show (Lib.join _ []).length ≤ _
                  rw [join_cat]
                  have h9 := ord_size _ _ _ _ _ _ HE.out
                  have h8 := sumC_mid L
                  have h7 := HT.out
                  have h6 : (catB []).size = 0 := rfl
                  have h5 : (catB d).data.toList.length = (catB d).size := Array.length_toList
                  omega)
                have ej : (⟨(Lib.join (d.map (·.data.toList)) ([] : List UInt8)).toArray⟩ : ByteArray) = catB d := by rw [join_cat]
                have hjo2 : Calls Tryz.prog 173 #[.slice (some ⟨g2, 0, none⟩) d.length oc, .string ⟨#[]⟩] wr fun e w' => e = .returned (.string (catB d)) ∧ Below wr.heap.size wr w' := hjo.mono (by
                  rintro e w' ⟨rfl, hb⟩
                  exact ⟨congrArg (fun x => Ending.returned (Value.string x)) ej, hb⟩)
                have hdn : ((d.length : Int) == 0) = false := by rw [beq_eq_false_iff_ne]; intro e; omega
                clear hjo ej hc2 hcap2 hg2 HD HE HOL2 HDL HT HC HNM
                generalize d.length = m at *
                generalize catB d = D at *
                go_wp2_with fail
                refine hjo2.mono ?_
                rintro e w4 ⟨rfl, hb4⟩
                have P4 := (hb4.block _ (lt_of_block HP.out)).trans HP.out
                have R4 := (hb4.block _ (lt_of_block HR.out)).trans HR.out
                have B4 : Below w.heap.size w w4 := hbl.trans (hb4.mono hbl.size)
                have pc0 := (cell_at P4 0).trans (show _ = some (Value.string F.data) from rfl)
                have pc1 := (cell_at P4 1).trans (show _ = some (Value.bool p.isSome) from rfl)
                have pc2 := (cell_at P4 2).trans (show _ = some (Value.string (p.getD ⟨#[]⟩)) from rfl)
                have pc3 := (cell_at P4 3).trans (show _ = some (Value.string ⟨#[]⟩) from rfl)
                have pf := fun j => frozen_of_row _ (w.heap.size + 1) j _ _ P4
                have pl := lt_of_block P4
                have rf := fun j => frozen_of_row _ w.heap.size j _ _ R4
                have rl := lt_of_block R4
                have rc0 := (cell_at R4 0).trans (show _ = some (Value.string ⟨#[]⟩) from rfl)
                have rc1 := (cell_at R4 1).trans (show _ = some (Value.bool false) from rfl)
                have rc2 := (cell_at R4 2).trans (show _ = some (Value.string ⟨#[]⟩) from rfl)
                have rc3 := (cell_at R4 3).trans (show _ = some (Value.string ⟨#[]⟩) from rfl)
                clear hjo2 hb4 hbl HP HR
                go_wp2
                have hend := (heap_setCell_same _ w.heap.size 3 _ _ (.string D) ((heap_setCell_same _ w.heap.size 2 _ _ (.string (p.getD ⟨#[]⟩)) ((heap_setCell_same _ w.heap.size 1 _ _ (.bool p.isSome) ((heap_setCell_same _ w.heap.size 0 _ _ (.string F.data) ((Below.heap_setCell w4 ⟨w.heap.size + 1, 3, none⟩ (.string D) w.heap.size (fun e => by dsimp only at e; omega)).trans R4)).trans rfl)).trans rfl)).trans rfl)).trans (show _ = some (Obj.cells #[.string F.data, .bool p.isSome, .string (p.getD ⟨#[]⟩), .string D] 116 (0, 0)) from rfl)
                exact bodyPost_ret (v := .agg #[.string F.data, .bool p.isSome, .string (p.getD ⟨#[]⟩), .string D]) (results_cell_row rfl _ _ w.heap.size 116 _ (0, 0) _ rfl hend Tryz.underlying116 rfl Tryz.infoParts) rfl (.ok HYE.out (((((B4.setCell (p := ⟨w.heap.size + 1, 3, none⟩) (by dsimp only; omega) _).setCell (p := ⟨w.heap.size, 0, none⟩) (by dsimp only; omega) _).setCell (p := ⟨w.heap.size, 1, none⟩) (by dsimp only; omega) _).setCell (p := ⟨w.heap.size, 2, none⟩) (by dsimp only; omega) _).setCell (p := ⟨w.heap.size, 3, none⟩) (by dsimp only; omega) _))
end Go.Proofs.YtmfijackgekioaaGreatDoor

/-
  The parts of a file: the program. For Decodes.
-/
namespace Go.Proofs.YtmfijackgekioaaGreatDoor
open Go.RowKit Go.Maps

/-- What the chunks of some bytes measure. -/
theorem chF_sizes : ∀ (f : Nat) (b : ByteArray) (L : List Ch), chF f b = some L → 12 * L.length + sumC L = b.size ∧ ∀ c ∈ L, c.name.size = 4 ∧ letterN (byteAt c.name 0) = true
  | 0, _, _, h => by cases h
  | f + 1, b, L, h => by
    rw [chF] at h
    split at h
    · rename_i h0
      injection h with h
      subst h
      exact ⟨by rw [h0]; rfl, fun c hc => absurd hc (List.not_mem_nil)⟩
    · split at h
      · rename_i hk
        obtain ⟨l, hl, rfl⟩ := Option.map_eq_some_iff.mp h
        have hs := chRest_size hk
        have hz := chOk_size hk
        obtain ⟨a1, a2⟩ := chF_sizes f (chRest b) l hl
        have e1 : (chOf b).data.size = chLen b := by
          show (b.extract 8 (8 + chLen b)).size = _
          rw [ByteArray.size_extract]; omega
        have e2 : (chOf b).name.size = 4 := by
          show (b.extract 4 8).size = _
          rw [ByteArray.size_extract]; omega
        have e3 : sumC (chOf b :: l) = (chOf b).data.size + sumC l := by simp [sumC]
        refine ⟨by rw [e3, e1, List.length_cons]; omega, fun c hc => ?_⟩
        rcases List.mem_cons.mp hc with rfl | hc
        · refine ⟨e2, ?_⟩
          simp only [chOk, Bool.and_eq_true] at hk
          have h4 := hk.2.2.2.1
          simp only [lettersB, Bool.and_eq_true] at h4
          have e4 : byteAt (chOf b).name 0 = byteAt b 4 := by
            show byteAt (b.extract 4 8) 0 = _
            rw [byteAt_extract]
            all_goals omega
          rw [e4]
          exact h4.1
        · exact a2 c hc
      · cases h
theorem chunks_sizes {b : ByteArray} {L : List Ch} (h : chunksOf b = some L) : 12 * L.length + sumC L = b.size ∧ ∀ c ∈ L, c.name.size = 4 ∧ letterN (byteAt c.name 0) = true := chF_sizes _ _ _ h

/-- The parts of a file, or the error's number. -/
def partsOf (b : ByteArray) : Except Int Parts :=
  if sigB b = true then
    match chunksOf (b.extract 8 b.size) with
    | none => .error 11
    | some L => match ordOf L with
      | none => .error 12
      | some P => .ok P
  else .error 10
theorem parts_sig {b : ByteArray} (h : sigB b = false) : partsOf b = .error 10 := by unfold partsOf; rw [if_neg (by rw [h]; decide)]
theorem parts_bad {b : ByteArray} (h : sigB b = true) (hc : chunksOf (b.extract 8 b.size) = none) : partsOf b = .error 11 := by unfold partsOf; rw [if_pos h, hc]
theorem parts_no {b : ByteArray} {L : List Ch} (h : sigB b = true) (hc : chunksOf (b.extract 8 b.size) = some L) (ho : ordOf L = none) : partsOf b = .error 12 := by unfold partsOf; rw [if_pos h, hc]; dsimp only; rw [ho]
theorem parts_ok {b : ByteArray} {L : List Ch} {P : Parts} (h : sigB b = true) (hc : chunksOf (b.extract 8 b.size) = some L) (ho : ordOf L = some P) : partsOf b = .ok P := by unfold partsOf; rw [if_pos h, hc]; dsimp only; rw [ho]

/-- A value of the type parts. -/
abbrev partsV (P : Parts) : Value := .agg #[.string P.head, .bool P.pal.isSome, .string (P.pal.getD ⟨#[]⟩), .string P.data]
/-- What reading the parts comes to. -/
inductive EndsQ (b : ByteArray) (w : World) : Ending → World → Prop
  | no {w' c} : partsOf b = .error c → Below w.heap.size w w' → EndsQ b w (dies c) w'
  | ok {w' P} : partsOf b = .ok P → Below w.heap.size w w' → EndsQ b w (.returned (partsV P)) w'

set_option maxRecDepth 100000 in
set_option maxHeartbeats 1000000 in
theorem readPartsP (b : ByteArray) (w : World) (hs : b.size ≤ 1000000000) :
    Calls Tryz.prog 88 #[.string b] w fun e w' => EndsQ b w e w' := by
  obtain ⟨k0, q0, q1⟩ := two_boxes w (.cells #[.string ⟨#[]⟩, .bool false, .string ⟨#[]⟩, .string ⟨#[]⟩] 116) (.cells #[.slice none 0 0] 169)
  have hch : Chl ((w.alloc (.cells #[.string ⟨#[]⟩, .bool false, .string ⟨#[]⟩, .string ⟨#[]⟩] 116)).alloc (.cells #[.slice none 0 0] 169)) (w.heap.size + 1) [] (.slice none 0 0) := ⟨q1, ⟨rfl, .inl ⟨rfl, rfl⟩⟩⟩
  have hE := eachP b (w.heap.size + 1) _ hs hch
  have HQ0 : Hid (_) := q0
  have HK0 : Hid (_) := k0
  have HS : Hid (b.size ≤ 1000000000) := hs
  clear hch q0 q1 k0 hs
  go_enter Tryz.func88, Tryz.ntmps88
  go_wp2_with fail
  refine hE.mono ?_
  intro e w1 he
  cases he with
  | sig h1 hb =>
    have HB : Hid (_) := HK0.out.trans (hb.mono (by omega))
    have HN : Hid (_) := parts_sig h1
    clear h1 hb hE
    go_wp2
    exact ⟨rfl, .no HN.out HB.out⟩
  | bad h1 h2 hb =>
    have HB : Hid (_) := HK0.out.trans (hb.mono (by omega))
    have HN : Hid (_) := parts_bad h1 h2
    clear h1 h2 hb hE
    go_wp2
    exact ⟨rfl, .no HN.out HB.out⟩
  | @ok _ L v h1 h2 hc hb =>
    have hz := chunks_sizes h2
    have hes : (b.extract 8 b.size).size ≤ b.size := by rw [ByteArray.size_extract]; omega
    have hO := inOrderP L v w1 hc.val (by have := HS.out; omega) (by have := HS.out; omega) (fun c h => by have := (hz.2 c h).1; omega)
    have HB : Hid (Below w.heap.size w w1) := HK0.out.trans (hb.mono (by omega))
    have R1 : w1.heap[w.heap.size]? = some (.cells #[.string ⟨#[]⟩, .bool false, .string ⟨#[]⟩, .string ⟨#[]⟩] 116 (0, 0)) := (hb.block _ (by omega)).trans HQ0.out
    have HN : Hid (∀ o, ordOf L = o → partsOf b = match o with | none => .error 12 | some P => .ok P) := fun o ho => by
      subst ho
      cases ho : ordOf L with
      | none => exact parts_no h1 h2 ho
      | some P => exact parts_ok h1 h2 ho
    have HR1 : Hid (_) := R1
    have cb := hc.box.cell
    have lw1 := lt_of_block R1
    have lx1 := lt_of_block hc.box
    obtain ⟨oa, oc, hv⟩ := own_slice2 hc.own
    subst hv
    clear h1 h2 hc hb hz hes hE R1
    go_wp2_with fail
    refine hO.mono ?_
    intro e w2 he2
    cases he2 with
    | no h3 hb2 =>
      have HB2 : Hid (Below w.heap.size w w2) := HB.out.trans (hb2.mono HB.out.size)
      have HN2 : Hid (_) := HN.out _ h3
      clear h3 hb2 hO
      go_wp2
      exact ⟨rfl, .no HN2.out HB2.out⟩
    | @ok _ P h3 hb2 =>
      have HB2 : Hid (Below w.heap.size w w2) := HB.out.trans (hb2.mono HB.out.size)
      have HN2 : Hid (_) := HN.out _ h3
      have R4 := (hb2.block _ (lt_of_block HR1.out)).trans HR1.out
      have rf := fun j => frozen_of_row _ w.heap.size j _ _ R4
      have rl := lt_of_block R4
      have rc0 := (cell_at R4 0).trans (show _ = some (Value.string ⟨#[]⟩) from rfl)
      have rc1 := (cell_at R4 1).trans (show _ = some (Value.bool false) from rfl)
      have rc2 := (cell_at R4 2).trans (show _ = some (Value.string ⟨#[]⟩) from rfl)
      have rc3 := (cell_at R4 3).trans (show _ = some (Value.string ⟨#[]⟩) from rfl)
      have HR4 : Hid (_) := R4
      clear h3 hb2 hO cb R4
      go_wp2
      have hend := (heap_setCell_same _ w.heap.size 3 _ _ (.string P.data) ((heap_setCell_same _ w.heap.size 2 _ _ (.string (P.pal.getD ⟨#[]⟩)) ((heap_setCell_same _ w.heap.size 1 _ _ (.bool P.pal.isSome) ((heap_setCell_same _ w.heap.size 0 _ _ (.string P.head) HR4.out).trans rfl)).trans rfl)).trans rfl)).trans (show _ = some (Obj.cells #[.string P.head, .bool P.pal.isSome, .string (P.pal.getD ⟨#[]⟩), .string P.data] 116 (0, 0)) from rfl)
      exact bodyPost_ret (v := partsV P) (results_cell_row rfl _ _ w.heap.size 116 _ (0, 0) _ rfl hend Tryz.underlying116 rfl Tryz.infoParts) rfl (.ok HN2.out ((((HB2.out.setCell (p := ⟨w.heap.size, 0, none⟩) (by dsimp only; omega) _).setCell (p := ⟨w.heap.size, 1, none⟩) (by dsimp only; omega) _).setCell (p := ⟨w.heap.size, 2, none⟩) (by dsimp only; omega) _).setCell (p := ⟨w.heap.size, 3, none⟩) (by dsimp only; omega) _))
end Go.Proofs.YtmfijackgekioaaGreatDoor
