import Derived.Test.YtmfijackgekioaaGreatDoorQLbLm3
import Derived.Maps.AppendAt
import Derived.Lib.AppendZeros

/-
  All chunks of a file: the program. For Decodes.
-/
namespace Go.Proofs.YtmfijackgekioaaGreatDoor
open Go.RowKit Go.Maps

/-- The bytes begin with the signature. -/
def sigB (s : ByteArray) : Bool := decide (8 ≤ s.size) && ((s.extract 0 8).toList == [137, 80, 78, 71, 13, 10, 26, 10])
set_option maxRecDepth 100000 in
set_option maxHeartbeats 1000000 in
theorem hasPrefixP (s : ByteArray) (w : World) (hs : s.size ≤ 1000000000) :
    Calls Tryz.prog 222 #[.string s, .string ⟨#[137, 80, 78, 71, 13, 10, 26, 10]⟩] w fun e w' => e = .returned (.bool (sigB s)) ∧ w' = w := by
  by_cases h8 : 8 ≤ s.size
  · have h8i : (s.size : Int) ≥ 8 := by omega
    have HS : Hid (sigB s = ((s.extract 0 8).toList == [137, 80, 78, 71, 13, 10, 26, 10])) := by show _ = _; rw [sigB, decide_eq_true h8, Bool.true_and]
    go_enter Tryz.func222, Tryz.ntmps222
    go_wp2
    go_ret
    exact ⟨ret_bool (by rw [HS.out]), rfl⟩
  · have h8i : ¬ (s.size : Int) ≥ 8 := by omega
    have HS : Hid (sigB s = false) := by show _ = _; rw [sigB, decide_eq_false h8, Bool.false_and]
    go_enter Tryz.func222, Tryz.ntmps222
    go_wp2
    go_ret
    exact ⟨ret_bool (by rw [HS.out]), rfl⟩
set_option maxRecDepth 100000 in
set_option maxHeartbeats 1000000 in
theorem cutLP (s : ByteArray) (w : World) (hs : s.size ≤ 1000000000) :
    Calls Tryz.prog 199 #[.string s, .string ⟨#[137, 80, 78, 71, 13, 10, 26, 10]⟩] w fun e w' => e = .returned (.tuple #[.string (if sigB s = true then s.extract 8 s.size else s), .bool (sigB s)]) ∧ w' = w := by
  have hh := hasPrefixP s w hs
  have H8 : Hid (sigB s = true → 8 ≤ s.size) := fun h => by
    simp only [sigB, Bool.and_eq_true, decide_eq_true_eq] at h
    exact h.1
  generalize sigB s = sb at *
  cases sb
  · go_enter Tryz.func199, Tryz.ntmps199
    go_wp2_with fail
    refine hh.mono ?_
    rintro e w' ⟨rfl, rfl⟩
    go_wp2
    exact bodyPost_ret (v := .tuple #[.string s, .bool false]) (by simp [results, Tryz.results199, go_sem]) rfl ⟨rfl, rfl⟩
  · have h8 := H8.out rfl
    have h8i : (8 : Int) ≤ (s.size : Int) := by omega
    go_enter Tryz.func199, Tryz.ntmps199
    go_wp2_with fail
    refine hh.mono ?_
    rintro e w' ⟨rfl, rfl⟩
    go_wp2
    exact bodyPost_ret (v := .tuple #[.string (s.extract 8 s.size), .bool true]) (by simp [results, Tryz.results199, go_sem]) rfl ⟨rfl, rfl⟩
set_option maxRecDepth 100000 in
set_option maxHeartbeats 1000000 in
theorem cutP (s : ByteArray) (w : World) (hs : s.size ≤ 1000000000) :
    Calls Tryz.prog 170 #[.string s, .string ⟨#[137, 80, 78, 71, 13, 10, 26, 10]⟩] w fun e w' => e = .returned (.tuple #[.string (if sigB s = true then s.extract 8 s.size else s), .bool (sigB s)]) ∧ w' = w := by
  have hh := cutLP s w hs
  generalize (if sigB s = true then s.extract 8 s.size else s) = R at *
  generalize sigB s = sb at *
  go_enter Tryz.func170, Tryz.ntmps170
  go_wp2_with fail
  refine hh.mono ?_
  rintro e w' ⟨rfl, rfl⟩
  go_wp2
  exact bodyPost_ret (v := .tuple #[.string R, .bool sb]) (by simp [results, Tryz.results170, go_sem]) rfl ⟨rfl, rfl⟩

theorem Tryz.infoChunk : (Tryz.prog.info? 94).map (fun i => (i.zero, i.size, i.bytes)) = some (some (.agg #[.string ⟨#[]⟩, .string ⟨#[]⟩]), 2, 32) := by kernel_rfl

def chCells (L : List Ch) : List Value := L.flatMap fun c => [.string c.name, .string c.data]
theorem chCells_snoc (L : List Ch) (c : Ch) : chCells (L ++ [c]) = chCells L ++ [.string c.name, .string c.data] := by simp [chCells]
theorem chCells_length (L : List Ch) : (chCells L).length = L.length * 2 := by
  induction L with
  | nil => rfl
  | cons x l ih => simp only [chCells, List.flatMap_cons, List.length_append, List.length_cons, List.length_nil] at *; omega
/-- The list of chunks, in its variable. -/
structure Chl (w : World) (X : Nat) (L : List Ch) (v : Value) : Prop where
  box : Box w X v 169
  own : w.ownsRow (X + 1) 94 2 v L.length (chCells L)
theorem Chl.kept {w w' : World} {X : Nat} {L : List Ch} {v : Value} (h : Chl w X L v) (k : ∀ j, j = X ∨ v.ownBlock = some j → w'.heap[j]? = w.heap[j]?) : Chl w' X L v :=
  ⟨(k _ (.inl rfl)).trans h.box, own_keep h.own (fun g hg => k g (.inr hg))⟩
theorem Chl.lt {w : World} {X : Nat} {L : List Ch} {v : Value} (h : Chl w X L v) (g : Nat) (hg : v.ownBlock = some g) : X + 1 ≤ g ∧ g < w.heap.size := h.own.lt g hg
theorem Chl.below {w w' : World} {X : Nat} {L : List Ch} {v : Value} (h : Chl w X L v) (k : Below w.heap.size w w') : Chl w' X L v :=
  h.kept (fun j hj => k.block j (by rcases hj with rfl | hj; exact lt_of_block h.box; exact (h.lt j hj).2))

set_option maxRecDepth 100000 in
set_option maxHeartbeats 2000000 in
theorem pushC (X : Nat) (c : Ch) (L : List Ch) (v : Value) (w : World) (h : Chl w X L v) (hL : L.length ≤ 100000000) :
    Calls Tryz.prog 127 #[.agg #[.string c.name, .string c.data], .pointer (some ⟨X, 0, none⟩)] w fun e w' => e = .returned (.tuple #[]) ∧ ∃ v', Chl w' X (L ++ [c]) v' ∧ Kp (fun k => v.ownBlock = some k ∨ k = X) w w' := by
  obtain ⟨i0, hi, hz0, hz1, hz2⟩ := info_parts Tryz.infoChunk
  have hlx := lt_of_block h.box
  obtain ⟨k0, q0, q1⟩ := two_boxes w (.cells #[.string c.name, .string c.data] 94) (.cells #[.string c.name, .string c.data] 94)
  have h2 := h.below k0
  have hsz2 : ((w.alloc (.cells #[.string c.name, .string c.data] 94)).alloc (.cells #[.string c.name, .string c.data] 94)).heap.size = w.heap.size + 1 + 1 := by simp
  obtain ⟨v', w', hr, ho', hg', _, _⟩ := run_append_own_at (P := Tryz.prog) ((w.alloc (.cells #[.string c.name, .string c.data] 94)).alloc (.cells #[.string c.name, .string c.data] 94)) (X + 1) 169 169 94 i0 _ 2 32 Tryz.underlying169 hi hz0 hz1 hz2 rfl (by decide) v L.length (chCells L) h2.own ⟨w.heap.size + 1, 0, none⟩ 1 1 [.string c.name, .string c.data] rfl (fun j u hj => by
      rw [add_at, Nat.zero_add, cell_at q1]
      simpa using hj) (fun u hu => by
      simp only [List.mem_cons, List.not_mem_nil, or_false] at hu
      rcases hu with rfl | rfl <;> rfl) (by unfold maxLen; omega) (by omega) (by omega)
  have hbx : w'.heap[X]? = some (.cells #[v] 169 (0, 0)) := (hg'.block X (lt_of_block h2.box) (fun e => by have := (h2.lt X e.symm).1; omega)).trans h2.box
  have hsl : Chl (w'.setCell ⟨X, 0, none⟩ v') X (L ++ [c]) v' :=
    ⟨one_set hbx v', own_keep (by rw [List.length_append, chCells_snoc]; exact ho') (fun g hg => Below.heap_setCell _ ⟨X, 0, none⟩ _ g (fun e => by have := (ho'.lt g hg).1; dsimp only at e; omega))⟩
  have hkp : Kp (fun k => v.ownBlock = some k ∨ k = X) w (w'.setCell ⟨X, 0, none⟩ v') :=
    (Kp.grown (Kp.ofBelow k0) hg' (fun k hk => .inl (.inl hk))).setCell (p := ⟨X, 0, none⟩) (.inl (.inr rfl)) _
  obtain ⟨x0, x1, x2⟩ := one_cell hbx
  have c0 := h.box.cell
  have HH : Hid (_ ∧ _) := ⟨hsl, hkp⟩
  obtain ⟨oa, oc, rfl⟩ := own_slice2 h.own
  obtain ⟨oa', oc', rfl⟩ := own_slice2 ho'
  clear h2 hsl hkp ho' hg' hbx k0 q0 q1 h hsz2
  go_enter Tryz.func127, Tryz.ntmps127
  go_wp2_with (at_builtin; refine Lib.wpList_append_run _ rfl _ _ _ _ rfl _ _ rfl rfl _ _ hr ?_)
  go_end0
  exact ⟨rfl, _, HH.out⟩
theorem callC (args : Array Value) (w : World) : (callFunc 127 args).run Tryz.prog w = .ok (.enter 127 args) w := by kernel_rfl

def lenS : Value → Nat | .string s => s.size | _ => 0
theorem Chl.bel {w w' : World} {X : Nat} {L : List Ch} {v : Value} (h : Chl w X L v) (k : Kp (fun k => v.ownBlock = some k ∨ k = X) w w') : Below X w w' :=
  k.below (Nat.le_of_lt (lt_of_block h.box)) (fun j _ hj => by
    rcases hj with hj | hj
    · have := (h.lt j hj).1; omega
    · omega)

/-- What going through the chunks comes to. -/
inductive EndsE (b : ByteArray) (X : Nat) (w : World) : Ending → World → Prop
  | sig {w'} : sigB b = false → Below X w w' → EndsE b X w (dies 10) w'
  | bad {w'} : sigB b = true → chunksOf (b.extract 8 b.size) = none → Below X w w' → EndsE b X w (dies 11) w'
  | ok {w' L v} : sigB b = true → chunksOf (b.extract 8 b.size) = some L → Chl w' X L v → Below X w w' → EndsE b X w (.returned (.tuple #[])) w'

set_option maxRecDepth 100000 in
set_option maxHeartbeats 4000000 in
theorem eachP (b : ByteArray) (X : Nat) (w : World) (hs : b.size ≤ 1000000000) (h : Chl w X [] (.slice none 0 0)) :
    Calls Tryz.prog 126 #[.string b, .func (.func 127) #[] #[.pointer (some ⟨X, 0, none⟩)]] w fun e w' => EndsE b X w e w' := by
  have hcut := cutP b w hs
  have hcall := callC
  have hX := lt_of_block h.box
  rcases Bool.eq_false_or_eq_true (sigB b) with hsb | hsb
  rotate_left
  · rw [hsb, if_neg (by decide)] at hcut
    go_enter Tryz.func126, Tryz.ntmps126
    go_wp2_with fail
    refine hcut.mono ?_
    rintro e w' ⟨rfl, rfl⟩
    go_wp2
    exact ⟨rfl, .sig hsb (Below.refl _ _)⟩
  · rw [hsb, if_pos rfl] at hcut
    have HSB : Hid (sigB b = true) := hsb
    have hsz8 : (b.extract 8 b.size).size ≤ 1000000000 := by rw [ByteArray.size_extract]; omega
    obtain ⟨b8, hb8⟩ : ∃ b8, b.extract 8 b.size = b8 := ⟨_, rfl⟩
    have HB8 : Hid (b.extract 8 b.size = b8) := hb8
    rw [hb8] at hcut hsz8
    clear hb8
    have HS : Hid (b8.size ≤ 1000000000) := hsz8
    have HCH : Hid (Chl w X [] (.slice none 0 0)) := h
    clear hs hsz8 hsb h
    go_enter Tryz.func126, Tryz.ntmps126
    go_wp2_with fail
    refine hcut.mono ?_
    rintro e w' ⟨rfl, rfl⟩
    clear hcut
    go_wp2
    go_loopw [4] (fun rv wr => ∃ (r : ByteArray) (L : List Ch) (v : Value), rv = .string r ∧ Hid (chunksOf b8 = (chunksOf r).map (fun l => L ++ l)) ∧ Hid (Chl wr X L v) ∧ Hid (L.length * 12 + r.size ≤ 1000000000) ∧ Below X w' wr) (fun rv _ => lenS rv)
    case atStart => exact ⟨b8, [], .slice none 0 0, rfl, by show _ = _; cases chunksOf b8 <;> rfl, HCH, by show _ ≤ _; have := HS.out; simp; omega, Below.refl _ _⟩
    case round =>
      obtain ⟨r, L, v, rfl, HC, HL, HZ, hbl⟩ := hrel
      by_cases hr0 : r.size = 0
      · have HD : Hid (chunksOf b8 = some L) := by show _ = _; rw [HC.out, chunks_nil hr0]; simp
        have hr0i : ¬ (r.size : Int) > 0 := by omega
        clear HC
        go_wp2
        go_end0
        exact .ok HSB.out (by rw [HB8.out]; exact HD.out) HL.out hbl
      · have hr0i : (r.size : Int) > 0 := by omega
        have hfi := firstP r wr (by have := HZ.out; omega)
        unfold EndsC at hfi
        have HR0 : Hid (r.size ≠ 0) := hr0
        clear hr0
        go_wp2_with fail
        refine hfi.mono ?_
        rintro e w1 ⟨⟨hok, rfl⟩ | ⟨hno, rfl⟩, b1⟩
        · have HOK : Hid (chOk r = true) := hok
          have hL1 := HL.out.below b1
          have B1 : Below X w' w1 := hbl.trans (b1.mono (Nat.le_trans (Nat.le_of_lt hX) hbl.size))
          have hsz := chOk_size hok
          have hrs := chRest_size hok
          have HD : Hid (chunksOf b8 = (chunksOf (chRest r)).map (fun l => (L ++ [chOf r]) ++ l)) := by
            show _ = _
            rw [HC.out, chunks_cons HR0.out hok]
            cases chunksOf (chRest r) <;> simp
          have hdl : (chOf r).data.size = chLen r := by show (r.extract 8 (8 + chLen r)).size = _; rw [ByteArray.size_extract]; omega
          have hre : r.extract (12 + chLen r) r.size = chRest r := rfl
          generalize hCH : chOf r = c at *
          generalize chRest r = R2 at *
          generalize chLen r = n at *
          have HZ2 : Hid ((L ++ [c]).length * 12 + R2.size ≤ 1000000000 ∧ R2.size < r.size ∧ L.length ≤ 100000000) := by
            have := HZ.out
            show _ ∧ _ ∧ _
            rw [List.length_append, List.length_singleton]
            omega
          have hN := blk_new w1 (.cells #[.string c.name, .string c.data] 94)
          have kN := below_alloc w1 (.cells #[.string c.name, .string c.data] 94)
          have hL2 := hL1.below kN
          have B2 : Below X w' (w1.alloc (.cells #[.string c.name, .string c.data] 94)) := B1.trans (kN.mono (Nat.le_trans (Nat.le_of_lt hX) B1.size))
          obtain ⟨C, hCe⟩ : ∃ C, w1.heap.size = C := ⟨_, rfl⟩
          have hCX : C ≠ X := by have := lt_of_block hL1.box; omega
          have hCv : v.ownBlock ≠ some C := fun e => by have := (hL1.lt C e).2; omega
          have hpu := pushC X c L v _ hL2 HZ2.out.2.2
          have HN : Hid ((w1.alloc (.cells #[.string c.name, .string c.data] 94)).heap[C]? = some (.cells #[.string c.name, .string c.data] 94 (0, 0)) ∧ Chl (w1.alloc (.cells #[.string c.name, .string c.data] 94)) X L v) := ⟨hCe ▸ hN, hL2⟩
          have n12 : (n : Int) + 12 ≤ (r.size : Int) := by omega
          have s1 : IntKind.i64.wrap (8 + (n : Int)) = 8 + (n : Int) := IntWalk.i64_in _ (by omega)
          have s2 : IntKind.i64.wrap (8 + (n : Int) + 4) = ((12 + n : Nat) : Int) := (IntWalk.i64_in _ (by omega)).trans (by omega)
          have s3 : ((12 + n : Nat) : Int) ≤ (r.size : Int) := by omega
          clear hfi HC HL HZ hbl b1 hL1 B1 hN kN hL2 hok hsz hrs HOK hCH
          go_wp2_with fail
          refine hpu.mono ?_
          rintro e w3 ⟨rfl, v', hL3, kp3⟩
          have hN3 : w3.heap[C]? = some (.cells #[.string c.name, .string c.data] 94 (0, 0)) := box_kp HN.out.1 kp3 (fun e => by rcases e with e | e; exact hCv e; exact hCX e)
          have B3 : Below X w' w3 := B2.trans (HN.out.2.bel kp3)
          have HL3 : Hid (Chl w3 X (L ++ [c]) v') := hL3
          obtain ⟨c0, c1, cf, cl⟩ := cells2 hN3
          clear hpu hL3 kp3 B2 HN hN3 hCe
          have hcs : (c.data.size : Int) = (n : Int) := by omega
          go_wp2
          go_roundw
          case rel => exact ⟨R2, L ++ [c], v', by rw [hre], HD, HL3, HZ2.out.1, B3⟩
          case measure => simp [lenS]; have := HZ2.out; omega
        · have HD : Hid (chunksOf b8 = none) := by show _ = _; rw [HC.out, chunks_bad HR0.out hno]; rfl
          have B1 : Below X w' w1 := hbl.trans (b1.mono (Nat.le_trans (Nat.le_of_lt hX) hbl.size))
          clear HC hfi
          go_wp2
          exact ⟨rfl, .bad HSB.out (by rw [HB8.out]; exact HD.out) B1⟩
end Go.Proofs.YtmfijackgekioaaGreatDoor
