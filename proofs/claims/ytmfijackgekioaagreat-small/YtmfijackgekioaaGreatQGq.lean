import Derived.Test.YtmfijackgekioaaGreatQGp
import Derived.Lib.SmallJoins

/-
  A new finder: the program. For Deflates.
-/
namespace Go.Proofs.YtmfijackgekioaaGreat
open Go.RowKit Go.Maps

section
variable {P : Program} {ops : Array Oper} {Q : Exit → Act → World → Prop} {md : Region.Mode} {S : World → Prop} {z : Nat}
/-- Three may come up: any is carried out. -/
theorem anyZ_three {i j k : Nat} {o p r : Oper} {fuel : Nat} {listed : Array Bool} {a : Act} {w : World} (hr : Region.ready md ops listed = [i, j, k]) (ho : ops[i]? = some o) (hp : ops[j]? = some p) (hq : ops[k]? = some r)
    (h1 : ∀ K' : Act → World → Prop, (∀ a w, (i ≠ z → S w) → anyZ P md ops Q S z fuel (listed.setIfInBounds i true) a w → K' a w) → if Region.wanted o (yielded ops a.tmps) = true then Oper.wp P o a w K' Q else K' (a.put o.dst undef) w)
    (h2 : ∀ K' : Act → World → Prop, (∀ a w, (j ≠ z → S w) → anyZ P md ops Q S z fuel (listed.setIfInBounds j true) a w → K' a w) → if Region.wanted p (yielded ops a.tmps) = true then Oper.wp P p a w K' Q else K' (a.put p.dst undef) w)
    (h3 : ∀ K' : Act → World → Prop, (∀ a w, (k ≠ z → S w) → anyZ P md ops Q S z fuel (listed.setIfInBounds k true) a w → K' a w) → if Region.wanted r (yielded ops a.tmps) = true then Oper.wp P r a w K' Q else K' (a.put r.dst undef) w) :
    anyZ P md ops Q S z (fuel + 1) listed a w := by
  refine ⟨fun e => ?_, fun x hx => ?_⟩
  · rw [hr] at e; cases e
  · rw [hr] at hx
    have e : x = i ∨ x = j ∨ x = k := by simpa using hx
    rcases e with e | e | e
    · subst e
      exact wpOp_step ho (fun K' hK => h1 K' (fun a w hS hW => hK a w ⟨hS, hW⟩))
    · subst e
      exact wpOp_step hp (fun K' hK => h2 K' (fun a w hS hW => hK a w ⟨hS, hW⟩))
    · subst e
      exact wpOp_step hq (fun K' hK => h3 K' (fun a w hS hW => hK a w ⟨hS, hW⟩))
end

theorem run_makeMap_none (u : World) : (Instr.makeMap 115 none).run Tryz.prog u = .ok (.map (some u.heap.size)) (u.alloc (.map #[] 0)) := by
  simp [go_sem, Instr.makeMap]

/-- The finder's period: the least one of the first 65536 bytes. -/
def PerOk (T : ByteArray) (per : Nat) : Prop := per ≤ 4500000 ∧ Rf.Least (T.data.toList.take 65536) per
/-- What a new finder is made of. -/
structure Nf (w : World) (T : ByteArray) (en M G per : Nat) (v : World) : Prop where
  m : v.heap[M]? = some (.map #[] 0)
  g : Lst v G (List.replicate en 0)
  be : Below w.heap.size w v
  ge : w.heap.size ≤ M ∧ w.heap.size ≤ G
  per : (0 < T.size → 1 ≤ per) ∧ PerOk T per
theorem nf_fin {w v : World} {T : ByteArray} {en M G per : Nat} (h : Nf w T en M G per v) (he : en = min T.size 32768) :
    Fd (v.alloc (.cells #[.string T, .map (some M), .slice (some ⟨G, 0, none⟩) en en, .int .i64 (per : Nat)] 117)) v.heap.size M G en per T 0 ∧ (0 < T.size → 1 ≤ per) ∧ PerOk T per ∧ Below w.heap.size w (v.alloc (.cells #[.string T, .map (some M), .slice (some ⟨G, 0, none⟩) en en, .int .i64 (per : Nat)] 117)) ∧ w.heap.size ≤ v.heap.size ∧ w.heap.size ≤ M ∧ w.heap.size ≤ G := by
  have lm : M < v.heap.size := lt_of_block h.m
  have lg : G < v.heap.size := lt_of_block h.g
  have hmg : M ≠ G := fun e => by
    have := h.m
    rw [e, show v.heap[G]? = _ from h.g] at this
    simp at this
  refine ⟨⟨blk_new v _, ⟨.map [], 0, Joins.ownsMap_empty (blk_old h.m _), Nat.le_refl _, ⟨⟨[], rfl⟩, fun x _ hh => by cases hh⟩⟩, ⟨List.replicate en 0, blk_old h.g _, by simp, fun j => ?_⟩, he, by omega, by omega, hmg⟩, h.per.1, h.per.2, h.be.trans ((below_alloc v _).mono h.be.size), h.be.size, h.ge.1, h.ge.2⟩
  have : (List.replicate en (0 : Int)).getD j 0 = 0 := by
    rw [List.getD_eq_getElem?_getD, List.getElem?_replicate]
    split <;> rfl
  omega

set_option maxRecDepth 100000 in
set_option maxHeartbeats 4000000 in
theorem newFinder74 (T : ByteArray) (w : World) (hT : T.size ≤ 4500000) :
    Calls Tryz.prog 60 #[.string T] w fun e w' => ∃ F M G en per : Nat, e = .returned (.pointer (some ⟨F, 0, none⟩)) ∧ Fd w' F M G en per T 0 ∧ (0 < T.size → 1 ≤ per) ∧ PerOk T per ∧ Below w.heap.size w w' ∧ w.heap.size ≤ F ∧ w.heap.size ≤ M ∧ w.heap.size ≤ G := by
  obtain ⟨en, hen⟩ : ∃ en, min T.size 32768 = en := ⟨_, rfl⟩
  obtain ⟨un, hun⟩ : ∃ un, min T.size 65536 = un := ⟨_, rfl⟩
  have m1 : min (T.size : Int) 32768 = (en : Int) := by omega
  have m2 : min (T.size : Int) 65536 = (un : Int) := by omega
  obtain ⟨Z, hZ⟩ : ∃ Z : List Value, Z = List.replicate en (.int .i64 0) := ⟨_, rfl⟩
  have hmk : ∀ u : World, (Instr.makeSlice 39 (.int .i64 (en : Int)) (.int .i64 (en : Int))).run Tryz.prog u = .ok (.slice (some ⟨u.heap.size, 0, none⟩) en en) (u.alloc (.cells Z.toArray 3)) := fun u => make_big en (by omega) Z hZ u
  have HZ : Hid (∀ u : World, Lst (u.alloc (.cells Z.toArray 3)) u.heap.size (List.replicate en 0)) := fun u => by
    have := blk_new u (.cells Z.toArray 3)
    rw [hZ, ← vals_replicate] at this
    rw [hZ, ← vals_replicate]
    exact this
  have HU : (T.extract 0 un).size = un := by rw [ByteArray.size_extract]; omega
  have HLE : (T.extract 0 un).data.toList = T.data.toList.take 65536 := by
    rw [ByteArray.data_extract, Array.toList_extract, List.extract_eq_take_drop, Nat.sub_zero, List.drop_zero, ← hun, ← List.take_take, List.take_of_length_le (by rw [List.length_take, Array.length_toList]; exact Nat.min_le_right _ _)]
  have HPR : Hid (∀ v : World, Calls Tryz.prog 87 #[.string (T.extract 0 un)] v fun e w' => ∃ per : Nat, e = .returned (.int .i64 per) ∧ ((0 < T.size → 1 ≤ per) ∧ PerOk T per) ∧ Below v.heap.size v w') := fun v => (period86 (T.extract 0 un) v (by omega)).mono fun e w' ⟨per, h1, h2, h3, hL, h4⟩ => ⟨per, h1, ⟨fun h => h2 (by omega), by omega, HLE ▸ hL⟩, h4⟩
  clear HLE
  have hule : un ≤ T.size := by omega
  have hulei : (un : Int) ≤ (T.size : Int) := by omega
  have HEN : Hid (en = min T.size 32768) := hen.symm
  have hmm := run_makeMap_none
  have hS : True := trivial
  have kv0 : Below w.heap.size w w.drew := (Below.refl _ _).drew
  clear hen hun hT hZ HU
  go_enter Tryz.func60, Tryz.ntmps60
  go_wp2_with fail
  · refine regionZ (by kernel_rfl) (fun _ => True) 999 ?_
    generalize w.drew = v0 at *
    refine anyZ_take (i := 0) (v := ?_) rfl (by kernel_rfl) (by kernel_rfl) (by kernel_rfl) (by kernel_rfl) (fun _ _ _ h => h) (by kernel_rfl) ?_ hS ?_
    rotate_left
    · intro w hSw; (try dsimp only at hSw); go_simp; try with_reducible rfl
    try simp only [Act.put]
    refine anyZ_take (i := 2) (v := ?_) rfl (by kernel_rfl) (by kernel_rfl) (by kernel_rfl) (by kernel_rfl) (fun _ _ _ h => h) (by kernel_rfl) ?_ hS ?_
    rotate_left
    · intro w hSw; (try dsimp only at hSw); go_simp; try with_reducible rfl
    try simp only [Act.put]
    refine anyZ_take (i := 3) (v := ?_) rfl (by kernel_rfl) (by kernel_rfl) (by kernel_rfl) (by kernel_rfl) (fun _ _ _ h => h) (by kernel_rfl) ?_ hS ?_
    rotate_left
    · intro w hSw; (try dsimp only at hSw); go_simp; try with_reducible rfl
    try simp only [Act.put]
    refine anyZ_take (i := 4) (v := .int .i64 (en : Int)) rfl (by kernel_rfl) (by kernel_rfl) (by kernel_rfl) (by kernel_rfl) (fun _ _ _ h => h) (by kernel_rfl) ?_ hS ?_
    · intro w hSw; (try dsimp only at hSw); go_simp; try with_reducible rfl
    simp only [Act.put]
    refine anyZ_take (i := 6) (v := ?_) rfl (by kernel_rfl) (by kernel_rfl) (by kernel_rfl) (by kernel_rfl) (fun _ _ _ h => h) (by kernel_rfl) ?_ hS ?_
    rotate_left
    · intro w hSw; (try dsimp only at hSw); go_simp; try with_reducible rfl
    try simp only [Act.put]
    refine anyZ_take (i := 7) (v := ?_) rfl (by kernel_rfl) (by kernel_rfl) (by kernel_rfl) (by kernel_rfl) (fun _ _ _ h => h) (by kernel_rfl) ?_ hS ?_
    rotate_left
    · intro w hSw; (try dsimp only at hSw); go_simp; try with_reducible rfl
    try simp only [Act.put]
    refine anyZ_take (i := 8) (v := ?_) rfl (by kernel_rfl) (by kernel_rfl) (by kernel_rfl) (by kernel_rfl) (fun _ _ _ h => h) (by kernel_rfl) ?_ hS ?_
    rotate_left
    · intro w hSw; (try dsimp only at hSw); go_simp; try with_reducible rfl
    try simp only [Act.put]
    refine anyZ_take (i := 9) (v := .int .i64 (un : Int)) rfl (by kernel_rfl) (by kernel_rfl) (by kernel_rfl) (by kernel_rfl) (fun _ _ _ h => h) (by kernel_rfl) ?_ hS ?_
    · intro w hSw; (try dsimp only at hSw); go_simp; try with_reducible rfl
    simp only [Act.put]
    refine anyZ_take (i := 10) (v := .string (T.extract 0 un)) rfl (by kernel_rfl) (by kernel_rfl) (by kernel_rfl) (by kernel_rfl) (fun _ _ _ h => h) (by kernel_rfl) ?_ hS ?_
    · intro w hSw; (try dsimp only at hSw); go_simp; try with_reducible rfl
    simp only [Act.put]
    refine anyZ_three (i := 1) (j := 5) (k := 11) (by kernel_rfl) rfl rfl rfl (fun K hK => ?_) (fun K hK => ?_) (fun K hK => ?_)
    · go_simp
      have key : ∀ v, v0.alloc (.map #[] 0) = v → Below v0.heap.size v0 v ∧ v.heap[v0.heap.size]? = some (.map #[] 0) := fun v e => by subst e; exact ⟨below_alloc v0 _, blk_new v0 _⟩
      have geM : w.heap.size ≤ v0.heap.size := kv0.size
      generalize hvv1 : World.alloc v0 _ = v1
      obtain ⟨kv1, mv1⟩ := key _ hvv1
      clear key hvv1
      generalize hM : v0.heap.size = M at mv1 geM ⊢
      have kv1 : Below w.heap.size w v1 := kv0.trans (kv1.mono kv0.size)
      refine hK _ _ (fun _ => trivial) ?_
      clear hK K
      refine anyZ_two (i := 5) (j := 11) (by kernel_rfl) rfl rfl (fun K hK => ?_) (fun K hK => ?_)
      · go_simp
        have key : ∀ v, v1.alloc (.cells Z.toArray 3) = v → Below v1.heap.size v1 v ∧ Lst v v1.heap.size (List.replicate en 0) := fun v e => by subst e; exact ⟨below_alloc v1 _, HZ.out v1⟩
        have geG : w.heap.size ≤ v1.heap.size := kv1.size
        generalize hvv2 : World.alloc v1 _ = v2
        obtain ⟨kv2, gv2⟩ := key _ hvv2
        clear key hvv2
        generalize hG : v1.heap.size = G at gv2 geG ⊢
        have mv2 := (kv2.block _ (lt_of_block mv1)).trans mv1
        have kv2 : Below w.heap.size w v2 := kv1.trans (kv2.mono kv1.size)
        refine hK _ _ (fun _ => trivial) ?_
        clear hK K
        refine anyZ_one (i := 11) (by kernel_rfl) rfl (fun K hK => ?_)
        go_simp
        refine (HPR.out v2).mono ?_
        rintro e v3 ⟨per, rfl, hper, kv3⟩
        have mv3 := (kv3.block _ (lt_of_block mv2)).trans mv2
        have gv3 := gv2.keep kv3
        have kv3 : Below w.heap.size w v3 := kv2.trans (kv3.mono kv2.size)
        refine hK _ _ (fun _ => trivial) ?_
        clear hK K
        have hn : Nf w T en M G per v3 := ⟨mv3, gv3, kv3, ⟨geM, geG⟩, hper⟩
        have HN : Hid (Nf w T en M G per v3) := hn
        clear hn mv3 gv3 kv3 hper geM geG
        refine anyZ_take (i := 12) (v := ?_) rfl (by kernel_rfl) (by kernel_rfl) (by kernel_rfl) (by kernel_rfl) (fun _ _ _ h => h) (by kernel_rfl) ?_ hS ?_
        rotate_left
        · intro w hSw; (try dsimp only at hSw); go_simp; try with_reducible rfl
        try simp only [Act.put]
        refine anyZ_one (i := 13) (by kernel_rfl) rfl (fun K hK => ?_)
        go_simp
        refine hK _ _ (fun _ => trivial) ?_
        clear hK K
        refine anyZ_one (i := 14) (by kernel_rfl) rfl (fun K hK => ?_)
        go_simp
        refine hK _ _ (fun _ => trivial) ?_
        clear hK K
        refine anyZ_done (by kernel_rfl) ?_ _
        go_wp2
        go_ret
        exact ⟨v3.heap.size, M, G, en, per, rfl, nf_fin HN.out HEN.out⟩
      · go_simp
        refine (HPR.out v1).mono ?_
        rintro e v2 ⟨per, rfl, hper, kv2⟩
        have mv2 := (kv2.block _ (lt_of_block mv1)).trans mv1
        have kv2 : Below w.heap.size w v2 := kv1.trans (kv2.mono kv1.size)
        refine hK _ _ (fun _ => trivial) ?_
        clear hK K
        refine anyZ_one (i := 5) (by kernel_rfl) rfl (fun K hK => ?_)
        go_simp
        have key : ∀ v, v2.alloc (.cells Z.toArray 3) = v → Below v2.heap.size v2 v ∧ Lst v v2.heap.size (List.replicate en 0) := fun v e => by subst e; exact ⟨below_alloc v2 _, HZ.out v2⟩
        have geG : w.heap.size ≤ v2.heap.size := kv2.size
        generalize hvv3 : World.alloc v2 _ = v3
        obtain ⟨kv3, gv3⟩ := key _ hvv3
        clear key hvv3
        generalize hG : v2.heap.size = G at gv3 geG ⊢
        have mv3 := (kv3.block _ (lt_of_block mv2)).trans mv2
        have kv3 : Below w.heap.size w v3 := kv2.trans (kv3.mono kv2.size)
        refine hK _ _ (fun _ => trivial) ?_
        clear hK K
        have hn : Nf w T en M G per v3 := ⟨mv3, gv3, kv3, ⟨geM, geG⟩, hper⟩
        have HN : Hid (Nf w T en M G per v3) := hn
        clear hn mv3 gv3 kv3 hper geM geG
        refine anyZ_take (i := 12) (v := ?_) rfl (by kernel_rfl) (by kernel_rfl) (by kernel_rfl) (by kernel_rfl) (fun _ _ _ h => h) (by kernel_rfl) ?_ hS ?_
        rotate_left
        · intro w hSw; (try dsimp only at hSw); go_simp; try with_reducible rfl
        try simp only [Act.put]
        refine anyZ_one (i := 13) (by kernel_rfl) rfl (fun K hK => ?_)
        go_simp
        refine hK _ _ (fun _ => trivial) ?_
        clear hK K
        refine anyZ_one (i := 14) (by kernel_rfl) rfl (fun K hK => ?_)
        go_simp
        refine hK _ _ (fun _ => trivial) ?_
        clear hK K
        refine anyZ_done (by kernel_rfl) ?_ _
        go_wp2
        go_ret
        exact ⟨v3.heap.size, M, G, en, per, rfl, nf_fin HN.out HEN.out⟩
    · go_simp
      have key : ∀ v, v0.alloc (.cells Z.toArray 3) = v → Below v0.heap.size v0 v ∧ Lst v v0.heap.size (List.replicate en 0) := fun v e => by subst e; exact ⟨below_alloc v0 _, HZ.out v0⟩
      have geG : w.heap.size ≤ v0.heap.size := kv0.size
      generalize hvv1 : World.alloc v0 _ = v1
      obtain ⟨kv1, gv1⟩ := key _ hvv1
      clear key hvv1
      generalize hG : v0.heap.size = G at gv1 geG ⊢
      have kv1 : Below w.heap.size w v1 := kv0.trans (kv1.mono kv0.size)
      refine hK _ _ (fun _ => trivial) ?_
      clear hK K
      refine anyZ_two (i := 1) (j := 11) (by kernel_rfl) rfl rfl (fun K hK => ?_) (fun K hK => ?_)
      · go_simp
        have key : ∀ v, v1.alloc (.map #[] 0) = v → Below v1.heap.size v1 v ∧ v.heap[v1.heap.size]? = some (.map #[] 0) := fun v e => by subst e; exact ⟨below_alloc v1 _, blk_new v1 _⟩
        have geM : w.heap.size ≤ v1.heap.size := kv1.size
        generalize hvv2 : World.alloc v1 _ = v2
        obtain ⟨kv2, mv2⟩ := key _ hvv2
        clear key hvv2
        generalize hM : v1.heap.size = M at mv2 geM ⊢
        have gv2 := gv1.keep kv2
        have kv2 : Below w.heap.size w v2 := kv1.trans (kv2.mono kv1.size)
        refine hK _ _ (fun _ => trivial) ?_
        clear hK K
        refine anyZ_one (i := 11) (by kernel_rfl) rfl (fun K hK => ?_)
        go_simp
        refine (HPR.out v2).mono ?_
        rintro e v3 ⟨per, rfl, hper, kv3⟩
        have mv3 := (kv3.block _ (lt_of_block mv2)).trans mv2
        have gv3 := gv2.keep kv3
        have kv3 : Below w.heap.size w v3 := kv2.trans (kv3.mono kv2.size)
        refine hK _ _ (fun _ => trivial) ?_
        clear hK K
        have hn : Nf w T en M G per v3 := ⟨mv3, gv3, kv3, ⟨geM, geG⟩, hper⟩
        have HN : Hid (Nf w T en M G per v3) := hn
        clear hn mv3 gv3 kv3 hper geM geG
        refine anyZ_take (i := 12) (v := ?_) rfl (by kernel_rfl) (by kernel_rfl) (by kernel_rfl) (by kernel_rfl) (fun _ _ _ h => h) (by kernel_rfl) ?_ hS ?_
        rotate_left
        · intro w hSw; (try dsimp only at hSw); go_simp; try with_reducible rfl
        try simp only [Act.put]
        refine anyZ_one (i := 13) (by kernel_rfl) rfl (fun K hK => ?_)
        go_simp
        refine hK _ _ (fun _ => trivial) ?_
        clear hK K
        refine anyZ_one (i := 14) (by kernel_rfl) rfl (fun K hK => ?_)
        go_simp
        refine hK _ _ (fun _ => trivial) ?_
        clear hK K
        refine anyZ_done (by kernel_rfl) ?_ _
        go_wp2
        go_ret
        exact ⟨v3.heap.size, M, G, en, per, rfl, nf_fin HN.out HEN.out⟩
      · go_simp
        refine (HPR.out v1).mono ?_
        rintro e v2 ⟨per, rfl, hper, kv2⟩
        have gv2 := gv1.keep kv2
        have kv2 : Below w.heap.size w v2 := kv1.trans (kv2.mono kv1.size)
        refine hK _ _ (fun _ => trivial) ?_
        clear hK K
        refine anyZ_one (i := 1) (by kernel_rfl) rfl (fun K hK => ?_)
        go_simp
        have key : ∀ v, v2.alloc (.map #[] 0) = v → Below v2.heap.size v2 v ∧ v.heap[v2.heap.size]? = some (.map #[] 0) := fun v e => by subst e; exact ⟨below_alloc v2 _, blk_new v2 _⟩
        have geM : w.heap.size ≤ v2.heap.size := kv2.size
        generalize hvv3 : World.alloc v2 _ = v3
        obtain ⟨kv3, mv3⟩ := key _ hvv3
        clear key hvv3
        generalize hM : v2.heap.size = M at mv3 geM ⊢
        have gv3 := gv2.keep kv3
        have kv3 : Below w.heap.size w v3 := kv2.trans (kv3.mono kv2.size)
        refine hK _ _ (fun _ => trivial) ?_
        clear hK K
        have hn : Nf w T en M G per v3 := ⟨mv3, gv3, kv3, ⟨geM, geG⟩, hper⟩
        have HN : Hid (Nf w T en M G per v3) := hn
        clear hn mv3 gv3 kv3 hper geM geG
        refine anyZ_take (i := 12) (v := ?_) rfl (by kernel_rfl) (by kernel_rfl) (by kernel_rfl) (by kernel_rfl) (fun _ _ _ h => h) (by kernel_rfl) ?_ hS ?_
        rotate_left
        · intro w hSw; (try dsimp only at hSw); go_simp; try with_reducible rfl
        try simp only [Act.put]
        refine anyZ_one (i := 13) (by kernel_rfl) rfl (fun K hK => ?_)
        go_simp
        refine hK _ _ (fun _ => trivial) ?_
        clear hK K
        refine anyZ_one (i := 14) (by kernel_rfl) rfl (fun K hK => ?_)
        go_simp
        refine hK _ _ (fun _ => trivial) ?_
        clear hK K
        refine anyZ_done (by kernel_rfl) ?_ _
        go_wp2
        go_ret
        exact ⟨v3.heap.size, M, G, en, per, rfl, nf_fin HN.out HEN.out⟩
    · go_simp
      refine (HPR.out v0).mono ?_
      rintro e v1 ⟨per, rfl, hper, kv1⟩
      have kv1 : Below w.heap.size w v1 := kv0.trans (kv1.mono kv0.size)
      refine hK _ _ (fun _ => trivial) ?_
      clear hK K
      refine anyZ_two (i := 1) (j := 5) (by kernel_rfl) rfl rfl (fun K hK => ?_) (fun K hK => ?_)
      · go_simp
        have key : ∀ v, v1.alloc (.map #[] 0) = v → Below v1.heap.size v1 v ∧ v.heap[v1.heap.size]? = some (.map #[] 0) := fun v e => by subst e; exact ⟨below_alloc v1 _, blk_new v1 _⟩
        have geM : w.heap.size ≤ v1.heap.size := kv1.size
        generalize hvv2 : World.alloc v1 _ = v2
        obtain ⟨kv2, mv2⟩ := key _ hvv2
        clear key hvv2
        generalize hM : v1.heap.size = M at mv2 geM ⊢
        have kv2 : Below w.heap.size w v2 := kv1.trans (kv2.mono kv1.size)
        refine hK _ _ (fun _ => trivial) ?_
        clear hK K
        refine anyZ_one (i := 5) (by kernel_rfl) rfl (fun K hK => ?_)
        go_simp
        have key : ∀ v, v2.alloc (.cells Z.toArray 3) = v → Below v2.heap.size v2 v ∧ Lst v v2.heap.size (List.replicate en 0) := fun v e => by subst e; exact ⟨below_alloc v2 _, HZ.out v2⟩
        have geG : w.heap.size ≤ v2.heap.size := kv2.size
        generalize hvv3 : World.alloc v2 _ = v3
        obtain ⟨kv3, gv3⟩ := key _ hvv3
        clear key hvv3
        generalize hG : v2.heap.size = G at gv3 geG ⊢
        have mv3 := (kv3.block _ (lt_of_block mv2)).trans mv2
        have kv3 : Below w.heap.size w v3 := kv2.trans (kv3.mono kv2.size)
        refine hK _ _ (fun _ => trivial) ?_
        clear hK K
        have hn : Nf w T en M G per v3 := ⟨mv3, gv3, kv3, ⟨geM, geG⟩, hper⟩
        have HN : Hid (Nf w T en M G per v3) := hn
        clear hn mv3 gv3 kv3 hper geM geG
        refine anyZ_take (i := 12) (v := ?_) rfl (by kernel_rfl) (by kernel_rfl) (by kernel_rfl) (by kernel_rfl) (fun _ _ _ h => h) (by kernel_rfl) ?_ hS ?_
        rotate_left
        · intro w hSw; (try dsimp only at hSw); go_simp; try with_reducible rfl
        try simp only [Act.put]
        refine anyZ_one (i := 13) (by kernel_rfl) rfl (fun K hK => ?_)
        go_simp
        refine hK _ _ (fun _ => trivial) ?_
        clear hK K
        refine anyZ_one (i := 14) (by kernel_rfl) rfl (fun K hK => ?_)
        go_simp
        refine hK _ _ (fun _ => trivial) ?_
        clear hK K
        refine anyZ_done (by kernel_rfl) ?_ _
        go_wp2
        go_ret
        exact ⟨v3.heap.size, M, G, en, per, rfl, nf_fin HN.out HEN.out⟩
      · go_simp
        have key : ∀ v, v1.alloc (.cells Z.toArray 3) = v → Below v1.heap.size v1 v ∧ Lst v v1.heap.size (List.replicate en 0) := fun v e => by subst e; exact ⟨below_alloc v1 _, HZ.out v1⟩
        have geG : w.heap.size ≤ v1.heap.size := kv1.size
        generalize hvv2 : World.alloc v1 _ = v2
        obtain ⟨kv2, gv2⟩ := key _ hvv2
        clear key hvv2
        generalize hG : v1.heap.size = G at gv2 geG ⊢
        have kv2 : Below w.heap.size w v2 := kv1.trans (kv2.mono kv1.size)
        refine hK _ _ (fun _ => trivial) ?_
        clear hK K
        refine anyZ_one (i := 1) (by kernel_rfl) rfl (fun K hK => ?_)
        go_simp
        have key : ∀ v, v2.alloc (.map #[] 0) = v → Below v2.heap.size v2 v ∧ v.heap[v2.heap.size]? = some (.map #[] 0) := fun v e => by subst e; exact ⟨below_alloc v2 _, blk_new v2 _⟩
        have geM : w.heap.size ≤ v2.heap.size := kv2.size
        generalize hvv3 : World.alloc v2 _ = v3
        obtain ⟨kv3, mv3⟩ := key _ hvv3
        clear key hvv3
        generalize hM : v2.heap.size = M at mv3 geM ⊢
        have gv3 := gv2.keep kv3
        have kv3 : Below w.heap.size w v3 := kv2.trans (kv3.mono kv2.size)
        refine hK _ _ (fun _ => trivial) ?_
        clear hK K
        have hn : Nf w T en M G per v3 := ⟨mv3, gv3, kv3, ⟨geM, geG⟩, hper⟩
        have HN : Hid (Nf w T en M G per v3) := hn
        clear hn mv3 gv3 kv3 hper geM geG
        refine anyZ_take (i := 12) (v := ?_) rfl (by kernel_rfl) (by kernel_rfl) (by kernel_rfl) (by kernel_rfl) (fun _ _ _ h => h) (by kernel_rfl) ?_ hS ?_
        rotate_left
        · intro w hSw; (try dsimp only at hSw); go_simp; try with_reducible rfl
        try simp only [Act.put]
        refine anyZ_one (i := 13) (by kernel_rfl) rfl (fun K hK => ?_)
        go_simp
        refine hK _ _ (fun _ => trivial) ?_
        clear hK K
        refine anyZ_one (i := 14) (by kernel_rfl) rfl (fun K hK => ?_)
        go_simp
        refine hK _ _ (fun _ => trivial) ?_
        clear hK K
        refine anyZ_done (by kernel_rfl) ?_ _
        go_wp2
        go_ret
        exact ⟨v3.heap.size, M, G, en, per, rfl, nf_fin HN.out HEN.out⟩
end Go.Proofs.YtmfijackgekioaaGreat
