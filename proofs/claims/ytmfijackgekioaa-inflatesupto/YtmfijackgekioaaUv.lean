/-
  Unpacking by the program: what stands in memory at the start.
-/
import Derived.Test.YtmfijackgekioaaUq
import Derived.Test.YtmfijackgekioaaUu
import Derived.Test.YtmfijackgekioaaRj
import Derived.Laws.BytesArg
import Derived.Laws.IdiomStrings
import Derived.Laws.EntriesVeiled
namespace Go.Proofs.Ytmfijackgekioaa
open Go.RowKit Go.Maps

/-- What came out, as a string. -/
theorem own_string {w : World} {base n : Nat} {v : Value} {l : List UInt8} (h : w.ownsRow base 5 1 v n (l.map byteV)) (hn : l.length = n) : (convert 39 9 v).run Try.prog w = .ok (.string ⟨l.toArray⟩) w := by
  subst hn
  rcases h.2 with ⟨rfl, h0⟩ | ⟨g, cap, cur, rfl, hb, hg, h1, h2, h3, ht⟩
  · have e : l = [] := List.eq_nil_of_length_eq_zero h0
    subst e
    exact run_convert_bytes_nil (P := Try.prog) w 39 5 Try.underlying39 Try.underlying5 0 0 9 Try.underlying9
  · refine run_convert_bytes_back (P := Try.prog) w 39 9 5 ⟨g, 0, none⟩ cap l Try.underlying39 Try.underlying5 Try.underlying9 (fun j hj => ?_)
    rw [Addr.add_mid, Nat.zero_add, h.cellAt j (by omega)]
    simp [hj]

theorem alloc4 (w : World) (a b c d : Array Value) (ta tb tc td : TypeId) :
    ((((w.alloc (.cells a ta)).alloc (.cells b tb)).alloc (.cells c tc)).alloc (.cells d td)).heap.size = w.heap.size + 4 ∧ ((((w.alloc (.cells a ta)).alloc (.cells b tb)).alloc (.cells c tc)).alloc (.cells d td)).heap[w.heap.size]? = some (.cells a ta (0, 0)) ∧
    ((((w.alloc (.cells a ta)).alloc (.cells b tb)).alloc (.cells c tc)).alloc (.cells d td)).heap[w.heap.size + 1]? = some (.cells b tb (0, 0)) ∧ ((((w.alloc (.cells a ta)).alloc (.cells b tb)).alloc (.cells c tc)).alloc (.cells d td)).heap[w.heap.size + 3]? = some (.cells d td (0, 0)) ∧
    Below w.heap.size w ((((w.alloc (.cells a ta)).alloc (.cells b tb)).alloc (.cells c tc)).alloc (.cells d td)) := by
  refine ⟨by simp, blk_old (blk_old (blk_old (blk_new w _) _) _) _, ?_, ?_, ((((Below.refl _ _).alloc (Nat.le_refl _) _).alloc (by simp) _).alloc (by simp; omega) _).alloc (by simp; omega) _⟩
  · have h := blk_new (w.alloc (.cells a ta)) (.cells b tb)
    rw [World.size_alloc] at h
    exact blk_old (blk_old h _) _
  · have h := blk_new (((w.alloc (.cells a ta)).alloc (.cells b tb)).alloc (.cells c tc)) (.cells d td)
    rw [World.size_alloc, World.size_alloc, World.size_alloc] at h
    exact h

set_option maxRecDepth 100000 in
set_option maxHeartbeats 1000000 in
theorem sink_of (p : Addr) (lim : Int) (w : World) :
    Calls Try.prog 34 #[.pointer (some p), .int .i64 lim] w fun e w' => e = .returned (.agg #[.func (.func 55) #[] #[.pointer (some ⟨w.heap.size + 1, 0, none⟩), .pointer (some ⟨w.heap.size, 0, none⟩)],
        .func (.func 56) #[] #[.pointer (some ⟨w.heap.size + 3, 0, none⟩), .pointer (some ⟨w.heap.size, 0, none⟩)], .func (.func 57) #[] #[.pointer (some ⟨w.heap.size, 0, none⟩), .pointer (some ⟨w.heap.size + 3, 0, none⟩)]]) ∧
      w'.heap.size = w.heap.size + 4 ∧ w'.heap[w.heap.size]? = some (.cells #[.pointer (some p)] 63 (0, 0)) ∧
      w'.heap[w.heap.size + 1]? = some (.cells #[.int .i64 lim] 3 (0, 0)) ∧ w'.heap[w.heap.size + 3]? = some (.cells #[.func (.func 55) #[] #[.pointer (some ⟨w.heap.size + 1, 0, none⟩), .pointer (some ⟨w.heap.size, 0, none⟩)]] 57 (0, 0)) ∧ Below w.heap.size w w' := by
  have hmf : ∀ (fn : Fn) (first cap : Array Value) (w : World), (Instr.makeFunc fn first cap).run Try.prog w = .ok (.func fn first cap) w := fun _ _ _ _ => rfl
  go_enter Try.func34, Try.ntmps34
  go_wp2
  have h4 := alloc4 w #[.pointer (some p)] #[.int .i64 lim] #[.func (.func 55) #[] #[.pointer (some ⟨w.heap.size + 1, 0, none⟩), .pointer (some ⟨w.heap.size, 0, none⟩)],
        .func (.func 56) #[] #[.pointer (some ⟨w.heap.size + 3, 0, none⟩), .pointer (some ⟨w.heap.size, 0, none⟩)], .func (.func 57) #[] #[.pointer (some ⟨w.heap.size, 0, none⟩), .pointer (some ⟨w.heap.size + 3, 0, none⟩)]]
        #[.func (.func 55) #[] #[.pointer (some ⟨w.heap.size + 1, 0, none⟩), .pointer (some ⟨w.heap.size, 0, none⟩)]] 63 3 61 57
  exact bodyPost_ret (v := .agg #[.func (.func 55) #[] #[.pointer (some ⟨w.heap.size + 1, 0, none⟩), .pointer (some ⟨w.heap.size, 0, none⟩)],
        .func (.func 56) #[] #[.pointer (some ⟨w.heap.size + 3, 0, none⟩), .pointer (some ⟨w.heap.size, 0, none⟩)], .func (.func 57) #[] #[.pointer (some ⟨w.heap.size, 0, none⟩), .pointer (some ⟨w.heap.size + 3, 0, none⟩)]])
    (by simp [results, Try.results34, go_sem]) rfl ⟨rfl, h4⟩

theorem sink34 (R : Nat) (lim : Int) (w : World) (hw : w.heap.size = R + 2) :
    Calls Try.prog 34 #[.pointer (some ⟨R + 1, 0, none⟩), .int .i64 lim] w fun e w' => e = .returned (sinkV R) ∧ w'.heap.size = R + 6 ∧ w'.heap[R + 2]? = some (.cells #[.pointer (some ⟨R + 1, 0, none⟩)] 63 (0, 0)) ∧
      w'.heap[R + 3]? = some (.cells #[.int .i64 lim] 3 (0, 0)) ∧ w'.heap[R + 5]? = some (.cells #[needV R] 57 (0, 0)) ∧ Below (R + 2) w w' := by
  have h := sink_of ⟨R + 1, 0, none⟩ lim w
  rw [hw] at h
  exact h

theorem Once.kept {w w' : World} {b R : Nat} (h : Once w b) (hb : R + 5 < b) (F : FrP R w w') : Once w' b := by
  have e : ∀ k, R + 5 < k → k < w.heap.size → (∀ c fr, w.heap[k]? ≠ some (.cells c 5 fr)) → w'.heap[k]? = w.heap[k]? := fun k h1 h2 h3 => F.other k h2 (by omega) (by omega) h3
  refine ⟨(e b hb (lt_of_block h.f) (fun c fr => by rw [h.f]; simp)).trans h.f, ?_⟩
  rcases h.ex with ⟨g1, g2⟩ | ⟨M1, s1, l1, M2, s2, l2, g1, g2, T1, T2, m1, m2⟩
  · exact .inl ⟨(e _ (by omega) (lt_of_block g1) (fun c fr => by rw [g1]; simp)).trans g1, (e _ (by omega) (lt_of_block g2) (fun c fr => by rw [g2]; simp)).trans g2⟩
  · exact .inr ⟨M1, s1, l1, M2, s2, l2, (e _ (by omega) (lt_of_block g1) (fun c fr => by rw [g1]; simp)).trans g1, (e _ (by omega) (lt_of_block g2) (fun c fr => by rw [g2]; simp)).trans g2, T1.of (e _ (by omega) T1.lt T1.notBytes), T2.of (e _ (by omega) T2.lt T2.notBytes), m1, m2⟩
/-- What was changed of the fixed tables is not the reader's. -/
theorem FrP.ofOnce {R b : Nat} {w w' : World} (hb : R + 5 < b) (hR : R ≤ w.heap.size) (k : Kp (fun k => k = b + 1 ∨ k = b + 2) w w') : Below R w w' := k.below hR (fun k _ h => by omega)
theorem Pg.once {w w' : World} {s : ByteArray} {R b : Nat} {limit : Int} {st : Rf.St} {ov : Value} (h : Pg w s R limit st ov) (hb : R + 5 < b) (k : Kp (fun k => k = b + 1 ∨ k = b + 2) w w') (hno : ∀ g, ov.ownBlock = some g → g ≠ b + 1 ∧ g ≠ b + 2) : Pg w' s R limit st ov := by
  have hlt := h.lt
  have e : ∀ j, j ≤ R + 5 → w'.heap[j]? = w.heap[j]? := fun j hj => k.block j (by omega) (by omega)
  exact ⟨(e R (by omega)).trans h.rd, (e _ (by omega)).trans h.o, (e _ (by omega)).trans h.p, (e _ (by omega)).trans h.l, (e _ (by omega)).trans h.n, own_kept h.ho (fun g hg => k.block g (h.ho.lt g hg).2 (by have := hno g hg; omega)), h.hp, h.hs, h.hl, h.hol, h.nb, h.nf⟩
theorem Pg.notOwn {w : World} {s : ByteArray} {R : Nat} {limit : Int} {st : Rf.St} {ov : Value} (h : Pg w s R limit st ov) {k : Nat} (hk : ∀ c fr, w.heap[k]? ≠ some (.cells c 5 fr)) : ∀ g, ov.ownBlock = some g → g ≠ k := by
  intro g hg e
  subst e
  obtain ⟨cur, q⟩ := own_type h.ho g hg
  exact hk _ _ q

end Go.Proofs.Ytmfijackgekioaa
