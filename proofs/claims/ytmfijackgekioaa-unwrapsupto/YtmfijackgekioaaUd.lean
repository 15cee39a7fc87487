/-
  A table of codes: the map, and what it holds.
-/
import Derived.Test.YtmfijackgekioaaUb
import Derived.Test.YtmfijackgekioaaUc
import Derived.DeepKeys4
import Derived.Maps.OwnSet
namespace Go.Proofs.Ytmfijackgekioaa
open Go.RowKit Go.Maps

theorem laidOut : laidOutB Try.prog = true := by kernel_rfl
theorem codeRow : (116 : TypeId) < Try.prog.types.size := of_decide_eq_true (by kernel_rfl)
theorem codeWide : (match Try.prog.underlying 116 with | some (.array _ _) | some (.struct _) => true | _ => false) = true := by kernel_rfl
set_option maxRecDepth 100000 in
theorem codeKeyed : Keyed Try.prog 116 := Keyed.of_law (deep_law_laid laidOut (m := 3) (by omega) codeRow (by kernel_rfl) codeWide)
theorem zero3 (w : World) : (zeroValue 3).run Try.prog w = .ok (.int .i64 0) w := by kernel_rfl

/-- A code as a value, and as a key. -/
abbrev codeV (a l : Nat) : Value := .agg #[.int .u16 a, .int .u16 l]
theorem codeCells : Try.prog.cellsOf 116 = 2 := by kernel_rfl
theorem cells16 : Try.prog.cellsOf 69 = 1 := by kernel_rfl
theorem wf16 (a : Nat) (h : a < 65536) : (Lit.int .u16 (a : Int)).wf = true := by
  have e1 : IntKind.u16.min = 0 := by decide
  have e2 : IntKind.u16.max = 65535 := by decide
  simp only [Lit.wf, e1, e2, Bool.and_eq_true, decide_eq_true_eq]
  omega
theorem codeType : Try.prog.keyType 116 = true := by kernel_rfl
theorem key_some (a l : Nat) (ha : a < 65536) (hl : l < 65536) : ∃ x, keyOf Try.prog 116 (codeV a l) = some x := by
    obtain ⟨m, hm⟩ : ∃ m, Try.prog.types.size = m + 1 := ⟨Try.prog.types.size - 1, by have : 0 < Try.prog.types.size := Nat.lt_of_le_of_lt (Nat.zero_le _) codeRow; omega⟩
    have h1 : (Lit.int .u16 (a : Int)).wf = true := wf16 a ha
    have h2 : (Lit.int .u16 (l : Int)).wf = true := wf16 l hl
    unfold keyOf
    rw [Try.underlying116]
    simp only
    rw [if_pos (by rw [codeType]; simp [Value.formed, Try.underlying116, codeCells]), hm]
    simp [Program.keyLits, Try.underlying116, Try.underlying69, codeCells, cells16, Value.cells, h1, h2]
theorem key_all : ∃ f : Nat → Nat → Lit, ∀ a l, a < 65536 → l < 65536 → keyOf Try.prog 116 (codeV a l) = some (f a l) :=
  ⟨fun a l => if h : a < 65536 ∧ l < 65536 then Classical.choose (key_some a l h.1 h.2) else .bool false, fun a l ha hl => by
    simp only [dif_pos (And.intro ha hl)]; exact Classical.choose_spec (key_some a l ha hl)⟩
noncomputable def kl : Nat → Nat → Lit := Classical.choose key_all
theorem hkl (a l : Nat) (ha : a < 65536) (hl : l < 65536) : keyOf Try.prog 116 (codeV a l) = some (kl a l) := Classical.choose_spec key_all a l ha hl

theorem kl_inj {a l a' l' : Nat} (ha : a < 65536) (hl : l < 65536) (ha' : a' < 65536) (hl' : l' < 65536) (h : kl a l = kl a' l') : a = a' ∧ l = l' := by
  have e := codeKeyed.inj (hkl a l ha hl) (by rw [h]; exact hkl a' l' ha' hl')
  simp only [codeV, Value.agg.injEq, Array.mk.injEq, List.cons.injEq, Value.int.injEq, true_and, and_true] at e
  omega
theorem kl_key {a l : Nat} (ha : a < 65536) (hl : l < 65536) : WideAt.IsKeyLit (kl a l) := codeKeyed.key (hkl a l ha hl)

/-- A symbol whose code has been laid down: those of lesser lengths, and of this one those below i. -/
def Done (ls : List Int) (n i j : Nat) : Prop := j < ls.length ∧ 0 < ls.getD j 0 ∧ (ls.getD j 0 ≤ (n : Int) ∨ ls.getD j 0 = ((n + 1 : Nat) : Int) ∧ j < i)
theorem Done.next {ls : List Int} {n i j : Nat} (h : ls.getD i 0 ≠ ((n + 1 : Nat) : Int)) : Done ls n (i + 1) j ↔ Done ls n i j := by
  unfold Done
  constructor
  · rintro ⟨a, b, c⟩
    refine ⟨a, b, c.imp id fun ⟨x, y⟩ => ⟨x, ?_⟩⟩
    by_cases e : j = i
    · subst e; exact absurd x h
    · omega
  · rintro ⟨a, b, c⟩
    exact ⟨a, b, c.imp id fun ⟨x, y⟩ => ⟨x, by omega⟩⟩
theorem Done.row {ls : List Int} {n j : Nat} : Done ls n ls.length j ↔ Done ls (n + 1) 0 j := by
  unfold Done
  constructor
  · rintro ⟨a, b, c⟩; exact ⟨a, b, by omega⟩
  · rintro ⟨a, b, c⟩; exact ⟨a, b, by omega⟩

/-- What the map holds when the codes of lengths up to n, and of n + 1 those of symbols below i, have been laid down; the shortest and the longest length. -/
structure Held (D : DataW Unit) (ls : List Int) (n i sh lo : Nat) : Prop where
  tidy : Tidy D
  none : ∀ a l : Nat, a < 65536 → l < 65536 → (∀ j, Done ls n i j → ls.getD j 0 = (l : Int) → (Rf.codes ls).getD j 0 ≠ (a : Int)) → Maps.has D (kl a l) = false
  some : ∀ j a l : Nat, a < 65536 → l < 65536 → Done ls n i j → ls.getD j 0 = (l : Int) → (Rf.codes ls).getD j 0 = (a : Int) → Maps.has D (kl a l) = true ∧ D.atKey (kl a l) (.lit (.int .i64 0)) = .lit (.int .i64 (j : Int))
  empty : Maps.size D = 0 → ∀ j, ¬ Done ls n i j
  short : Maps.size D ≠ 0 → ∀ j, Done ls n i j → (sh : Int) ≤ ls.getD j 0
  long : ∀ j, Done ls n i j → ls.getD j 0 ≤ (lo : Int)
  lo15 : lo ≤ 15
  sh15 : sh ≤ 15
  shn : sh ≤ n + 1

theorem Held.start (ls : List Int) : Held (.map []) ls 0 0 0 0 where
  tidy := tidy_empty
  none _ _ _ _ _ := rfl
  some j a l _ _ h := by unfold Done at h; omega
  empty _ j h := by unfold Done at h; omega
  short h := absurd rfl h
  long j h := by unfold Done at h; omega
  lo15 := by omega
  sh15 := by omega
  shn := by omega
theorem Held.next {D : DataW Unit} {ls : List Int} {n i sh lo : Nat} (h : Held D ls n i sh lo) (hi : ls.getD i 0 ≠ ((n + 1 : Nat) : Int)) : Held D ls n (i + 1) sh lo where
  tidy := h.tidy
  none a l ha hl hh := h.none a l ha hl fun j hj => hh j ((Done.next hi).2 hj)
  some j a l ha hl hj := h.some j a l ha hl ((Done.next hi).1 hj)
  empty e j hj := h.empty e j ((Done.next hi).1 hj)
  short e j hj := h.short e j ((Done.next hi).1 hj)
  long j hj := h.long j ((Done.next hi).1 hj)
  lo15 := h.lo15
  sh15 := h.sh15
  shn := h.shn
theorem Held.row {D : DataW Unit} {ls : List Int} {n sh lo : Nat} (h : Held D ls n ls.length sh lo) : Held D ls (n + 1) 0 sh lo where
  tidy := h.tidy
  none a l ha hl hh := h.none a l ha hl fun j hj => hh j (Done.row.1 hj)
  some j a l ha hl hj := h.some j a l ha hl (Done.row.2 hj)
  empty e j hj := h.empty e j (Done.row.2 hj)
  short e j hj := h.short e j (Done.row.2 hj)
  long j hj := h.long j (Done.row.2 hj)
  lo15 := h.lo15
  sh15 := h.sh15
  shn := by have := h.shn; omega

theorem Held.put {D : DataW Unit} {ls : List Int} {n i sh lo : Nat} (h : Held D ls n i sh lo) (hn : n < 15) (hi : i < ls.length) (hl : ls.getD i 0 = ((n + 1 : Nat) : Int)) (hs : Rf.nx ls n i < 65536) :
    Held (D.put (kl (Rf.nx ls n i) (n + 1)) (.lit (.int .i64 (i : Int)))) ls n (i + 1) (if Maps.size D = 0 then n + 1 else sh) (n + 1) := by
  have hc := Rf.codes_at ls n i hn hi hl
  have hD := h.tidy.isMap
  have key := kl_key hs (show n + 1 < 65536 by omega)
  have hnew : ¬ Done ls n i i := by unfold Done; omega
  have hsplit : ∀ j, Done ls n (i + 1) j → j = i ∨ Done ls n i j := by
    rintro j ⟨a, b, c⟩
    by_cases e : j = i
    · exact .inl e
    · exact .inr ⟨a, b, c.imp id fun ⟨x, y⟩ => ⟨x, by omega⟩⟩
  have hold : ∀ j, Done ls n i j → Done ls n (i + 1) j := fun j ⟨a, b, c⟩ => ⟨a, b, c.imp id fun ⟨x, y⟩ => ⟨x, by omega⟩⟩
  have hself : Done ls n (i + 1) i := ⟨hi, by omega, .inr ⟨hl, by omega⟩⟩
  -- the key is new
  have hfree : Maps.has D (kl (Rf.nx ls n i) (n + 1)) = false := h.none _ _ hs (by omega) fun j hj hlj hcj => by
    have e := Rf.codes_inj ls n j i hn hj.1 hi hlj hl (by rw [hcj, hc])
    subst e
    exact hnew hj
  refine ⟨h.tidy.put key _, ?_, ?_, ?_, ?_, ?_, by omega, by have := h.sh15; split <;> omega, by have := h.shn; split <;> omega⟩
  · intro a l ha hl' hh
    by_cases e : kl a l = kl (Rf.nx ls n i) (n + 1)
    · obtain ⟨rfl, rfl⟩ := kl_inj ha hl' hs (by omega) e
      exact absurd hc (hh i hself hl)
    · rw [has_put_other e]
      exact h.none a l ha hl' fun j hj => hh j (hold j hj)
  · intro j a l ha hl' hj hlj hcj
    rcases hsplit j hj with rfl | hj'
    · have e1 : l = n + 1 := by omega
      have e2 : a = Rf.nx ls n j := by rw [hc] at hcj; exact (Int.ofNat.inj hcj).symm
      subst e1 e2
      exact ⟨has_put_same hD key _, atKey_put_same hD key _ _⟩
    · have e : kl a l ≠ kl (Rf.nx ls n i) (n + 1) := fun e => by
        obtain ⟨rfl, rfl⟩ := kl_inj ha hl' hs (by omega) e
        have e := Rf.codes_inj ls n j i hn hj'.1 hi hlj hl (by rw [hcj, hc])
        subst e
        exact hnew hj'
      rw [has_put_other e, atKey_put_other e]
      exact h.some j a l ha hl' hj' hlj hcj
  · intro e
    rw [size_put h.tidy, if_neg (by rw [hfree]; decide)] at e
    omega
  · intro _ j hj
    split
    · rename_i e0
      rcases hsplit j hj with rfl | hj'
      · omega
      · exact absurd hj' (h.empty e0 j)
    · rename_i e0
      rcases hsplit j hj with rfl | hj'
      · have := h.shn
        omega
      · exact h.short e0 j hj'
  · intro j hj
    rcases hsplit j hj with rfl | hj'
    · omega
    · have := hj'.2.2
      omega

end Go.Proofs.Ytmfijackgekioaa
