import Derived.Test.YtmfijackgekioaaGreatQEm

/-
  A merge of two sorted pieces, by rotation. For Deflates.
-/
namespace Go.Proofs.YtmfijackgekioaaGreat
open Go.RowKit

theorem Srt.congr {f g : Nat → Mb × Nat} {a b : Nat} (h : Rf.Srt Mb.w f a b) (e : ∀ k, a ≤ k → k < b → g k = f k) : Rf.Srt Mb.w g a b := fun i j h1 h2 h3 => by
  rw [e i h1 (by omega), e j (by omega) h3]; exact h i j h1 h2 h3
theorem Lo.congr {f g : Nat → Mb × Nat} {a m b : Nat} (h : Rf.Lo f a m b) (e : ∀ k, a ≤ k → k < b → g k = f k) : Rf.Lo g a m b := fun i j h1 h2 h3 h4 => by
  by_cases q : j < b
  · rw [e i h1 (by omega), e j (by omega) h4]; exact h i j h1 h2 h3 h4
  · omega
theorem rot_triv (f : Nat → Mb × Nat) {s m e : Nat} (hs : s ≤ m) (he : m ≤ e) (h : ¬ (s < m ∧ m < e)) : Rf.rot f s m e = f := by
  funext k; unfold Rf.rot
  repeat' split
  all_goals first | rfl | (congr 1; omega)

/-- The search's result: all that the cut asks. -/
structure Cut (f : Nat → Mb × Nat) (a m b s : Nat) : Prop where
  h1 : a ≤ s
  h2 : s ≤ m
  h3 : s ≤ (a + b) / 2
  h4 : (a + b) / 2 + m - s ≤ b
  lower : ∀ i j, a ≤ i → i < (a + b) / 2 → (a + b) / 2 ≤ j → j < b → Rf.lx Mb.w (Rf.rot f s m ((a + b) / 2 + m - s) i) (Rf.rot f s m ((a + b) / 2 + m - s) j)
  s1 : Rf.Srt Mb.w (Rf.rot f s m ((a + b) / 2 + m - s)) a s
  s2 : Rf.Srt Mb.w (Rf.rot f s m ((a + b) / 2 + m - s)) s ((a + b) / 2)
  l1 : Rf.Lo (Rf.rot f s m ((a + b) / 2 + m - s)) a s ((a + b) / 2)
  s3 : Rf.Srt Mb.w (Rf.rot f s m ((a + b) / 2 + m - s)) ((a + b) / 2) ((a + b) / 2 + m - s)
  s4 : Rf.Srt Mb.w (Rf.rot f s m ((a + b) / 2 + m - s)) ((a + b) / 2 + m - s) b
  l2 : Rf.Lo (Rf.rot f s m ((a + b) / 2 + m - s)) ((a + b) / 2) ((a + b) / 2 + m - s) b

theorem Cut.of {f : Nat → Mb × Nat} {a m b s lo hi : Nat} (s1 : Rf.Srt Mb.w f a m) (s2 : Rf.Srt Mb.w f m b) (hlo : Rf.Lo f a m b)
    (el : lo = if (a + b) / 2 < m then (a + b) / 2 + m - b else a) (eh : hi = if (a + b) / 2 < m then (a + b) / 2 else m) (h1 : lo ≤ s) (h2 : s ≤ hi)
    (g1 : ∀ c, lo ≤ c → c < s → (f c).1.w ≤ (f ((a + b) / 2 + m - 1 - c)).1.w) (g2 : ∀ c, s ≤ c → c < hi → (f ((a + b) / 2 + m - 1 - c)).1.w < (f c).1.w) : Cut f a m b s := by
  have q1 : a ≤ s ∧ s ≤ m ∧ s ≤ (a + b) / 2 ∧ (a + b) / 2 + m - s ≤ b := by
    by_cases q : (a + b) / 2 < m
    · rw [if_pos q] at el eh; omega
    · rw [if_neg q] at el eh; omega
  have := Rf.merge_cut (wt := Mb.w) (f := f) (a := a) (m := m) (b := b) (s := s) q1.1 q1.2.1 (by omega) q1.2.2.2 (by omega) s1 s2 hlo (fun c c1 c2 c3 c4 => ?_) (fun c c1 c2 c3 => ?_)
  · exact ⟨q1.1, q1.2.1, q1.2.2.1, q1.2.2.2, this.1, this.2.1, this.2.2.1, this.2.2.2.1, this.2.2.2.2.1, this.2.2.2.2.2.1, this.2.2.2.2.2.2⟩
  · refine g1 c ?_ c2
    rw [el]; split <;> omega
  · refine g2 c c1 ?_
    rw [eh]; split <;> omega

/-- What is left when both halves have been merged. -/
theorem Cut.fin {f f2 f3 : Nat → Mb × Nat} {a m b s : Nat} (c : Cut f a m b s) (hmb : m < b) (i1 : Rf.In (Rf.rot f s m ((a + b) / 2 + m - s)) f2 a ((a + b) / 2)) (t1 : Rf.Srt Mb.w f2 a ((a + b) / 2)) (i2 : Rf.In f2 f3 ((a + b) / 2) b) (t2 : Rf.Srt Mb.w f3 ((a + b) / 2) b) :
    Rf.In f f3 a b ∧ Rf.Srt Mb.w f3 a b := by
  have q1 := c.h1
  have q2 := c.h2
  have q3 := c.h3
  have q4 := c.h4
  have r1 : Rf.In f (Rf.rot f s m ((a + b) / 2 + m - s)) a b := (Rf.rot_in f q2 (by omega)).wide q1 q4
  refine ⟨(r1.trans (i1.wide (Nat.le_refl _) (by omega))).trans (i2.wide (by omega) (Nat.le_refl _)), ?_⟩
  refine Rf.Srt.halves (g := Rf.rot f s m ((a + b) / 2 + m - s)) (c := (a + b) / 2) c.lower (Srt.congr t1 (fun k _ hk => i2.1 k (.inl hk))) t2 (fun k h1 h2 => ?_) (fun k h1 h2 => ?_)
  · rw [i2.1 k (.inl h2)]; exact i1.2 k h1 h2
  · obtain ⟨l, l1, l2, e⟩ := i2.2 k h1 h2
    exact ⟨l, l1, l2, e.trans (i1.1 l (.inr l1))⟩
theorem Cut.low {f : Nat → Mb × Nat} {a m b s : Nat} (c : Cut f a m b s) (h : ¬ (a < s ∧ s < (a + b) / 2)) : Rf.Srt Mb.w (Rf.rot f s m ((a + b) / 2 + m - s)) a ((a + b) / 2) := by
  have q1 := c.h1
  have q3 := c.h3
  by_cases e : s = a
  · have := c.s2; rwa [e] at this ⊢
  · have e2 : s = (a + b) / 2 := by omega
    have := c.s1; rwa [← e2] at this ⊢
theorem Cut.high {f : Nat → Mb × Nat} {a m b s : Nat} (c : Cut f a m b s) (h : ¬ ((a + b) / 2 < (a + b) / 2 + m - s ∧ (a + b) / 2 + m - s < b)) : Rf.Srt Mb.w (Rf.rot f s m ((a + b) / 2 + m - s)) ((a + b) / 2) b := by
  have q2 := c.h2
  have q4 := c.h4
  have t3 := c.s3
  have t4 := c.s4
  generalize he : (a + b) / 2 + m - s = e at *
  by_cases q : e = (a + b) / 2
  · rwa [q] at t4 ⊢
  · have e2 : e = b := by omega
    rwa [e2] at t3 ⊢
end Go.Proofs.YtmfijackgekioaaGreat
