import Derived.Test.YtmfijackgekioaaGreatQUwVc6

/-
  The document's examples as the statements call them; which of n things a raw number speaks of.
-/
namespace Go.Proofs.YtmfijackgekioaaGreat
open Go.RowKit

/-- Which of n things. -/
def pickF (c : Int) (n : Int) : Int := (if c < 0 then -(c + 1) else c) % n
theorem pickF_range (c : Int) {n : Int} (h : 0 < n) : 0 ≤ pickF c n ∧ pickF c n < n := ⟨Int.emod_nonneg _ (by omega), Int.emod_lt_of_pos _ h⟩
set_option maxRecDepth 100000 in
set_option maxHeartbeats 2000000 in
theorem pickK (c n : Int) (w : World) (h1 : -9223372036854775808 ≤ c) (h2 : c ≤ 9223372036854775807) (h3 : 0 < n) (h4 : n ≤ 9223372036854775807) :
    Calls Tryz.prog 12 #[.int .i64 c, .int .i64 n] w fun e w' => e = .returned (.int .i64 (pickF c n)) ∧ w' = w := by
  have hn0 : n ≠ 0 := by omega
  have hn1 : n ≠ -1 := by omega
  by_cases h : c < 0
  · have HP : Hid (pickF c n = (-(c + 1)) % n) := by show _ = _; rw [pickF, if_pos h]
    have HE : Hid ((-(c + 1)).tmod n = (-(c + 1)) % n) := Int.tmod_eq_emod_of_nonneg (by omega)
    go_enter Tryz.func12, Tryz.ntmps12
    go_wp2
    go_ret
    exact ⟨ret_int (by rw [HP.out, ← HE.out, Int.neg_tmod]), rfl⟩
  · have HP : Hid (pickF c n = c % n) := by show _ = _; rw [pickF, if_neg h]
    have h0 : 0 ≤ c := by omega
    go_enter Tryz.func12, Tryz.ntmps12
    go_wp2
    go_ret
    exact ⟨ret_int (by rw [HP.out]), rfl⟩

theorem inflate_aaaa : Rf.inflate (lw ⟨#[75, 4, 2, 0]⟩) 4 = ⟨30, false, false, [97, 97, 97, 97], [1]⟩ := by kernel_rfl
theorem inflate_a : Rf.inflate (lw ⟨#[75, 4, 0, 0, 98, 0, 98]⟩) 1 = ⟨18, false, false, [97], [1]⟩ := by kernel_rfl
theorem unwrap_a : wcode ⟨#[120, 156, 75, 4, 0, 0, 98, 0, 98]⟩ 1 = 0 ∧ wtext ⟨#[120, 156, 75, 4, 0, 0, 98, 0, 98]⟩ 1 = ⟨#[97]⟩ := by
  have hm : mid ⟨#[120, 156, 75, 4, 0, 0, 98, 0, 98]⟩ 1 = ⟨18, false, false, [97], [1]⟩ := inflate_a
  have hc : wcode ⟨#[120, 156, 75, 4, 0, 0, 98, 0, 98]⟩ 1 = 0 := by
    unfold wcode
    rw [hm]
    decide +kernel
  exact ⟨hc, by rw [wtext, hc, hm]; rfl⟩

set_option maxRecDepth 100000 in
set_option maxHeartbeats 2000000 in
theorem knownK (w : World) : Calls Tryz.prog 10 #[] w fun e w' => e = .returned (.bool true) ∧ Below w.heap.size w w' := by
  have h1 := inflate11 ⟨#[75, 4, 2, 0]⟩ 4 w (by decide) (by decide) (by decide)
  have h2 := fun v => unwrap15 ⟨#[120, 156, 75, 4, 0, 0, 98, 0, 98]⟩ 1 v (by decide) (by decide) (by decide)
  rw [inflate_aaaa] at h1
  rw [unwrap_a.1, unwrap_a.2] at h2
  have ea : answer ⟨30, false, false, [97, 97, 97, 97], [1]⟩ = .tuple #[.string ⟨#[97, 97, 97, 97]⟩, .int .i64 4, .int .i64 0] := rfl
  rw [ea] at h1
  clear ea
  go_enter Tryz.func10, Tryz.ntmps10
  go_wp2_with fail
  refine h1.mono ?_
  rintro e w1 ⟨rfl, b1⟩
  go_wp2_with fail
  refine (h2 _).mono ?_
  rintro e w2 ⟨rfl, -, b2⟩
  go_wp2
  go_ret
  exact ⟨rfl, b1.trans (b2.mono b1.size)⟩
end Go.Proofs.YtmfijackgekioaaGreat
