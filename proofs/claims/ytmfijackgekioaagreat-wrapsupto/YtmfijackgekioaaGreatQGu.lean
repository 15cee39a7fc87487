import Derived.Test.YtmfijackgekioaaGreatQGtGz2
import Derived.Test.YtmfijackgekioaaGreatQRnRi2

/-
  Deflate, and what the statement asks of it. For Deflates.
-/
namespace Go.Proofs.YtmfijackgekioaaGreat
open Go.RowKit

set_option maxRecDepth 100000 in
set_option maxHeartbeats 2000000 in
theorem right14 (P b : ByteArray) (level : Nat) (W ks : List Int) (w : World) (hl : level ≤ 2) (hP : Rf.Holds P.data.toList W) (hwh : Rf.Whole b.data.toList b.data.toList.length W ks) (hsz : (W.length + 7) / 8 ≤ b.size + 5 + 5 * (b.size / 65535)) (hks : ∀ x ∈ ks, 0 ≤ x ∧ x ≤ (level : Int)) (hb : b.size ≤ 4500000) :
    Calls Tryz.prog 9 #[.string P, .string b, .int .i64 level] w fun e w' => e = .returned (.bool true) ∧ Below w.heap.size w w' := by
  have hbl : b.data.toList.length = b.size := by rw [Array.length_toList]; rfl
  have hPl : P.data.toList.length = P.size := by rw [Array.length_toList]; rfl
  have hPs : P.size = (W.length + 7) / 8 := by rw [← hPl]; exact (Rf.used_whole hP).symm
  have hinf := inflate10k P (b.size : Int) w (by omega)
  have he : Rf.inflate (lw P) (b.size : Int) = ⟨W.length, false, false, b.data.toList, ks⟩ := by
    have := Rf.inflate_whole hwh hP
    rw [hbl] at this
    exact this
  rw [he] at hinf
  have hbb : (⟨b.data.toList.toArray⟩ : ByteArray) = b := by cases b; simp
  simp only [hbb] at hinf
  have hinf := hinf.mono (fun e w' h => h ⟨trivial, trivial⟩)
  rw [← hPs] at hinf hsz
  have hszi : ¬ (P.size : Int) > (b.size : Int) + 5 + 5 * ((b.size : Int) / 65535) := by omega
  have HB : Hid (b.size ≤ 4500000 ∧ P.size ≤ 5000000) := ⟨hb, by omega⟩
  have HKS : Hid (∀ x ∈ ks, 0 ≤ x ∧ x ≤ (level : Int)) := hks
  clear he hwh hP hPs hsz hbl hPl hks
  go_enter Tryz.func9, Tryz.ntmps9
  go_wp2_with fail
  refine hinf.mono ?_
  rintro e w1 ⟨kv, base, rfl, hown, hb1⟩
  clear hinf
  obtain ⟨n, hn⟩ : ∃ n, ks.length = n := ⟨_, rfl⟩
  rw [hn] at hown
  obtain ⟨ao, cap, rfl⟩ := own_slice hown
  have HO : Hid (w1.ownsRow base 3 1 (.slice ao n cap) n (vals ks)) := hown
  have hnm : (n : Int) ≤ 9223372036854775807 := by
    rcases hown.2 with ⟨_, h2⟩ | ⟨g, c', cur, _, _, _, h3, h4, _⟩
    · omega
    · unfold maxLen at h4; omega
  clear hown
  go_wp2
  go_loop [11] (fun i => ∃ j : Nat, j ≤ n ∧ i = .int .i64 j) (fun i => n - (intOf i).toNat)
  case atStart => exact ⟨0, Nat.zero_le _, rfl⟩
  case round =>
    obtain ⟨j, hj, rfl⟩ := hrel
    by_cases hlt : j < n
    · have hlti : (j : Int) < (n : Int) := by omega
      obtain ⟨g, rfl⟩ : ∃ g, ao = some ⟨g, 0, none⟩ := by
        rcases HO.out.2 with ⟨h1, h2⟩ | ⟨g, c', cur, h1, _⟩
        · omega
        · simp only [Value.slice.injEq] at h1
          exact ⟨g, h1.1⟩
      have hc := HO.out.cellAt j (by omega)
      have hx : (vals ks)[j]? = some (.int .i64 (ks.getD j 0)) := by
        rw [vals, List.getElem?_map, List.getElem?_eq_getElem (by omega), List.getD_eq_getElem?_getD, List.getElem?_eq_getElem (by omega)]
        rfl
      rw [hx] at hc
      have hr := HKS.out (ks.getD j 0) (by rw [List.getD_eq_getElem?_getD, List.getElem?_eq_getElem (by omega)]; exact List.getElem_mem _)
      clear hx
      generalize ks.getD j 0 = x at *
      by_cases h0 : level = 0
      · subst h0
        obtain rfl : x = 0 := by omega
        go_wp2
        go_round
        case rel => exact ⟨j + 1, by omega, by go_num⟩
        case measure => simp [intOf]; omega
      · by_cases h1 : level = 1
        · subst h1
          have hx2 : ¬ x = 2 := by omega
          go_wp2
          go_round
          case rel => exact ⟨j + 1, by omega, by go_num⟩
          case measure => simp [intOf]; omega
        · obtain rfl : level = 2 := by omega
          go_wp2
          go_round
          case rel => exact ⟨j + 1, by omega, by go_num⟩
          case measure => simp [intOf]; omega
    · go_wp2
      go_ret
      exact ⟨rfl, hb1⟩

end Go.Proofs.YtmfijackgekioaaGreat
