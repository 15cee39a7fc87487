import Derived.Test.YtmfijackgekioaaQ52
import Derived.Test.YtmfijackgekioaaQ21

/-
  Deflate, and what the statement asks of it. For Deflates.
-/
namespace Go.Proofs.Ytmfijackgekioaa
open Go.RowKit

set_option maxRecDepth 100000 in
set_option maxHeartbeats 2000000 in
theorem right14 (P b : ByteArray) (level : Nat) (W ks : List Int) (w : World) (hl : level ≤ 2) (hP : Rf.Holds P.data.toList W) (hwh : Rf.Whole b.data.toList b.data.toList.length W ks) (hsz : (W.length + 7) / 8 ≤ b.size + 5 + 5 * (b.size / 65535)) (hks : ∀ x ∈ ks, 0 ≤ x ∧ x ≤ (level : Int)) (hb : b.size ≤ 4500000) :
    Calls Try.prog 14 #[.string P, .string b, .int .i64 level] w fun e w' => e = .returned (.bool true) ∧ Below w.heap.size w w' := by
  have hbl : b.data.toList.length = b.size := by rw [Array.length_toList]; rfl
  have hPl : P.data.toList.length = P.size := by rw [Array.length_toList]; rfl
  have hPs : P.size = (W.length + 7) / 8 := by rw [← hPl]; exact (Rf.used_whole hP).symm
  have hinf := inflate10k P (b.size : Int) w (by omega)
  have he : Rf.inflate (lw P) (b.size : Int) = ⟨W.length, false, false, b.data.toList, ks⟩ := by
    have := Rf.inflate_whole hwh hP
    rw [hbl] at this
    exact this
  rw [he] at hinf
  have hbb : (⟨b.data.toList.toArray⟩ : ByteArray) = b := by cases b; simp
  simp only [hbb] at hinf
  have hinf := hinf.mono (fun e w' h => h ⟨trivial, trivial⟩)
  rw [← hPs] at hinf hsz
  have hszi : ¬ (P.size : Int) > (b.size : Int) + 5 + 5 * ((b.size : Int) / 65535) := by omega
  have HB : Hid (b.size ≤ 4500000 ∧ P.size ≤ 5000000) := ⟨hb, by omega⟩
  have HKS : Hid (∀ x ∈ ks, 0 ≤ x ∧ x ≤ (level : Int)) := hks
  clear he hwh hP hPs hsz hbl hPl hks
  go_enter Try.func14, Try.ntmps14
  go_wp2_with fail
  refine hinf.mono ?_
  rintro e w1 ⟨kv, base, rfl, hown, hb1⟩
  clear hinf
  obtain ⟨n, hn⟩ : ∃ n, ks.length = n := ⟨_, rfl⟩
  rw [hn] at hown
  obtain ⟨ao, cap, rfl⟩ := own_slice hown
  have HO : Hid (w1.ownsRow base 3 1 (.slice ao n cap) n (vals ks)) := hown
  have hnm : (n : Int) ≤ 9223372036854775807 := by
    rcases hown.2 with ⟨_, h2⟩ | ⟨g, c', cur, _, _, _, h3, h4, _⟩
    · omega
    · unfold maxLen at h4; omega
  clear hown
  go_wp2
  go_loop [11] (fun i => ∃ j : Nat, j ≤ n ∧ i = .int .i64 j) (fun i => n - (intOf i).toNat)
  case atStart => exact ⟨0, Nat.zero_le _, rfl⟩
  case round =>
    obtain ⟨j, hj, rfl⟩ := hrel
    by_cases hlt : j < n
    · have hlti : (j : Int) < (n : Int) := by omega
      obtain ⟨g, rfl⟩ : ∃ g, ao = some ⟨g, 0, none⟩ := by
        rcases HO.out.2 with ⟨h1, h2⟩ | ⟨g, c', cur, h1, _⟩
        · omega
        · simp only [Value.slice.injEq] at h1
          exact ⟨g, h1.1⟩
      have hc := HO.out.cellAt j (by omega)
      have hx : (vals ks)[j]? = some (.int .i64 (ks.getD j 0)) := by
        rw [vals, List.getElem?_map, List.getElem?_eq_getElem (by omega), List.getD_eq_getElem?_getD, List.getElem?_eq_getElem (by omega)]
        rfl
      rw [hx] at hc
      have hr := HKS.out (ks.getD j 0) (by rw [List.getD_eq_getElem?_getD, List.getElem?_eq_getElem (by omega)]; exact List.getElem_mem _)
      clear hx
      generalize ks.getD j 0 = x at *
      by_cases h0 : level = 0
      · subst h0
        obtain rfl : x = 0 := by omega
        go_wp2
        go_round
        case rel => exact ⟨j + 1, by omega, by go_num⟩
        case measure => simp [intOf]; omega
      · by_cases h1 : level = 1
        · subst h1
          have hx2 : ¬ x = 2 := by omega
          go_wp2
          go_round
          case rel => exact ⟨j + 1, by omega, by go_num⟩
          case measure => simp [intOf]; omega
        · obtain rfl : level = 2 := by omega
          go_wp2
          go_round
          case rel => exact ⟨j + 1, by omega, by go_num⟩
          case measure => simp [intOf]; omega
    · go_wp2
      go_ret
      exact ⟨rfl, hb1⟩

set_option maxRecDepth 100000 in
set_option maxHeartbeats 2000000 in
theorem hasLevel29 (n : Int) (w : World) (c : Bool) (hc : c = (decide (0 ≤ n) && decide (n ≤ 2))) : Calls Try.prog 29 #[.int .i64 n] w fun e w' => e = .returned (.bool c) ∧ w' = w := by
  have HC : Hid (c = (decide (0 ≤ n) && decide (n ≤ 2))) := hc
  clear hc
  go_enter Try.func29, Try.ntmps29
  go_wp2
  all_goals go_ret
  all_goals refine ⟨ret_bool ?_, rfl⟩
  all_goals rw [HC.out]
  all_goals (rw [Bool.eq_iff_iff]; simp; try omega)

set_option maxRecDepth 100000 in
set_option maxHeartbeats 2000000 in
theorem deflate13 (b : ByteArray) (level : Nat) (w : World) (hl : level ≤ 2) (hb : b.size ≤ 4500000) :
    Calls Try.prog 13 #[.string b, .int .i64 level] w fun e w' => ∃ (P : ByteArray) (W ks : List Int), e = .returned (.tuple #[.string P, .int .i64 0]) ∧ Rf.Holds P.data.toList W ∧ Rf.Whole b.data.toList b.data.toList.length W ks ∧ (W.length + 7) / 8 ≤ b.size + 5 + 5 * (b.size / 65535) ∧ (∀ x ∈ ks, 0 ≤ x ∧ x ≤ (level : Int)) ∧ Below w.heap.size w w' := by
  have hby := bytes30 b level w hl hb
  have hlv := hasLevel29 (level : Int) w true (by simp; omega)
  clear hl hb
  go_enter Try.func13, Try.ntmps13
  go_wp2_with fail
  refine hlv.mono ?_
  rintro e w' ⟨rfl, rfl⟩
  go_wp2_with fail
  refine hby.mono ?_
  rintro e w1 ⟨P, W, ks, rfl, h1, h2, h3, h4, h5⟩
  have HH : Hid (_ ∧ _ ∧ _ ∧ _ ∧ _) := ⟨h1, h2, h3, h4, h5⟩
  clear h1 h2 h3 h4 h5 hby hlv
  go_wp2
  exact bodyPost_ret (v := .tuple #[.string P, .int .i64 0]) (by simp [results, Try.results13, go_sem]) rfl ⟨P, W, ks, rfl, HH.out⟩

set_option maxRecDepth 100000 in
set_option maxHeartbeats 2000000 in
theorem deflate13n (b : ByteArray) (n : Int) (w : World) (h : ¬ (0 ≤ n ∧ n ≤ 2)) :
    Calls Try.prog 13 #[.string b, .int .i64 n] w fun e w' => e = .returned (.tuple #[.string ⟨#[]⟩, .int .i64 5]) ∧ w' = w := by
  have hlv := hasLevel29 n w false (by simp; omega)
  clear h
  go_enter Try.func13, Try.ntmps13
  go_wp2_with fail
  refine hlv.mono ?_
  rintro e w' ⟨rfl, rfl⟩
  go_wp2
  exact bodyPost_ret (v := .tuple #[.string ⟨#[]⟩, .int .i64 5]) (by simp [results, Try.results13, go_sem]) rfl ⟨rfl, rfl⟩
end Go.Proofs.Ytmfijackgekioaa
