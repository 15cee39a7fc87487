import Derived.Test.YtmfijackgekioaaGreatQHa
import Derived.Test.YtmfijackgekioaaGreatQGtGz2

/-
  Numbers of four bytes, written; wrapping by the program. For Wraps.
-/
namespace Go.Proofs.YtmfijackgekioaaGreat
open Go.RowKit

theorem four_vals (n : Nat) (hn : n < 4294967296) : (four (n : Int)).map byteV = [.int .u8 ((n : Int) / 16777216), .int .u8 ((n : Int) / 65536 % 256), .int .u8 ((n : Int) / 256 % 256), .int .u8 ((n : Int) % 256)] := by
  have h : ∀ x : Int, 0 ≤ x → x < 256 → ((UInt8.ofNat x.toNat).toNat : Int) = x := fun x h0 h1 => by
    rw [UInt8.toNat_ofNat']
    have : x.toNat % 2 ^ 8 = x.toNat := Nat.mod_eq_of_lt (by omega)
    rw [this]; omega
  simp only [four, List.map_cons, List.map_nil, byteV]
  rw [h _ (by omega) (by omega), h _ (by omega) (by omega), h _ (by omega) (by omega), h _ (by omega) (by omega)]
  rw [show (n : Int) / 16777216 % 256 = (n : Int) / 16777216 by omega]
theorem four_string (n : Nat) (hn : n < 4294967296) (w : World) : (convert 46 9 (.slice (some ⟨w.heap.size, 0, none⟩) 4 4)).run Tryz.prog (w.alloc (.cells #[.int .u8 ((n : Int) / 16777216), .int .u8 ((n : Int) / 65536 % 256), .int .u8 ((n : Int) / 256 % 256), .int .u8 ((n : Int) % 256)] 5)) =
    .ok (.string ⟨(four (n : Int)).toArray⟩) (w.alloc (.cells #[.int .u8 ((n : Int) / 16777216), .int .u8 ((n : Int) / 65536 % 256), .int .u8 ((n : Int) / 256 % 256), .int .u8 ((n : Int) % 256)] 5)) := by
  refine own_string (base := w.heap.size) (n := 4) (l := four (n : Int)) ⟨rfl, .inr ⟨w.heap.size, 4, _, rfl, Nat.le_refl _, blk_new w _, Nat.le_refl _, by unfold maxLen; omega, rfl, ?_⟩⟩ rfl
  rw [four_vals n hn]
  rfl
set_option maxRecDepth 100000 in
set_option maxHeartbeats 2000000 in
theorem toFourP (n : Nat) (w : World) (hn : n < 4294967296) :
    Calls Tryz.prog 30 #[.int .i64 n] w fun e w' => e = .returned (.string ⟨(four n).toArray⟩) ∧ Below w.heap.size w w' := by
  have hcv := four_string n hn w
  go_enter Tryz.func30, Tryz.ntmps30
  go_wp2
  go_ret
  exact ⟨rfl, below_alloc w _⟩

theorem adler_lt (l : List UInt8) : 0 ≤ Mx.adler l ∧ Mx.adler l < 4294967296 := by
  have h1 := Mx.adS_range l
  have h2 := Mx.adT_range l
  unfold Mx.adler
  omega
set_option maxRecDepth 100000 in
set_option maxHeartbeats 2000000 in
theorem wrapP (T : ByteArray) (level : Nat) (w : World) (hl : level ≤ 2) (hT : T.size ≤ 4500000) :
    Calls Tryz.prog 19 #[.string T, .int .i64 level] w fun e w' => ∃ (P : ByteArray) (W ks : List Int), e = .returned (.string (wrapB P T)) ∧ Rf.Holds P.data.toList W ∧ Rf.Whole T.data.toList T.data.toList.length W ks ∧ (W.length + 7) / 8 ≤ T.size + 5 + 5 * (T.size / 65535) ∧ (∀ x ∈ ks, 0 ≤ x ∧ x ≤ (level : Int)) ∧ Below w.heap.size w w' := by
  have hby := bytes30 T level w hl hT
  have had := fun v => adlerP T v (by unfold maxLen; omega)
  obtain ⟨a, ha⟩ : ∃ a : Nat, Mx.adler T.data.toList = (a : Int) := ⟨(Mx.adler T.data.toList).toNat, by have := adler_lt T.data.toList; omega⟩
  have hfo := fun v => toFourP a v (by have := adler_lt T.data.toList; omega)
  have HT : Hid (T.size ≤ 4500000) := hT
  have HA : Hid (wrapB = fun P b => (⟨#[120, 156]⟩ ++ P) ++ ⟨(four (Mx.adler b.data.toList)).toArray⟩) := rfl
  rw [ha] at had
  have HAA : Hid (Mx.adler T.data.toList = (a : Int)) := ha
  clear hl hT ha
  go_enter Tryz.func19, Tryz.ntmps19
  go_wp2_with fail
  refine hby.mono ?_
  rintro e w1 ⟨P, W, ks, rfl, h1, h2, h3, h4, -, h5⟩
  have hPl : P.data.toList.length = P.size := by rw [Array.length_toList]; rfl
  have hPs := h1.1
  have hps : P.size ≤ 4600000 := by have := HT.out; omega
  have hc1 : (2 + P.size : Nat) ≤ maxLen := by unfold maxLen; omega
  have HH : Hid (_ ∧ _ ∧ _ ∧ _ ∧ _) := ⟨h1, h2, h3, h4, h5⟩
  clear h1 h2 h3 h4 hPl hPs hby
  go_wp2_with fail
  refine (had _).mono ?_
  rintro e w2 ⟨rfl, rfl⟩
  go_wp2_with fail
  refine (hfo _).mono ?_
  rintro e w3 ⟨rfl, h6⟩
  have hf4 : (four (a : Int)).length = 4 := rfl
  go_wp2
  go_ret
  refine ⟨P, W, ks, ?_, HH.out.1, HH.out.2.1, HH.out.2.2.1, HH.out.2.2.2.1, h5.trans (h6.mono h5.size)⟩
  rw [HA.out]
  simp only
  rw [HAA.out]
  rfl
end Go.Proofs.YtmfijackgekioaaGreat

/-
  Wrap: the call's face. For Wraps, Wrapped.
-/
namespace Go.Proofs.YtmfijackgekioaaGreat
open Go.RowKit

set_option maxRecDepth 100000 in
set_option maxHeartbeats 2000000 in
theorem wrap7 (b : ByteArray) (level : Nat) (w : World) (hl : level ≤ 2) (hb : b.size ≤ 4500000) :
    Calls Tryz.prog 7 #[.string b, .int .i64 level] w fun e w' => ∃ (P : ByteArray) (W ks : List Int), e = .returned (.tuple #[.string (wrapB P b), .int .i64 0]) ∧ Rf.Holds P.data.toList W ∧ Rf.Whole b.data.toList b.data.toList.length W ks ∧ (W.length + 7) / 8 ≤ b.size + 5 + 5 * (b.size / 65535) ∧ (∀ x ∈ ks, 0 ≤ x ∧ x ≤ (level : Int)) ∧ Below w.heap.size w w' := by
  have hby := wrapP b level w hl hb
  have hlv := hasLevel29 (level : Int) w true (by simp; omega)
  clear hl hb
  go_enter Tryz.func7, Tryz.ntmps7
  go_wp2_with fail
  refine hlv.mono ?_
  rintro e w' ⟨rfl, rfl⟩
  go_wp2_with fail
  refine hby.mono ?_
  rintro e w1 ⟨P, W, ks, rfl, h1, h2, h3, h4, h5⟩
  have HH : Hid (_ ∧ _ ∧ _ ∧ _ ∧ _) := ⟨h1, h2, h3, h4, h5⟩
  clear h1 h2 h3 h4 h5 hby hlv
  generalize hX : wrapB P b = X at *
  go_wp2
  exact bodyPost_ret (v := .tuple #[.string X, .int .i64 0]) (by simp [results, Tryz.results7, go_sem]) rfl ⟨P, W, ks, by rw [hX], HH.out⟩
set_option maxRecDepth 100000 in
set_option maxHeartbeats 2000000 in
theorem wrap7n (b : ByteArray) (n : Int) (w : World) (h : ¬ (0 ≤ n ∧ n ≤ 2)) :
    Calls Tryz.prog 7 #[.string b, .int .i64 n] w fun e w' => e = .returned (.tuple #[.string ⟨#[]⟩, .int .i64 5]) ∧ w' = w := by
  have hlv := hasLevel29 n w false (by simp; omega)
  clear h
  go_enter Tryz.func7, Tryz.ntmps7
  go_wp2_with fail
  refine hlv.mono ?_
  rintro e w' ⟨rfl, rfl⟩
  go_wp2
  exact bodyPost_ret (v := .tuple #[.string ⟨#[]⟩, .int .i64 5]) (by simp [results, Tryz.results7, go_sem]) rfl ⟨rfl, rfl⟩
end Go.Proofs.YtmfijackgekioaaGreat
