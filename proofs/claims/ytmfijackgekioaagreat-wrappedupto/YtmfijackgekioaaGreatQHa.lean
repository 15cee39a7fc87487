import Derived.Test.YtmfijackgekioaaGreatQUwVc6
import Derived.Test.YtmfijackgekioaaGreatQDiDl4

/-
  What is wrapped can be unwrapped: by the document's words. For Wraps.
-/
namespace Go.Proofs.YtmfijackgekioaaGreat
open Go.RowKit

theorem low_app (a b : List UInt8) (j : Nat) (h : j < 8 * a.length) : (Mx.low (a ++ b)).getD j 0 = (Mx.low a).getD j 0 := by
  rw [low_at, low_at]
  have : j / 8 < a.length := by omega
  rw [List.getD_eq_getElem?_getD, List.getD_eq_getElem?_getD, List.getElem?_append_left this]
theorem at_more {P R : List UInt8} {W : List Int} (h : Rf.Holds P W) : Rf.At (Mx.low (P ++ R)) 0 W := by
  have hl := h.1
  obtain ⟨h1, h2⟩ := Rf.at_low h
  refine ⟨by rw [Mx.low_length, List.length_append]; omega, fun j hj => ?_⟩
  rw [← h2 j hj, Nat.zero_add]
  exact low_app P R j (by omega)

/-- The bytes that wrapping writes. -/
def wrapB (P b : ByteArray) : ByteArray := (⟨#[120, 156]⟩ ++ P) ++ ⟨(four (Mx.adler b.data.toList)).toArray⟩
theorem wrapB_list (P b : ByteArray) : (wrapB P b).data.toList = [120, 156] ++ (P.data.toList ++ four (Mx.adler b.data.toList)) := by
  simp [wrapB, ByteArray.data_append]
theorem wrapB_size (P b : ByteArray) : (wrapB P b).size = P.size + 6 := by
  have h := congrArg List.length (wrapB_list P b)
  rw [List.length_append, List.length_append] at h
  have e1' : (wrapB P b).data.toList.length = (wrapB P b).data.size := Array.length_toList
  have e2' : P.data.toList.length = P.data.size := Array.length_toList
  have e1 : (wrapB P b).data.size = (wrapB P b).size := rfl
  have e2 : P.data.size = P.size := rfl
  have e3 : (four (Mx.adler b.data.toList)).length = 4 := rfl
  have e4 : ([120, 156] : List UInt8).length = 2 := rfl
  omega
theorem wrapB_mid (P b : ByteArray) : ((wrapB P b).extract 2 (wrapB P b).size).data.toList = P.data.toList ++ four (Mx.adler b.data.toList) := by
  rw [ByteArray.data_extract, Array.toList_extract, List.extract_eq_take_drop, wrapB_list, List.drop_append_of_le_length (by simp)]
  have hz := wrapB_size P b
  have e : P.data.toList.length = P.size := by rw [Array.length_toList]; rfl
  rw [List.take_of_length_le (by simp [four]; omega)]
  rfl
theorem wrapB_packed (P b : ByteArray) : (wrapB P b).extract 2 ((wrapB P b).size - 4) = P := by
  have hz := wrapB_size P b
  have e : P.data.toList.length = P.size := by rw [Array.length_toList]; rfl
  have h : ((wrapB P b).extract 2 ((wrapB P b).size - 4)).data.toList = P.data.toList := by
    rw [ByteArray.data_extract, Array.toList_extract, List.extract_eq_take_drop, wrapB_list, List.drop_append_of_le_length (by simp)]
    show List.take ((wrapB P b).size - 4 - 2) (P.data.toList ++ _) = _
    rw [List.take_append_of_le_length (by omega), List.take_of_length_le (by omega)]
  cases hx : (wrapB P b).extract 2 ((wrapB P b).size - 4)
  rw [hx] at h
  cases P
  simp only at h
  congr 1
  exact Array.toList_inj.1 h

theorem wrapB_ok {P b : ByteArray} {W ks : List Int} (hP : Rf.Holds P.data.toList W) (hwh : Rf.Whole b.data.toList b.data.toList.length W ks) (hb : b.size ≤ 4500000) (hW : W.length ≤ 40000000) :
    wcode (wrapB P b) (b.size : Int) = 0 ∧ wtext (wrapB P b) (b.size : Int) = b ∧ FineW (wrapB P b) (b.size : Int) := by
  have hbl : b.data.toList.length = b.size := by rw [Array.length_toList]; rfl
  have hPl : P.data.toList.length = P.size := by rw [Array.length_toList]; rfl
  have hz := wrapB_size P b
  have hPs := Rf.used_whole hP
  have hm : mid (wrapB P b) (b.size : Int) = ⟨W.length, false, false, b.data.toList, ks⟩ := by
    unfold mid
    show Rf.inflate (Mx.low ((wrapB P b).extract 2 (wrapB P b).size).data.toList) _ = _
    rw [wrapB_mid, ← hbl]
    exact hwh _ (at_more hP)
  have h0 : byteAt (wrapB P b) 0 = 120 := by unfold byteAt; rw [wrapB_list]; rfl
  have h1 : byteAt (wrapB P b) 1 = 156 := by unfold byteAt; rw [wrapB_list]; rfl
  have hd : (wrapB P b).data.toList.drop ((W.length + 7) / 8 + 2) = four (Mx.adler b.data.toList) := by
    rw [wrapB_list, hPs, ← List.append_assoc, List.drop_append]
    have e : P.data.toList.length + 2 - ([120, 156] ++ P.data.toList).length = 0 := by simp
    rw [e, List.drop_of_length_le (by simp), List.nil_append, List.drop_zero]
  have hc : wcode (wrapB P b) (b.size : Int) = 0 := by
    unfold wcode
    rw [hm, h0, h1]
    rw [if_neg (by rintro (q | q); omega; exact q (by decide)), if_neg (show ¬ (false || false) = true by decide), if_neg (by simp only; omega), if_neg (by simp only; rw [hd]; simp)]
  refine ⟨hc, ?_, fun _ _ _ => ?_⟩
  · unfold wtext
    rw [hc, if_pos rfl, hm]
  · rw [hm]
    exact ⟨hW, by show _ ≤ _; simp only; omega⟩
end Go.Proofs.YtmfijackgekioaaGreat
