/-
  What the symbols and distances of copies stand for; extra bits.
-/
import Derived.Test.YtmfijackgekioaaUb
namespace Go.Proofs.Ytmfijackgekioaa
open Go.RowKit

def lb (x : Int) : Int := if x = 285 then 258 else if x - 257 < 8 then x - 257 + 3 else (4 + (x - 257) % 4) * 2 ^ ((x - 257) / 4 - 1).toNat + 3
def le' (x : Int) : Nat := if x = 285 then 0 else if x - 257 < 8 then 0 else ((x - 257) / 4 - 1).toNat
def db (x : Int) : Int := if x < 4 then x + 1 else (2 + x % 2) * 2 ^ (x / 2 - 1).toNat + 1
def de (x : Int) : Nat := if x < 4 then 0 else (x / 2 - 1).toNat

set_option maxRecDepth 100000 in
set_option maxHeartbeats 4000000 in
theorem clen67 (x : Int) (w : World) (h1 : 257 ≤ x) (h2 : x ≤ 285) :
    Calls Try.prog 67 #[.int .i64 x] w fun e w' => e = .returned (.tuple #[.int .i64 (lb x), .int .i64 (le' x)]) ∧ w' = w := by
  have h : x = 257 ∨ x = 258 ∨ x = 259 ∨ x = 260 ∨ x = 261 ∨ x = 262 ∨ x = 263 ∨ x = 264 ∨ x = 265 ∨ x = 266 ∨ x = 267 ∨ x = 268 ∨ x = 269 ∨ x = 270 ∨ x = 271 ∨ x = 272 ∨ x = 273 ∨ x = 274 ∨ x = 275 ∨ x = 276 ∨ x = 277 ∨ x = 278 ∨ x = 279 ∨ x = 280 ∨ x = 281 ∨ x = 282 ∨ x = 283 ∨ x = 284 ∨ x = 285 := by omega
  rcases h with rfl | rfl | rfl | rfl | rfl | rfl | rfl | rfl | rfl | rfl | rfl | rfl | rfl | rfl | rfl | rfl | rfl | rfl | rfl | rfl | rfl | rfl | rfl | rfl | rfl | rfl | rfl | rfl | rfl
  all_goals
    go_enter Try.func67, Try.ntmps67
    go_wp2
    go_ret2
    exact ⟨rfl, rfl⟩

set_option maxRecDepth 100000 in
set_option maxHeartbeats 4000000 in
theorem cdist68 (x : Int) (w : World) (h1 : 0 ≤ x) (h2 : x ≤ 29) :
    Calls Try.prog 68 #[.int .i64 x] w fun e w' => e = .returned (.tuple #[.int .i64 (db x), .int .i64 (de x)]) ∧ w' = w := by
  have h : x = 0 ∨ x = 1 ∨ x = 2 ∨ x = 3 ∨ x = 4 ∨ x = 5 ∨ x = 6 ∨ x = 7 ∨ x = 8 ∨ x = 9 ∨ x = 10 ∨ x = 11 ∨ x = 12 ∨ x = 13 ∨ x = 14 ∨ x = 15 ∨ x = 16 ∨ x = 17 ∨ x = 18 ∨ x = 19 ∨ x = 20 ∨ x = 21 ∨ x = 22 ∨ x = 23 ∨ x = 24 ∨ x = 25 ∨ x = 26 ∨ x = 27 ∨ x = 28 ∨ x = 29 := by omega
  rcases h with rfl | rfl | rfl | rfl | rfl | rfl | rfl | rfl | rfl | rfl | rfl | rfl | rfl | rfl | rfl | rfl | rfl | rfl | rfl | rfl | rfl | rfl | rfl | rfl | rfl | rfl | rfl | rfl | rfl | rfl
  all_goals
    go_enter Try.func68, Try.ntmps68
    go_wp2
    go_ret2
    exact ⟨rfl, rfl⟩

theorem lb_range (x : Int) (h1 : 257 ≤ x) (h2 : x ≤ 285) : 3 ≤ lb x ∧ lb x ≤ 258 ∧ le' x ≤ 5 := by
  have h : x = 257 ∨ x = 258 ∨ x = 259 ∨ x = 260 ∨ x = 261 ∨ x = 262 ∨ x = 263 ∨ x = 264 ∨ x = 265 ∨ x = 266 ∨ x = 267 ∨ x = 268 ∨ x = 269 ∨ x = 270 ∨ x = 271 ∨ x = 272 ∨ x = 273 ∨ x = 274 ∨ x = 275 ∨ x = 276 ∨ x = 277 ∨ x = 278 ∨ x = 279 ∨ x = 280 ∨ x = 281 ∨ x = 282 ∨ x = 283 ∨ x = 284 ∨ x = 285 := by omega
  rcases h with rfl | rfl | rfl | rfl | rfl | rfl | rfl | rfl | rfl | rfl | rfl | rfl | rfl | rfl | rfl | rfl | rfl | rfl | rfl | rfl | rfl | rfl | rfl | rfl | rfl | rfl | rfl | rfl | rfl
  all_goals decide
theorem db_range (x : Int) (h1 : 0 ≤ x) (h2 : x ≤ 29) : 1 ≤ db x ∧ db x ≤ 24577 ∧ de x ≤ 13 := by
  have h : x = 0 ∨ x = 1 ∨ x = 2 ∨ x = 3 ∨ x = 4 ∨ x = 5 ∨ x = 6 ∨ x = 7 ∨ x = 8 ∨ x = 9 ∨ x = 10 ∨ x = 11 ∨ x = 12 ∨ x = 13 ∨ x = 14 ∨ x = 15 ∨ x = 16 ∨ x = 17 ∨ x = 18 ∨ x = 19 ∨ x = 20 ∨ x = 21 ∨ x = 22 ∨ x = 23 ∨ x = 24 ∨ x = 25 ∨ x = 26 ∨ x = 27 ∨ x = 28 ∨ x = 29 := by omega
  rcases h with rfl | rfl | rfl | rfl | rfl | rfl | rfl | rfl | rfl | rfl | rfl | rfl | rfl | rfl | rfl | rfl | rfl | rfl | rfl | rfl | rfl | rfl | rfl | rfl | rfl | rfl | rfl | rfl | rfl | rfl
  all_goals decide

theorem take_zero (L : List Int) (st : Rf.St) (hp : st.pos ≤ L.length) : Rf.take L st 0 = (0, st) := by
  rw [Rf.take, if_neg (by omega)]
  rfl
/-- A copy's length as the document has it. -/
theorem lenOf_eq (L : List Int) (x : Int) (h1 : 257 ≤ x) (h2 : x ≤ 285) (st : Rf.St) (hp : st.pos ≤ L.length) : Rf.lenOf L (x - 257).toNat st = ((lb x).toNat + (Rf.take L st (le' x)).1.toNat, (Rf.take L st (le' x)).2) := by
  obtain ⟨i, rfl⟩ : ∃ i : Nat, x = (i : Int) + 257 := ⟨(x - 257).toNat, by omega⟩
  have e0 : ((i : Int) + 257 - 257).toNat = i := by omega
  rw [e0]
  by_cases h28 : i = 28
  · subst h28
    have a : lb (((28 : Nat) : Int) + 257) = 258 := by decide
    have b : le' (((28 : Nat) : Int) + 257) = 0 := by decide
    rw [a, b, take_zero L st hp, Rf.lenOf, if_pos rfl]
    rfl
  · by_cases h8 : 8 ≤ i
    · have e1 : (((i : Int) + 257 - 257) / 4 - 1).toNat = i / 4 - 1 := by omega
      have e2 : ((i : Int) + 257 - 257) % 4 = ((i % 4 : Nat) : Int) := by omega
      have a : lb ((i : Int) + 257) = (((4 + i % 4) * 2 ^ (i / 4 - 1) + 3 : Nat) : Int) := by
        unfold lb; rw [if_neg (by omega), if_neg (by omega), e1, e2]; simp
      have b : le' ((i : Int) + 257) = i / 4 - 1 := by unfold le'; rw [if_neg (by omega), if_neg (by omega), e1]
      rw [a, b, Rf.lenOf, if_neg h28, if_pos h8]
      rfl
    · have a : lb ((i : Int) + 257) = ((i + 3 : Nat) : Int) := by unfold lb; rw [if_neg (by omega), if_pos (by omega)]; omega
      have b : le' ((i : Int) + 257) = 0 := by unfold le'; rw [if_neg (by omega), if_pos (by omega)]
      rw [a, b, take_zero L st hp, Rf.lenOf, if_neg h28, if_neg h8]
      rfl
theorem distOf_eq (L : List Int) (x : Int) (h1 : 0 ≤ x) (st : Rf.St) (hp : st.pos ≤ L.length) : Rf.distOf L x.toNat st = ((db x).toNat + (Rf.take L st (de x)).1.toNat, (Rf.take L st (de x)).2) := by
  obtain ⟨i, rfl⟩ : ∃ i : Nat, x = (i : Int) := ⟨x.toNat, by omega⟩
  have e0 : ((i : Int)).toNat = i := by omega
  rw [e0, Rf.distOf]
  unfold db de
  by_cases h8 : 4 ≤ i
  · rw [if_pos h8, if_neg (by omega), if_neg (by omega)]
    have e1 : ((i : Int) / 2 - 1).toNat = i / 2 - 1 := by omega
    have e2 : (i : Int) % 2 = ((i % 2 : Nat) : Int) := by omega
    rw [e1, e2]
    have e3 : ((2 + ((i % 2 : Nat) : Int)) * 2 ^ (i / 2 - 1) + 1).toNat = (2 + i % 2) * 2 ^ (i / 2 - 1) + 1 := by
      have : ((2 + ((i % 2 : Nat) : Int)) * 2 ^ (i / 2 - 1) + 1) = (((2 + i % 2) * 2 ^ (i / 2 - 1) + 1 : Nat) : Int) := by simp
      rw [this]; rfl
    rw [e3]
  · rw [if_neg h8, if_pos (by omega), if_pos (by omega), take_zero L st hp]
    have : ((i : Int) + 1).toNat = i + 1 := by omega
    rw [this]
    rfl

set_option maxRecDepth 100000 in
set_option maxHeartbeats 1000000 in
theorem wlen66 (x : Int) (s : ByteArray) (R : Nat) (st : Rf.St) (w : World) (h1 : 257 ≤ x) (h2 : x ≤ 285) (hr : Rd w R s st.pos) (hs : s.size ≤ 1048576) (hp : st.pos ≤ 8 * s.size) (hb : st.bad = false) :
    Calls Try.prog 66 #[.pointer (some ⟨R, 0, none⟩), .func (.func 67) #[] #[], .int .i64 x] w fun e w' =>
      ((Rf.lenOf (lw s) (x - 257).toNat st).2.bad = false ∧ e = .returned (.int .i64 (Rf.lenOf (lw s) (x - 257).toNat st).1) ∧ Rd w' R s (Rf.lenOf (lw s) (x - 257).toNat st).2.pos ∧ Kp (· = R) w w') ∨
      ((Rf.lenOf (lw s) (x - 257).toNat st).2.bad = true ∧ e = dies 6 ∧ Kp (· = R) w w') := by
  have hrg := lb_range x h1 h2
  rw [lenOf_eq (lw s) x h1 h2 st (by rw [lw_length]; exact hp)]
  simp only
  have HT := Rf.take_range (lw_bits s) st (le' x)
  have hnum := number37 (le' x) s R st w hr hs hp hb (by omega)
  have hc := clen67 x w h1 h2
  have hpw := pow_small (le' x) (by omega)
  have HTr : 0 ≤ (Rf.take (lw s) st (le' x)).1 ∧ (Rf.take (lw s) st (le' x)).1 ≤ 32768 := by omega
  generalize Rf.take (lw s) st (le' x) = T at *
  obtain ⟨t, st1⟩ := T
  simp only at *
  obtain ⟨L, hL⟩ : ∃ L : Int, L = lb x := ⟨_, rfl⟩
  obtain ⟨E, hE⟩ : ∃ E : Nat, E = le' x := ⟨_, rfl⟩
  rw [← hL, ← hE] at hc
  rw [← hE] at hnum
  rw [← hL] at hrg
  have HL : Hid (L = lb x) := hL
  clear hL hE HT hpw
  go_enter Try.func66, Try.ntmps66
  go_wp2_with fail
  refine hc.mono ?_
  rintro e w1 ⟨rfl, rfl⟩
  go_wp2_with fail
  refine hnum.mono ?_
  rintro e w2 (⟨q1, rfl, q2, q3⟩ | ⟨q1, rfl, q3⟩)
  · go_wp2
    go_ret
    exact .inl ⟨q1, ret_int (by rw [← HL.out]; omega), q2, q3⟩
  · go_wp2
    exact ⟨rfl, .inr ⟨q1, rfl, q3⟩⟩

set_option maxRecDepth 100000 in
set_option maxHeartbeats 1000000 in
theorem wdist66 (x : Int) (s : ByteArray) (R : Nat) (st : Rf.St) (w : World) (h1 : 0 ≤ x) (h2 : x ≤ 29) (hr : Rd w R s st.pos) (hs : s.size ≤ 1048576) (hp : st.pos ≤ 8 * s.size) (hb : st.bad = false) :
    Calls Try.prog 66 #[.pointer (some ⟨R, 0, none⟩), .func (.func 68) #[] #[], .int .i64 x] w fun e w' =>
      ((Rf.distOf (lw s) x.toNat st).2.bad = false ∧ e = .returned (.int .i64 (Rf.distOf (lw s) x.toNat st).1) ∧ Rd w' R s (Rf.distOf (lw s) x.toNat st).2.pos ∧ Kp (· = R) w w') ∨
      ((Rf.distOf (lw s) x.toNat st).2.bad = true ∧ e = dies 6 ∧ Kp (· = R) w w') := by
  have hrg := db_range x h1 h2
  rw [distOf_eq (lw s) x h1 st (by rw [lw_length]; exact hp)]
  simp only
  have HT := Rf.take_range (lw_bits s) st (de x)
  have hnum := number37 (de x) s R st w hr hs hp hb (by omega)
  have hc := cdist68 x w h1 h2
  have hpw := pow_small (de x) (by omega)
  have HTr : 0 ≤ (Rf.take (lw s) st (de x)).1 ∧ (Rf.take (lw s) st (de x)).1 ≤ 32768 := by omega
  generalize Rf.take (lw s) st (de x) = T at *
  obtain ⟨t, st1⟩ := T
  simp only at *
  obtain ⟨L, hL⟩ : ∃ L : Int, L = db x := ⟨_, rfl⟩
  obtain ⟨E, hE⟩ : ∃ E : Nat, E = de x := ⟨_, rfl⟩
  rw [← hL, ← hE] at hc
  rw [← hE] at hnum
  rw [← hL] at hrg
  have HL : Hid (L = db x) := hL
  clear hL hE HT hpw
  go_enter Try.func66, Try.ntmps66
  go_wp2_with fail
  refine hc.mono ?_
  rintro e w1 ⟨rfl, rfl⟩
  go_wp2_with fail
  refine hnum.mono ?_
  rintro e w2 (⟨q1, rfl, q2, q3⟩ | ⟨q1, rfl, q3⟩)
  · go_wp2
    go_ret
    exact .inl ⟨q1, ret_int (by rw [← HL.out]; omega), q2, q3⟩
  · go_wp2
    exact ⟨rfl, .inr ⟨q1, rfl, q3⟩⟩

end Go.Proofs.Ytmfijackgekioaa
