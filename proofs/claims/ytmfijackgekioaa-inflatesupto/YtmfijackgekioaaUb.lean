/-
  The program's reader: numbers, whole bytes.
-/
import Derived.Test.YtmfijackgekioaaUa
import Derived.Test.YtmfijackgekioaaRw
namespace Go.Proofs.Ytmfijackgekioaa
open Go.RowKit

abbrev lw (s : ByteArray) : List Int := Mx.low s.data.toList
theorem lw_length (s : ByteArray) : (lw s).length = 8 * s.size := by rw [Mx.low_length]; simp
theorem lw_bits (s : ByteArray) : Rf.Bits (lw s) := fun j => by have h : 0 ≤ (lw s).getD j 0 ∧ (lw s).getD j 0 ≤ 1 := bt_range s j; omega

theorem i64_or_add (a x : Int) (k : Nat) (hk : k < 16) (ha : 0 ≤ a ∧ a < 2 ^ k) (hx : x = 0 ∨ x = 1) : bits .or .i64 a (x * 2 ^ k) = a + x * 2 ^ k := by
  obtain ⟨n, rfl⟩ : ∃ n : Nat, a = (n : Int) := ⟨a.toNat, by omega⟩
  have hp : (2 : Nat) ^ k ≤ 2 ^ 15 := Nat.pow_le_pow_right (by omega) (by omega)
  have e2 : ((2 : Int) ^ k) = ((2 ^ k : Nat) : Int) := by simp
  have hn : n < 2 ^ k := by have := ha.2; rw [e2] at this; omega
  rcases hx with rfl | rfl
  · have key : (BitVec.ofInt 64 (n : Int) ||| BitVec.ofInt 64 (0 * 2 ^ k)).toNat = n := by
      rw [BitVec.toNat_or, BitVec.toNat_ofInt, Int.zero_mul]
      have : ((n : Int) % ((2 ^ 64 : Nat) : Int)).toNat = n := by omega
      rw [this]; simp
    show IntKind.i64.wrap ((BitVec.ofInt 64 (n : Int) ||| BitVec.ofInt 64 (0 * 2 ^ k)).toNat : Nat) = _
    rw [key, IntKind.wrap_i64]
    omega
  · have h1 : ((2 : Nat) ^ k * 1 + n) = 2 ^ k * 1 ||| n := Nat.two_pow_add_eq_or_of_lt hn 1
    have key : (BitVec.ofInt 64 (n : Int) ||| BitVec.ofInt 64 (1 * 2 ^ k)).toNat = n + 2 ^ k := by
      rw [BitVec.toNat_or, BitVec.toNat_ofInt, BitVec.toNat_ofInt, Int.one_mul, e2]
      have t1 : ((n : Int) % ((2 ^ 64 : Nat) : Int)).toNat = n := by omega
      have t2 : (((2 ^ k : Nat) : Int) % ((2 ^ 64 : Nat) : Int)).toNat = 2 ^ k := by omega
      rw [t1, t2, Nat.or_comm, ← Nat.mul_one (2 ^ k), ← h1]
      omega
    show IntKind.i64.wrap ((BitVec.ofInt 64 (n : Int) ||| BitVec.ofInt 64 (1 * 2 ^ k)).toNat : Nat) = _
    rw [key, IntKind.wrap_i64, e2]
    omega

set_option maxRecDepth 100000 in
set_option maxHeartbeats 1000000 in
theorem number37 (n : Nat) (s : ByteArray) (R : Nat) (st : Rf.St) (w : World) (hr : Rd w R s st.pos) (hs : s.size ≤ 1048576) (hp : st.pos ≤ 8 * s.size) (hb : st.bad = false) (hn : n ≤ 16) :
    Calls Try.prog 37 #[.pointer (some ⟨R, 0, none⟩), .int .i64 n] w fun e w' =>
      ((Rf.take (lw s) st n).2.bad = false ∧ e = .returned (.int .i64 (Rf.take (lw s) st n).1) ∧ Rd w' R s (Rf.take (lw s) st n).2.pos ∧ Kp (· = R) w w') ∨
      ((Rf.take (lw s) st n).2.bad = true ∧ e = dies 6 ∧ Kp (· = R) w w') := by
  have HL : Hid ((lw s).length = 8 * s.size) := lw_length s
  have HT1 : Hid (st.pos + n ≤ 8 * s.size → Rf.take (lw s) st n = (Rf.bv (lw s) st.pos n, { st with pos := st.pos + n })) := fun h => by rw [Rf.take, if_neg (by rw [HL.out]; omega)]
  have HT2 : Hid (8 * s.size < st.pos + n → (Rf.take (lw s) st n).2.bad = true) := fun h => by rw [Rf.take, if_pos (by rw [HL.out]; omega)]
  have HB : Hid (st.bad = false) := hb
  clear hb
  go_enter Try.func37, Try.ntmps37
  go_wp2
  go_loopw [5, 8] (fun v i wr => ∃ k : Nat, k ≤ n ∧ st.pos + k ≤ 8 * s.size ∧ i = .int .i64 k ∧ v = .int .i64 (Rf.bv (lw s) st.pos k) ∧ Rd wr R s (st.pos + k) ∧ Kp (· = R) w wr) (fun _ i _ => n - (intOf i).toNat)
  case atStart => exact ⟨0, Nat.zero_le _, hp, rfl, rfl, hr, Kp.refl _ _⟩
  case round =>
    obtain ⟨k, hk, hpk, rfl, rfl, hr2, hkp⟩ := hrel
    by_cases hlt : k < n
    · by_cases hlt2 : st.pos + k < 8 * s.size
      · have hbv := Rf.bv_range (lw_bits s) st.pos k
        have h01 := lw_bits s (st.pos + k)
        have hor := i64_or_add (Rf.bv (lw s) st.pos k) (bt s (st.pos + k)) k (by omega) hbv h01
        have HV : Hid (Rf.bv (lw s) st.pos (k + 1) = Rf.bv (lw s) st.pos k + bt s (st.pos + k) * 2 ^ k) := rfl
        have hpw := pow_small k (by omega)
        obtain ⟨x, hx⟩ : ∃ x : Int, x = bt s (st.pos + k) := ⟨_, rfl⟩
        have hc := bit_yes s R (st.pos + k) wr hr2 hs hlt2
        rw [← hx] at HV hor hc
        have h01' : x = 0 ∨ x = 1 := by rw [hx]; exact h01
        clear h01 hx
        obtain ⟨y, hy⟩ : ∃ y : Int, y = x * 2 ^ k := ⟨_, rfl⟩
        have hyr : 0 ≤ y ∧ y ≤ 32768 := by rcases h01' with h0 | h0 <;> rw [hy, h0] <;> omega
        have w1 : IntKind.i64.wrap (x * 2 ^ k) = y := by rw [← hy]; exact IntWalk.i64_in _ (by omega)
        have w2 : wrap64 (x * 2 ^ k) = y := by rw [← hy]; exact IntWalk.wrap64_in _ (by omega)
        rw [← hy] at hor HV
        clear hy h01' hpw
        go_wp2_with fail
        refine hc.mono ?_
        rintro e w' ⟨rfl, hr3, hk3⟩
        go_wp2
        go_roundw
        case rel => exact ⟨k + 1, by omega, by omega, by go_num, by rw [HV.out], hr3, hkp.trans hk3⟩
        case measure => simp [intOf]; omega
      · go_wp2_with fail
        refine (bit_no s R (st.pos + k) wr hr2 hs (by omega)).mono ?_
        rintro e w' ⟨rfl, hk3⟩
        go_wp2
        exact ⟨rfl, .inr ⟨HT2.out (by omega), rfl, hkp.trans hk3⟩⟩
    · have hkn : k = n := by omega
      subst hkn
      go_wp2
      go_ret
      have e := HT1.out hpk
      exact .inl ⟨by rw [e]; exact HB.out, ret_int (by rw [e]), by rw [e]; exact hr2, hkp⟩

set_option maxRecDepth 100000 in
set_option maxHeartbeats 400000 in
theorem used41 (s : ByteArray) (R pos : Nat) (w : World) (hr : Rd w R s pos) (hp : pos ≤ 8388608) :
    Calls Try.prog 41 #[.pointer (some ⟨R, 0, none⟩)] w fun e w' => e = .returned (.int .i64 (((pos + 7) / 8 : Nat) : Int)) ∧ w' = w := by
  obtain ⟨c0, c1, fz, hlt⟩ := hr.cells
  go_enter Try.func41, Try.ntmps41
  go_wp2
  go_ret
  exact ⟨ret_int (by omega), rfl⟩

set_option maxRecDepth 100000 in
set_option maxHeartbeats 400000 in
theorem skip63 (s : ByteArray) (R pos : Nat) (w : World) (hr : Rd w R s pos) (hp : pos ≤ 8388608) :
    Calls Try.prog 63 #[.pointer (some ⟨R, 0, none⟩)] w fun e w' => e = .returned (.tuple #[]) ∧ Rd w' R s ((pos + 7) / 8 * 8) ∧ Kp (· = R) w w' := by
  obtain ⟨c0, c1, fz, hlt⟩ := hr.cells
  obtain ⟨q, hq⟩ : ∃ q : Nat, q = (pos + 7) / 8 := ⟨_, rfl⟩
  have hc := used41 s R pos w hr hp
  rw [← hq] at hc ⊢
  have hqr : q ≤ 1048576 := by omega
  clear hq
  go_enter Try.func63, Try.ntmps63
  go_wp2_with fail
  refine hc.mono ?_
  rintro e w' ⟨rfl, rfl⟩
  go_wp2
  go_end0
  refine ⟨rfl, ?_, (Kp.refl (· = R) _).setR _ _⟩
  have h := hr.set (q * 8)
  rw [show ((q * 8 : Nat) : Int) = 8 * (q : Int) by omega] at h
  exact h

set_option maxRecDepth 100000 in
set_option maxHeartbeats 400000 in
theorem bytes_no (s : ByteArray) (R q n : Nat) (w : World) (hr : Rd w R s (8 * q)) (hs : s.size ≤ 1048576) (hq : q ≤ s.size) (hn : n ≤ 65535) (h : s.size < q + n) :
    Calls Try.prog 64 #[.pointer (some ⟨R, 0, none⟩), .int .i64 n] w fun e w' => e = dies 6 ∧ w' = w := by
  obtain ⟨c0, c1, fz, hlt⟩ := hr.cells
  have e1 : ((8 * q : Nat) : Int) / 8 = (q : Int) := by omega
  have h' : (s.size : Int) - (q : Int) < (n : Int) := by omega
  go_enter Try.func64, Try.ntmps64
  go_wp2
  exact ⟨rfl, rfl, rfl⟩

set_option maxRecDepth 100000 in
set_option maxHeartbeats 400000 in
theorem bytes_yes (s : ByteArray) (R q n : Nat) (w : World) (hr : Rd w R s (8 * q)) (hs : s.size ≤ 1048576) (hn : n ≤ 65535) (h : q + n ≤ s.size) :
    Calls Try.prog 64 #[.pointer (some ⟨R, 0, none⟩), .int .i64 n] w fun e w' => e = .returned (.string (s.extract q (q + n))) ∧ Rd w' R s (8 * (q + n)) ∧ Kp (· = R) w w' := by
  obtain ⟨c0, c1, fz, hlt⟩ := hr.cells
  have h' : (n : Int) ≤ (s.size : Int) - (q : Int) := by omega
  go_enter Try.func64, Try.ntmps64
  go_wp2
  go_ret
  refine ⟨rfl, ?_, (Kp.refl (· = R) _).setR _ _⟩
  have h := hr.set (8 * (q + n))
  rw [show ((8 * (q + n) : Nat) : Int) = 8 * (q : Int) + 8 * (n : Int) by omega] at h
  exact h

end Go.Proofs.Ytmfijackgekioaa
