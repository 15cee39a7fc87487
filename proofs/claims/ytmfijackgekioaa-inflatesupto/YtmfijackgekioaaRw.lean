import Derived.Test.YtmfijackgekioaaBs
import Derived.Test.YtmfijackgekioaaRf
namespace Go.Proofs.Ytmfijackgekioaa
open Go.RowKit

theorem Kp.set1 {B : Nat} {a w : World} (h : Kp (· = B) a w) (j : Nat) (u : Value) : Kp (· = B) a (w.setCell ⟨B, j, none⟩ u) := h.setCell (p := ⟨B, j, none⟩) (.inl rfl) u

abbrev byteV (c : UInt8) : Value := .int .u8 c.toNat

/-- The reader of bits in memory: its block, the list of bits, what came out, the kinds. -/
structure Rep (w : World) (B : Nat) (L : List Int) (ao : Option Addr) (cap : Nat) (limit : Int) (st : Rf.St) (ov kv : Value) : Prop where
  blk : w.heap[B]? = some (.cells #[.slice ao L.length cap, .int .i64 st.pos, .int .i64 limit, .bool st.bad, .bool st.full, ov, kv] 41 (0, 0))
  hl : Ints w ao L
  hla : ∀ a, ao = some a → L ≠ [] → a.block < B
  hb : Rf.Bits L
  hpos : st.pos ≤ L.length
  hlen : L.length ≤ 8388608
  h8 : L.length % 8 = 0
  ho : w.ownsRow (B + 1) 5 1 ov st.out.length (st.out.map byteV)
  hk : w.ownsRow (B + 1) 3 1 kv st.kinds.length (vals st.kinds)

theorem Rep.drewN {w : World} {B : Nat} {L : List Int} {ao : Option Addr} {cap : Nat} {limit : Int} {st : Rf.St} {ov kv : Value} (h : Rep w B L ao cap limit st ov kv) (n : Nat) : Rep (w.drewN n) B L ao cap limit st ov kv :=
  ⟨h.blk, h.hl, h.hla, h.hb, h.hpos, h.hlen, h.h8, h.ho, h.hk⟩

/-- A field of the reader is stored. -/
theorem Rep.set {w : World} {B : Nat} {L : List Int} {ao : Option Addr} {cap : Nat} {limit : Int} {st : Rf.St} {ov kv : Value} (h : Rep w B L ao cap limit st ov kv) (j : Nat) (u : Value) (st' : Rf.St)
    (hcs : (#[.slice ao L.length cap, .int .i64 st.pos, .int .i64 limit, .bool st.bad, .bool st.full, ov, kv] : Array Value).setIfInBounds j u = #[.slice ao L.length cap, .int .i64 st'.pos, .int .i64 limit, .bool st'.bad, .bool st'.full, ov, kv])
    (ho : st'.out = st.out) (hk : st'.kinds = st.kinds) (hp : st'.pos ≤ L.length) : Rep (w.setCell ⟨B, j, none⟩ u) B L ao cap limit st' ov kv := by
  refine ⟨(heap_setCell_same w B j _ _ u h.blk).trans (by rw [hcs]), ?_, h.hla, h.hb, hp, h.hlen, h.h8, ?_, ?_⟩
  · intro k hk'
    obtain ⟨b, off, rfl, hc⟩ := h.hl k hk'
    exact ⟨b, off, rfl, (World.cell?_of_block (Below.heap_setCell w ⟨B, j, none⟩ u b (Nat.ne_of_lt (h.hla _ rfl (ne_of_lt hk'))))).trans hc⟩
  · rw [ho]; exact ownsRow_setCell_below h.ho (Nat.lt_succ_self B) u
  · rw [hk]; exact ownsRow_setCell_below h.hk (Nat.lt_succ_self B) u

theorem Rep.cells {w : World} {B : Nat} {L : List Int} {ao : Option Addr} {cap : Nat} {limit : Int} {st : Rf.St} {ov kv : Value} (h : Rep w B L ao cap limit st ov kv) :
    w.cell? ⟨B, 0, none⟩ = some (.slice ao L.length cap) ∧ w.cell? ⟨B, 1, none⟩ = some (.int .i64 st.pos) ∧ w.cell? ⟨B, 2, none⟩ = some (.int .i64 limit) ∧ w.cell? ⟨B, 3, none⟩ = some (.bool st.bad) ∧
      w.cell? ⟨B, 4, none⟩ = some (.bool st.full) ∧ w.cell? ⟨B, 5, none⟩ = some ov ∧ w.cell? ⟨B, 6, none⟩ = some kv ∧ ∀ j, w.frozen? ⟨B, j, none⟩ = false :=
  ⟨cell_of_row _ _ _ _ _ _ h.blk, cell_of_row _ _ _ _ _ _ h.blk, cell_of_row _ _ _ _ _ _ h.blk, cell_of_row _ _ _ _ _ _ h.blk, cell_of_row _ _ _ _ _ _ h.blk, cell_of_row _ _ _ _ _ _ h.blk, cell_of_row _ _ _ _ _ _ h.blk, fun j => frozen_of_row w B j _ _ h.blk⟩

set_option maxRecDepth 100000 in
set_option maxHeartbeats 1000000 in
theorem stopped22 (B : Nat) (L : List Int) (ao : Option Addr) (cap : Nat) (limit : Int) (st : Rf.St) (ov kv : Value) (w : World) (hr : Rep w B L ao cap limit st ov kv) :
    Calls Try.prog 23 #[.pointer (some ⟨B, 0, none⟩)] w fun e w' => e = .returned (.bool (st.bad || st.full)) ∧ w' = w := by
  obtain ⟨c0, c1, c2, c3, c4, c5, c6, fz⟩ := hr.cells
  cases hb : st.bad
  all_goals
    rw [hb] at c3
    go_enter Try.func23, Try.ntmps23
    go_wp2
    go_ret
    exact ⟨rfl, rfl⟩

theorem pow_small (k : Nat) (h : k < 16) : (1 : Int) ≤ 2 ^ k ∧ (2 : Int) ^ k ≤ 32768 := by
  have h1 : (2 : Nat) ^ 0 ≤ 2 ^ k := Nat.pow_le_pow_right (by omega) (by omega)
  have h2 : (2 : Nat) ^ k ≤ 2 ^ 15 := Nat.pow_le_pow_right (by omega) (by omega)
  have e : ((2 : Int) ^ k) = ((2 ^ k : Nat) : Int) := by simp
  rw [e]
  omega

set_option maxRecDepth 100000 in
set_option maxHeartbeats 1000000 in
theorem take23 (n B : Nat) (L : List Int) (ao : Option Addr) (cap : Nat) (limit : Int) (st : Rf.St) (ov kv : Value) (w : World) (hr : Rep w B L ao cap limit st ov kv) (hn : n ≤ 16) :
    Calls Try.prog 24 #[.pointer (some ⟨B, 0, none⟩), .int .i64 n] w
      fun e w' => e = .returned (.int .i64 (Rf.take L st n).1) ∧ Rep w' B L ao cap limit (Rf.take L st n).2 ov kv ∧ Kp (· = B) w w' := by
  obtain ⟨c0, c1, c2, c3, c4, c5, c6, fz⟩ := hr.cells
  have hp := hr.hpos
  have hl := hr.hlen
  by_cases h : L.length < st.pos + n
  · have h' : (L.length : Int) < (st.pos : Int) + (n : Int) := by omega
    have HT : Hid (Rf.take L st n = (0, { st with bad := true })) := by show _ = _; rw [Rf.take, if_pos h]
    have HR : Hid (∀ m, Rep ((w.drewN m).setCell ⟨B, 3, none⟩ (.bool true)) B L ao cap limit { st with bad := true } ov kv) := fun m => (hr.drewN m).set 3 (.bool true) _ rfl rfl rfl hp
    go_enter Try.func24, Try.ntmps24
    go_wp2
    go_quiet (fail)
    go_wp2
    go_ret
    rw [HT.out]
    exact ⟨rfl, HR.out _, ((Kp.refl _ w).drewN _).set1 _ _⟩
  · have h' : (st.pos : Int) + (n : Int) ≤ (L.length : Int) := by omega
    have HT : Hid (Rf.take L st n = (Rf.bv L st.pos n, { st with pos := st.pos + n })) := by show _ = _; rw [Rf.take, if_neg h]
    go_enter Try.func24, Try.ntmps24
    go_wp2
    go_quiet (fail)
    go_wp2
    go_loopw [5, 6] (fun v i wr => ∃ k : Nat, k ≤ n ∧ i = .int .i64 k ∧ v = .int .i64 (Rf.bv L st.pos k) ∧ ∃ m, wr = w.drewN m) (fun _ i _ => n - (intOf i).toNat)
    case atStart => exact ⟨0, Nat.zero_le _, rfl, rfl, _, rfl⟩
    case round =>
      obtain ⟨k, hk, rfl, rfl, m, rfl⟩ := hrel
      by_cases hlt : k < n
      · obtain ⟨b, off, rfl, hc⟩ := hr.hl (st.pos + k) (by omega)
        have h01 := hr.hb (st.pos + k)
        have hbv := Rf.bv_range hr.hb st.pos k
        have hpw := pow_small k (by omega)
        obtain ⟨x, hx⟩ : ∃ x : Int, x = L[st.pos + k] := ⟨_, rfl⟩
        have hx2 : L.getD (st.pos + k) 0 = x := by rw [hx]; simp [List.getD, List.getElem?_eq_getElem (show st.pos + k < L.length by omega)]
        rw [← hx] at hc
        rw [hx2] at h01
        obtain ⟨y, hy⟩ : ∃ y : Int, y = x * 2 ^ k := ⟨_, rfl⟩
        have hyr : 0 ≤ y ∧ y ≤ 32768 := by rcases h01 with h0 | h0 <;> rw [hy, h0] <;> omega
        have w1 : IntKind.i64.wrap (x * 2 ^ k) = y := by rw [← hy]; exact IntWalk.i64_in _ (by omega)
        have w2 : wrap64 (x * 2 ^ k) = y := by rw [← hy]; exact IntWalk.wrap64_in _ (by omega)
        have HV : Hid (Rf.bv L st.pos (k + 1) = Rf.bv L st.pos k + y) := by show _ = _; rw [Rf.bv, hx2, hy]
        have hq : 0 ≤ Rf.bv L st.pos k ∧ Rf.bv L st.pos k ≤ 65536 := by omega
        have j1 : (st.pos : Int) + (k : Int) < (L.length : Int) := by omega
        clear hx hx2 hy hpw hbv h01
        go_wp2
        go_quiet (fail)
        go_wp2
        go_roundw
        case rel => exact ⟨k + 1, by omega, by go_num, by rw [HV.out], _, rfl⟩
        case measure => simp [intOf]; omega
      · have hkn : k = n := by omega
        subst hkn
        have HR : Hid (∀ m, Rep ((w.drewN m).setCell ⟨B, 1, none⟩ (.int .i64 ((st.pos : Int) + k))) B L ao cap limit { st with pos := st.pos + k } ov kv) := fun m => (hr.drewN m).set 1 _ _ rfl rfl rfl (by show st.pos + k ≤ _; omega)
        go_wp2
        go_ret
        rw [HT.out]
        exact ⟨rfl, HR.out _, ((Kp.refl _ w).drewN _).set1 _ _⟩

set_option maxRecDepth 100000 in
set_option maxHeartbeats 1000000 in
theorem room43 (n B : Nat) (L : List Int) (ao : Option Addr) (cap : Nat) (limit : Int) (st : Rf.St) (ov kv : Value) (w : World) (hr : Rep w B L ao cap limit st ov kv) (hn : n ≤ 65535) (hout : st.out.length ≤ 4611686018427387904) :
    Calls Try.prog 42 #[.pointer (some ⟨B, 0, none⟩), .int .i64 n] w
      fun e w' => e = .returned (.bool (Rf.room limit st n).1) ∧ Rep w' B L ao cap limit (Rf.room limit st n).2 ov kv ∧ Kp (· = B) w w' := by
  obtain ⟨c0, c1, c2, c3, c4, c5, c6, fz⟩ := hr.cells
  obtain ⟨oa, oc, rfl⟩ := own_slice hr.ho
  by_cases h0 : 0 < n
  · have h0' : (0 : Int) < (n : Int) := by omega
    by_cases h : limit < (st.out.length : Int) + n
    · have HT : Hid (Rf.room limit st n = (false, { st with full := true })) := by show _ = _; rw [Rf.room, if_pos ⟨h0, h⟩]
      have HR : Hid (∀ m, Rep ((w.drewN m).setCell ⟨B, 4, none⟩ (.bool true)) B L ao cap limit { st with full := true } (.slice oa st.out.length oc) kv) := fun m => (hr.drewN m).set 4 (.bool true) _ rfl rfl rfl hr.hpos
      go_enter Try.func42, Try.ntmps42
      go_wp2
      go_quiet (fail)
      go_wp2
      go_ret
      rw [HT.out]
      exact ⟨rfl, HR.out _, ((Kp.refl _ w).drewN _).set1 _ _⟩
    · have HT : Hid (Rf.room limit st n = (true, st)) := by show _ = _; rw [Rf.room, if_neg (by omega)]
      go_enter Try.func42, Try.ntmps42
      go_wp2
      go_quiet (fail)
      go_wp2
      go_ret
      rw [HT.out]
      exact ⟨rfl, hr.drewN _, (Kp.refl _ w).drewN _⟩
  · have HT : Hid (Rf.room limit st n = (true, st)) := by show _ = _; rw [Rf.room, if_neg (by omega)]
    have h0' : decide ((0 : Int) < (n : Int)) = false := by simp; omega
    go_enter Try.func42, Try.ntmps42
    go_wp2
    go_quiet (fail)
    go_wp2
    go_ret
    rw [HT.out]
    exact ⟨rfl, hr.drewN _, (Kp.refl _ w).drewN _⟩

end Go.Proofs.Ytmfijackgekioaa
