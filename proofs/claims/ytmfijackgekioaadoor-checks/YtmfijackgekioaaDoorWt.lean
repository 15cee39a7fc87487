import Derived.Test.YtmfijackgekioaaDoorWh
namespace Go.Proofs.YtmfijackgekioaaDoor
open Go.RowKit

theorem below2 {w : World} (o1 o2 : Obj) : Below w.heap.size w ((w.alloc o1).alloc o2) := ((Below.refl _ w).alloc (Nat.le_refl _) o1).alloc (by simp) o2

set_option maxRecDepth 100000 in
set_option maxHeartbeats 1000000 in
theorem still8 (wd ht kd dp : Int) (ps : Bool) (pa : Option Addr) (pc : Nat) (pz : List Int) (sa : Option Addr) (sc : Nat) (sz : List Int) (g1 g2 : Nat) (w : World) (tt : TypeId) (fr : Nat × Nat) (hl : Lies w pa pz sa sz tt fr)
    (h1 : pz.length ≤ 17592186044416) (h2 : sz.length ≤ 17592186044416) (F1 : Fresh w g1 pz) (F2 : Fresh w g2 sz) :
    Calls Tryd.prog 7 #[img wd ht kd dp ps (.slice (some ⟨g1, 0, none⟩) pz.length (pz.length + 2)) (.slice (some ⟨g2, 0, none⟩) sz.length (sz.length + 2)), img wd ht kd dp ps (.slice pa pz.length pc) (.slice sa sz.length sc)] w
      fun e w' => e = .returned (.bool true) ∧ Below w.heap.size w w' := by
  have hb := below2 (w := w) (.cells #[.int .i64 wd, .int .i64 ht, .int .i64 kd, .int .i64 dp, .bool ps, .slice (some ⟨g1, 0, none⟩) pz.length (pz.length + 2), .slice (some ⟨g2, 0, none⟩) sz.length (sz.length + 2)] 24) (.cells #[.int .i64 wd, .int .i64 ht, .int .i64 kd, .int .i64 dp, .bool ps, .slice pa pz.length pc, .slice sa sz.length sc] 24)
  have l1 := hl.later hb
  have G1 := F1.later hb (lt_of_block F1)
  have G2 := F2.later hb (lt_of_block F2)
  go_enter Tryd.func7, Tryd.ntmps7
  go_wp2_with fail
  refine (kept17 g1 pa pc pz pz.length _ rfl h1 G1 l1.hp l1.hpa).mono ?_
  rintro e w1 ⟨rfl, b1⟩
  have l2 := l1.later b1
  have G2' := G2.later b1 (lt_of_block G2)
  obtain ⟨c1, f1⟩ := bcell b1
  go_wp2_with fail
  refine (kept17 g2 sa sc sz sz.length _ rfl h2 G2' l2.hs l2.hsa).mono ?_
  rintro e w2 ⟨rfl, b2⟩
  go_wp2
  go_ret
  exact ⟨rfl, (hb.trans (b1.mono hb.size)).trans (b2.mono (Nat.le_trans hb.size b1.size))⟩

set_option maxRecDepth 100000 in
set_option maxHeartbeats 1000000 in
theorem checks3 (wd ht kd dp : Int) (ps : Bool) (pa : Option Addr) (pc : Nat) (pz : List Int) (sa : Option Addr) (sc : Nat) (sz : List Int) (w : World) (tt : TypeId) (fr : Nat × Nat) (hl : Lies w pa pz sa sz tt fr)
    (h1 : pz.length ≤ 17592186044416) (h2 : sz.length ≤ 17592186044416) :
    Calls Tryd.prog 3 #[img wd ht kd dp ps (.slice pa pz.length pc) (.slice sa sz.length sc)] w
      fun e w' => e = .returned (.bool true) ∧ Below w.heap.size w w' := by
  have hb := (Below.refl _ w).alloc (Nat.le_refl _) (.cells #[.int .i64 wd, .int .i64 ht, .int .i64 kd, .int .i64 dp, .bool ps, .slice pa pz.length pc, .slice sa sz.length sc] 24)
  have l1 := hl.later hb
  go_enter Tryd.func3, Tryd.ntmps3
  go_wp2_with fail
  refine (handed5 wd ht kd dp ps pa pc pz sa sc sz _ tt fr l1 h1 h2).mono ?_
  rintro e w1 ⟨g1, g2, rfl, F1, F2, b1⟩
  have l2 := l1.later b1
  obtain ⟨c1, f1⟩ := bcell b1
  have hz : w.heap.size < w1.heap.size := by have := b1.size; simp at this; omega
  have hB2 := (Below.refl _ w1).alloc (Nat.le_refl _) (.cells #[.int .i64 wd, .int .i64 ht, .int .i64 kd, .int .i64 dp, .bool ps, .slice (some ⟨g1, 0, none⟩) pz.length (pz.length + 2), .slice (some ⟨g2, 0, none⟩) sz.length (sz.length + 2)] 24)
  have l3 := l2.later hB2
  have G1 := F1.later hB2 (lt_of_block F1)
  have G2 := F2.later hB2 (lt_of_block F2)
  have lh : Lies (w1.alloc (.cells #[.int .i64 wd, .int .i64 ht, .int .i64 kd, .int .i64 dp, .bool ps, .slice (some ⟨g1, 0, none⟩) pz.length (pz.length + 2), .slice (some ⟨g2, 0, none⟩) sz.length (sz.length + 2)] 24)) (some ⟨g1, 0, none⟩) pz (some ⟨g2, 0, none⟩) sz tt fr :=
    ⟨l3.tab, G1.ints, fun a e _ => by cases e; exact lt_of_block G1, l3.hpm, G2.ints, fun a e _ => by cases e; exact lt_of_block G2, l3.hsm⟩
  have HB : Hid (Below w.heap.size w (w1.alloc (.cells #[.int .i64 wd, .int .i64 ht, .int .i64 kd, .int .i64 dp, .bool ps, .slice (some ⟨g1, 0, none⟩) pz.length (pz.length + 2), .slice (some ⟨g2, 0, none⟩) sz.length (sz.length + 2)] 24))) :=
    (hb.trans (b1.mono (by simp))).trans (hB2.mono (Nat.le_of_lt hz))
  clear hb l1 l2 b1 hB2 F1 F2
  go_wp2_with fail
  refine (check6 wd ht kd dp ps _ _ pz _ _ sz _ tt fr lh).mono ?_
  rintro e w3 ⟨rfl, b3⟩
  have l4 := l3.later b3
  obtain ⟨c3, f3⟩ := bcell b3
  go_wp2_with fail
  refine (check7 wd ht kd dp ps pa pc pz sa sc sz _ tt fr l4).mono ?_
  rintro e w4 ⟨rfl, b4⟩
  have b5 := b3.trans (b4.mono b3.size)
  have l5 := l3.later b5
  have E1 := G1.later b5 (lt_of_block G1)
  have E2 := G2.later b5 (lt_of_block G2)
  clear c3 f3 b3 b4 l4 l3
  obtain ⟨c5, f5⟩ := bcell b5
  go_wp2_with fail
  refine (still8 wd ht kd dp ps pa pc pz sa sc sz g1 g2 _ tt fr l5 h1 h2 E1 E2).mono ?_
  rintro e w6 ⟨rfl, b6⟩
  have hfin : Hid (Below w.heap.size w w6) := by
    have k1 := HB.out
    have k2 := k1.trans (b5.mono k1.size)
    exact k2.trans (b6.mono k2.size)
  clear c5 f5 b5 b6 l5 E1 E2 G1 G2 lh HB
  go_wp2
  go_ret
  exact ⟨rfl, hfin.out⟩

end Go.Proofs.YtmfijackgekioaaDoor
