import Derived.Test.YtmfijackgekioaaGreatDoorQ02
import Derived.Test.YtmfijackgekioaaGreatDoorQ31
import Derived.Deep.RegionHeld3
import Derived.Test.YtmfijackgekioaaGreatDoorCards
import Derived.Test.YtmfijackgekioaaGreatDoorTie
import Derived.ProofKit
import Derived.OpenShut
import Derived.Deep.DeepHandedRow
import Derived.Lib.LaidTab
import Derived.Lib.SmallJoins
import Derived.SizedLaws
set_option maxHeartbeats 1000000
set_option maxRecDepth 100000
namespace Go.Proofs.YtmfijackgekioaaGreatDoor
section
open Go.RowKit
theorem aJ {w:World}{T:Nat}{a b c d e f g:Value}{t:TypeId}(h:w.heap[T]?=some (.cells #[a,b,c,d,e,f,g] t (0,0))): w.cell? ⟨T,0,none⟩=some a/\w.cell? ⟨T,1,none⟩=some b/\w.cell? ⟨T,2,none⟩=some c/\w.cell? ⟨T,3,none⟩=some d/\w.cell? ⟨T,4,none⟩=some e/\w.cell? ⟨T,5,none⟩=some f/\w.cell? ⟨T,6,none⟩=some g :=
 ⟨cell_of_row _ _ _ _ _ _ h,cell_of_row _ _ _ _ _ _ h,cell_of_row _ _ _ _ _ _ h,cell_of_row _ _ _ _ _ _ h,cell_of_row _ _ _ _ _ _ h,cell_of_row _ _ _ _ _ _ h,cell_of_row _ _ _ _ _ _ h⟩
theorem sE {w:World}{T:Nat}{a b c d e f:Value}{t:TypeId}(h:w.heap[T]?=some (.cells #[a,b,c,d,e,f] t (0,0))): w.cell? ⟨T,0,none⟩=some a/\w.cell? ⟨T,1,none⟩=some b/\w.cell? ⟨T,2,none⟩=some c/\w.cell? ⟨T,3,none⟩=some d/\w.cell? ⟨T,4,none⟩=some e/\w.cell? ⟨T,5,none⟩=some f :=
 ⟨cell_of_row _ _ _ _ _ _ h,cell_of_row _ _ _ _ _ _ h,cell_of_row _ _ _ _ _ _ h,cell_of_row _ _ _ _ _ _ h,cell_of_row _ _ _ _ _ _ h,cell_of_row _ _ _ _ _ _ h⟩
theorem EJ (wd ht kd dp:Int)(ps:Bool)(pv sv:Value)(w:World)(hch:Pm.chan kd dp≠0): Calls Tryz.prog 136 #[img wd ht kd dp ps pv sv] w fun e w'=>e=.returned (.int .i64 (Pm.chan kd dp*dp))/\Below w.heap.size w w':=by
 have hb:=Pm.jh kd dp hch;have h1:=Pm.cE kd dp;have h2:=Pm.cm kd dp hch;have hwr:IntKind.i64.wrap (Pm.chan kd dp*dp)=Pm.chan kd dp*dp:=IntWalk.i64_in _ (by omega)
 go_enter Tryz.func136,Tryz.ntmps136
 go_wp2
 go_quiet ((go_at_call 54;exact Calls.quiet_of_same (lC _ _ _)))
 go_wp2
 go_ret
 exact⟨aH (by first|rfl|simp only[hwr]),below_drewN ((Below.refl _ _).alloc (Nat.le_refl _) _) _⟩
theorem uy (wd ht kd dp:Int)(ps:Bool)(pv sv:Value)(f0 f1 f2 f3 c r:Int)(w:World)(hc:0<=c/\c<=5000)(hch:Pm.chan kd dp≠0): Calls Tryz.prog 94 #[img wd ht kd dp ps pv sv,.agg #[.int .i64 f0,.int .i64 f1,.int .i64 f2,.int .i64 f3,.int .i64 c,.int .i64 r]] w fun e w'=>e=.returned (.int .i64 ((c*(Pm.chan kd dp*dp)+7)/8))/\Below w.heap.size w w':=by
 have hb:=Pm.jh kd dp hch;have h1:=Pm.uh c (Pm.chan kd dp*dp) hc hb;have hpb:=fun u=>EJ wd ht kd dp ps pv sv u hch;have hwr:IntKind.i64.wrap (c*(Pm.chan kd dp*dp))=c*(Pm.chan kd dp*dp):=IntWalk.i64_in _ (by omega);generalize Pm.chan kd dp*dp=bits at *;generalize hcb:c*bits=cb at *;have k0:Below w.heap.size w ((w.alloc (.cells #[.int .i64 wd,.int .i64 ht,.int .i64 kd,.int .i64 dp,.bool ps,pv,sv] 30)).alloc (.cells #[.int .i64 f0,.int .i64 f1,.int .i64 f2,.int .i64 f3,.int .i64 c,.int .i64 r] 122)).drew:=(((Below.refl _ _).alloc (Nat.le_refl _) _).alloc (by simp) _).drew;have m0:((w.alloc (.cells #[.int .i64 wd,.int .i64 ht,.int .i64 kd,.int .i64 dp,.bool ps,pv,sv] 30)).alloc (.cells #[.int .i64 f0,.int .i64 f1,.int .i64 f2,.int .i64 f3,.int .i64 c,.int .i64 r] 122)).drew.heap[w.heap.size]?=some (.cells #[.int .i64 wd,.int .i64 ht,.int .i64 kd,.int .i64 dp,.bool ps,pv,sv] 30 (0,0)):=am (ah w _) _
 have m1:((w.alloc (.cells #[.int .i64 wd,.int .i64 ht,.int .i64 kd,.int .i64 dp,.bool ps,pv,sv] 30)).alloc (.cells #[.int .i64 f0,.int .i64 f1,.int .i64 f2,.int .i64 f3,.int .i64 c,.int .i64 r] 122)).drew.heap[w.heap.size+1]?=some (.cells #[.int .i64 f0,.int .i64 f1,.int .i64 f2,.int .i64 f3,.int .i64 c,.int .i64 r] 122 (0,0)):=by
  have:=ah (w.alloc (.cells #[.int .i64 wd,.int .i64 ht,.int .i64 kd,.int .i64 dp,.bool ps,pv,sv] 30)) (.cells #[.int .i64 f0,.int .i64 f1,.int .i64 f2,.int .i64 f3,.int .i64 c,.int .i64 r] 122);rw[World.size_alloc]at this;exact this
 go_enter Tryz.func94,Tryz.ntmps94
 go_wp2_with fail;generalize hwd:World.drew _=v0 at *
 have hS:v0.cell? ⟨w.heap.size,0,none⟩=some (.int .i64 wd)/\v0.cell? ⟨w.heap.size,1,none⟩=some (.int .i64 ht)/\v0.cell? ⟨w.heap.size,2,none⟩=some (.int .i64 kd)/\v0.cell? ⟨w.heap.size,3,none⟩=some (.int .i64 dp)/\v0.cell? ⟨w.heap.size,4,none⟩=some (.bool ps)/\v0.cell? ⟨w.heap.size,5,none⟩=some (pv)/\v0.cell? ⟨w.heap.size,6,none⟩=some (sv)/\v0.cell? ⟨w.heap.size+1,4,none⟩=some (.int .i64 c):=by
  obtain⟨a0,a1,a2,a3,a4,a5,a6⟩:=aJ m0;exact⟨a0,a1,a2,a3,a4,a5,a6,(sE m1).2.2.2.2.1⟩
 refine ax (by kernel_rfl) (fun w'=>w'.cell? ⟨w.heap.size,0,none⟩=some (.int .i64 wd)/\w'.cell? ⟨w.heap.size,1,none⟩=some (.int .i64 ht)/\w'.cell? ⟨w.heap.size,2,none⟩=some (.int .i64 kd)/\w'.cell? ⟨w.heap.size,3,none⟩=some (.int .i64 dp)/\w'.cell? ⟨w.heap.size,4,none⟩=some (.bool ps)/\w'.cell? ⟨w.heap.size,5,none⟩=some (pv)/\w'.cell? ⟨w.heap.size,6,none⟩=some (sv)/\w'.cell? ⟨w.heap.size+1,4,none⟩=some (.int .i64 c)) 999 ?_;rw[hwd];refine ap [0,1,2] ?_
 iterate 3 (refine ar (v:=?_) rfl (by kernel_rfl) (fun _ _ _ h=>h) ?_ hS ?_;rotate_left;(·intro w hSw;(try dsimp only at hSw);go_simp;try with_reducible rfl);try simp only[Act.put])
 refine ai ?_;refine af (i:=3) (by kernel_rfl) rfl (fun K hK=>?_);go_simp;refine (hpb _).mono ?_;rintro e w1 ⟨rfl,hb1⟩;have n0:=(hb1.block _ (lt_of_block m0)).trans m0;have n1:=(hb1.block _ (lt_of_block m1)).trans m1
 have hS1:w1.cell? ⟨w.heap.size,0,none⟩=some (.int .i64 wd)/\w1.cell? ⟨w.heap.size,1,none⟩=some (.int .i64 ht)/\w1.cell? ⟨w.heap.size,2,none⟩=some (.int .i64 kd)/\w1.cell? ⟨w.heap.size,3,none⟩=some (.int .i64 dp)/\w1.cell? ⟨w.heap.size,4,none⟩=some (.bool ps)/\w1.cell? ⟨w.heap.size,5,none⟩=some (pv)/\w1.cell? ⟨w.heap.size,6,none⟩=some (sv)/\w1.cell? ⟨w.heap.size+1,4,none⟩=some (.int .i64 c):=by
  obtain⟨a0,a1,a2,a3,a4,a5,a6⟩:=aJ n0;exact⟨a0,a1,a2,a3,a4,a5,a6,(sE n1).2.2.2.2.1⟩
 refine hK _ _ (fun _=>hS1) ?_;clear hK K;have KB:Below w.heap.size w w1:=k0.trans (hb1.mono k0.size);clear n0 n1 hb1 m0 m1 k0 hS hpb;refine ap [4,5,6] ?_
 iterate 3 (refine ar (v:=?_) rfl (by kernel_rfl) (fun _ _ _ h=>h) ?_ hS1 ?_;rotate_left;(·intro w hSw;(try dsimp only at hSw);go_simp;try with_reducible rfl);try simp only[Act.put])
 refine ai ?_;refine af (i:=7) (by kernel_rfl) rfl (fun K hK=>?_);go_simp;refine hK _ _ (fun _=>hS1) ?_;clear hK K;refine ak (by kernel_rfl) ?_ _;go_wp2
 go_ret
 exact⟨aH (by rw[IntWalk.i64_in (cb+7) (by omega),Int.tdiv_eq_ediv_of_nonneg (by omega),IntWalk.i64_in _ (by omega)]),KB⟩
theorem V7 (wd ht kd dp:Int)(ps:Bool)(pv sv:Value)(f0 f1 f2 f3 c r:Int)(B:Nat)(bits s0:Int)(w:World)(hb:w.heap[B]?=some (.cells #[.int .i64 wd,.int .i64 ht,.int .i64 kd,.int .i64 dp,.bool ps,pv,sv] 30 (0,0)))(hs:w.heap[B+1]?=some (.cells #[.int .i64 s0] 3 (0,0)))(hc:0<=c/\c<=5000)(hr:0<=r/\r<=5000)(hch:Pm.chan kd dp≠0)(hbt:bits=Pm.chan kd dp*dp)(hs0:0<=s0/\s0<=2000000000): Calls Tryz.prog 93 #[.agg #[.int .i64 f0,.int .i64 f1,.int .i64 f2,.int .i64 f3,.int .i64 c,.int .i64 r],.pointer (some ⟨B+1,0,none⟩),.pointer (some ⟨B,0,none⟩)] w fun e w'=>e=.returned (.tuple #[])/\w'.heap[B+1]?=some (.cells #[.int .i64 (s0+Pm.ad c r bits)] 3 (0,0))/\Kp (·=B+1) w w':=by
 have iI:=Pm.jh kd dp hch;rw[<-hbt]at iI;have h1:=Pm.uh c bits hc iI;have h2:=Pm.jU c r bits hc hr iI;have e:Pm.ad c r bits=r*(1+(c*bits+7)/8):=rfl;have hrb:=fun u=>uy wd ht kd dp ps pv sv f0 f1 f2 f3 c r u hc hch;rw[<-hbt]at hrb;rw[e]at h2 ⊢;clear e hbt;generalize c*bits=cb at *;obtain⟨rb,V8⟩:∃rb,(cb+7)/8=rb:=⟨_,rfl⟩
 rw[V8]at hrb h2 ⊢;have h3:0<=rb/\rb<=50000:=by omega
 clear V8 h1 iI;generalize hm:r*(1+rb)=ad at *;have lb:=lt_of_block hb;have ls:=lt_of_block hs;have q0:(w.alloc (.cells #[.int .i64 f0,.int .i64 f1,.int .i64 f2,.int .i64 f3,.int .i64 c,.int .i64 r] 122)).drew.heap[w.heap.size]?=some (.cells #[.int .i64 f0,.int .i64 f1,.int .i64 f2,.int .i64 f3,.int .i64 c,.int .i64 r] 122 (0,0)):=ah w _;have q1:(w.alloc (.cells #[.int .i64 f0,.int .i64 f1,.int .i64 f2,.int .i64 f3,.int .i64 c,.int .i64 r] 122)).drew.heap[B]?=_:=am hb _;have q2:(w.alloc (.cells #[.int .i64 f0,.int .i64 f1,.int .i64 f2,.int .i64 f3,.int .i64 c,.int .i64 r] 122)).drew.heap[B+1]?=_:=am hs _;have k0:Below w.heap.size w (w.alloc (.cells #[.int .i64 f0,.int .i64 f1,.int .i64 f2,.int .i64 f3,.int .i64 c,.int .i64 r] 122)).drew:=((Below.refl _ _).alloc (Nat.le_refl _) _).drew
 go_enter Tryz.func93,Tryz.ntmps93
 go_wp2_with fail;generalize hwd:World.drew _=v0 at *
 have hS:v0.cell? ⟨B+1,0,none⟩=some (.int .i64 s0)/\v0.cell? ⟨B,0,none⟩=some (.int .i64 wd)/\v0.cell? ⟨B,1,none⟩=some (.int .i64 ht)/\v0.cell? ⟨B,2,none⟩=some (.int .i64 kd)/\v0.cell? ⟨B,3,none⟩=some (.int .i64 dp)/\v0.cell? ⟨B,4,none⟩=some (.bool ps)/\v0.cell? ⟨B,5,none⟩=some (pv)/\v0.cell? ⟨B,6,none⟩=some (sv)/\v0.cell? ⟨w.heap.size,0,none⟩=some (.int .i64 f0)/\v0.cell? ⟨w.heap.size,1,none⟩=some (.int .i64 f1)/\v0.cell? ⟨w.heap.size,2,none⟩=some (.int .i64 f2)/\v0.cell? ⟨w.heap.size,3,none⟩=some (.int .i64 f3)/\v0.cell? ⟨w.heap.size,4,none⟩=some (.int .i64 c)/\v0.cell? ⟨w.heap.size,5,none⟩=some (.int .i64 r):=by
  obtain⟨a0,a1,a2,a3,a4,a5,a6⟩:=aJ q1;obtain⟨d0,d1,d2,d3,d4,d5⟩:=sE q0;exact⟨cell_of_one q2,a0,a1,a2,a3,a4,a5,a6,d0,d1,d2,d3,d4,d5⟩
 refine ax (by kernel_rfl) (fun w'=>w'.cell? ⟨B+1,0,none⟩=some (.int .i64 s0)/\w'.cell? ⟨B,0,none⟩=some (.int .i64 wd)/\w'.cell? ⟨B,1,none⟩=some (.int .i64 ht)/\w'.cell? ⟨B,2,none⟩=some (.int .i64 kd)/\w'.cell? ⟨B,3,none⟩=some (.int .i64 dp)/\w'.cell? ⟨B,4,none⟩=some (.bool ps)/\w'.cell? ⟨B,5,none⟩=some (pv)/\w'.cell? ⟨B,6,none⟩=some (sv)/\w'.cell? ⟨w.heap.size,0,none⟩=some (.int .i64 f0)/\w'.cell? ⟨w.heap.size,1,none⟩=some (.int .i64 f1)/\w'.cell? ⟨w.heap.size,2,none⟩=some (.int .i64 f2)/\w'.cell? ⟨w.heap.size,3,none⟩=some (.int .i64 f3)/\w'.cell? ⟨w.heap.size,4,none⟩=some (.int .i64 c)/\w'.cell? ⟨w.heap.size,5,none⟩=some (.int .i64 r)) 9 ?_;rw[hwd];refine ap [0,1,2,3,4] ?_
 iterate 5 (refine ar (v:=?_) rfl (by kernel_rfl) (fun _ _ _ h=>h) ?_ hS ?_;rotate_left;(·intro w hSw;(try dsimp only at hSw);go_simp;try with_reducible rfl);try simp only[Act.put])
 refine ai ?_;refine af (i:=5) (by kernel_rfl) rfl (fun K hK=>?_);go_simp;refine (hrb _).mono ?_;rintro e w1 ⟨rfl,hb1⟩;have n0:=(hb1.block _ (lt_of_block q0)).trans q0;have n1:=(hb1.block _ (lt_of_block q1)).trans q1;have n2:=(hb1.block _ (lt_of_block q2)).trans q2
 have hS1:w1.cell? ⟨B+1,0,none⟩=some (.int .i64 s0)/\w1.cell? ⟨B,0,none⟩=some (.int .i64 wd)/\w1.cell? ⟨B,1,none⟩=some (.int .i64 ht)/\w1.cell? ⟨B,2,none⟩=some (.int .i64 kd)/\w1.cell? ⟨B,3,none⟩=some (.int .i64 dp)/\w1.cell? ⟨B,4,none⟩=some (.bool ps)/\w1.cell? ⟨B,5,none⟩=some (pv)/\w1.cell? ⟨B,6,none⟩=some (sv)/\w1.cell? ⟨w.heap.size,0,none⟩=some (.int .i64 f0)/\w1.cell? ⟨w.heap.size,1,none⟩=some (.int .i64 f1)/\w1.cell? ⟨w.heap.size,2,none⟩=some (.int .i64 f2)/\w1.cell? ⟨w.heap.size,3,none⟩=some (.int .i64 f3)/\w1.cell? ⟨w.heap.size,4,none⟩=some (.int .i64 c)/\w1.cell? ⟨w.heap.size,5,none⟩=some (.int .i64 r):=by
  obtain⟨a0,a1,a2,a3,a4,a5,a6⟩:=aJ n1;obtain⟨d0,d1,d2,d3,d4,d5⟩:=sE n0;exact⟨cell_of_one n2,a0,a1,a2,a3,a4,a5,a6,d0,d1,d2,d3,d4,d5⟩
 refine hK _ _ (fun _=>hS1) ?_;clear hK K;have KB:Below w.heap.size w w1:=k0.trans (hb1.mono k0.size);have fz:=free_of_one n2;have RY:Hid (w1.heap[B+1]?=some (.cells #[.int .i64 s0] 3 (0,0))):=n2;have hl1:B+1<w1.heap.size:=lt_of_block n2;clear n0 n1 n2 hb1 q0 q1 q2 k0 hS hrb hb hs;refine ap [6,7,8] ?_
 iterate 3 (refine ar (v:=?_) rfl (by kernel_rfl) (fun _ _ _ h=>h) ?_ hS1 ?_;rotate_left;(·intro w hSw;(try dsimp only at hSw);go_simp;try with_reducible rfl);try simp only[Act.put])
 refine ai ?_;refine af (i:=9) (by kernel_rfl) rfl (fun K hK=>?_);go_simp;refine hK _ _ (fun h=>absurd rfl h) ?_;clear hK K;refine ak (by kernel_rfl) ?_ _;go_wp2
 go_end0
 refine⟨rfl,?_,?_⟩
 ·have:=one_setCell (u:=.int .i64 (s0+ad)) RY.out;rw[IntWalk.i64_in (1+rb) (by omega),hm,IntWalk.i64_in ad (by omega),IntWalk.i64_in (s0+ad) (by omega)];exact this
 ·exact Kp.setCell (S:=fun x=>x=B+1) (p:=⟨B+1,0,none⟩) (Kp.aG KB) (.inl rfl) _
def cA:Array Value:=#[.int .i64 0,.int .i64 0,.int .i64 8,.int .i64 8,.int .i64 0,.int .i64 0,.int .i64 4,.int .i64 0,.int .i64 8,.int .i64 8,.int .i64 0,.int .i64 0,
 .int .i64 0,.int .i64 4,.int .i64 4,.int .i64 8,.int .i64 0,.int .i64 0,.int .i64 2,.int .i64 0,.int .i64 4,.int .i64 4,.int .i64 0,.int .i64 0,
 .int .i64 0,.int .i64 2,.int .i64 2,.int .i64 4,.int .i64 0,.int .i64 0,.int .i64 1,.int .i64 0,.int .i64 2,.int .i64 2,.int .i64 0,.int .i64 0,
 .int .i64 0,.int .i64 1,.int .i64 1,.int .i64 2,.int .i64 0,.int .i64 0]
abbrev yp (a b c d:Int):Value:=.agg #[.int .i64 a,.int .i64 b,.int .i64 c,.int .i64 d,.int .i64 0,.int .i64 0]
theorem EK (w:World):(Instr.index 178 (.agg cA) (.int .i64 0)).run Tryz.prog w=.ok (yp 0 0 8 8) w:=by kernel_rfl
theorem EL (w:World):(Instr.index 178 (.agg cA) (.int .i64 1)).run Tryz.prog w=.ok (yp 4 0 8 8) w:=by kernel_rfl
theorem EM (w:World):(Instr.index 178 (.agg cA) (.int .i64 2)).run Tryz.prog w=.ok (yp 0 4 4 8) w:=by kernel_rfl
theorem EN (w:World):(Instr.index 178 (.agg cA) (.int .i64 3)).run Tryz.prog w=.ok (yp 2 0 4 4) w:=by kernel_rfl
theorem EO (w:World):(Instr.index 178 (.agg cA) (.int .i64 4)).run Tryz.prog w=.ok (yp 0 2 2 4) w:=by kernel_rfl
theorem EP (w:World):(Instr.index 178 (.agg cA) (.int .i64 5)).run Tryz.prog w=.ok (yp 1 0 2 2) w:=by kernel_rfl
theorem ER (w:World):(Instr.index 178 (.agg cA) (.int .i64 6)).run Tryz.prog w=.ok (yp 0 1 1 2) w:=by kernel_rfl
theorem GN (wd ht kd dp:Int)(pv sv:Value)(B:Nat)(bits:Int)(w:World)(hb:w.heap[B]?=some (.cells #[.int .i64 wd,.int .i64 ht,.int .i64 kd,.int .i64 dp,.bool false,pv,sv] 30 (0,0)))(hs:w.heap[B+1]?=some (.cells #[.int .i64 0] 3 (0,0)))(hwd:1<=wd/\wd<=5000)(hht:1<=ht/\ht<=5000)(hch:Pm.chan kd dp≠0)(hbt:bits=Pm.chan kd dp*dp): Calls Tryz.prog 92 #[img wd ht kd dp false pv sv,.func (.func 93) #[] #[.pointer (some ⟨B+1,0,none⟩),.pointer (some ⟨B,0,none⟩)]] w fun e w'=>e=.returned (.tuple #[])/\w'.heap[B+1]?=some (.cells #[.int .i64 (Pm.ad wd ht bits)] 3 (0,0))/\Kp (·=B+1) w w':=by
 go_enter Tryz.func92,Tryz.ntmps92
 go_wp2_with (go_at_call 93;refine (V7 wd ht kd dp false pv sv 0 0 1 1 wd ht B bits 0 _ (am hb _) (am hs _) (by omega) (by omega) hch hbt (by omega)).mono ?_;rintro e w1 ⟨rfl,h1,h2⟩);exact bodyPost_ret (results_none rfl _ _ _) rfl ⟨rfl,by simpa using h1,((Kp.refl _ _).alloc _).trans h2⟩
theorem wK {wd ht:Int}(b:Int)(hw:1<=wd/\wd<=5000)(hh:1<=ht/\ht<=5000)(k:Nat)(hk:k<7): ∃c0 r0 cs rs:Int,Pm.PK wd ht b k c0 r0 cs rs/\∀w:World,(Instr.index 178 (.agg cA) (.int .i64 (k:Int))).run Tryz.prog w=.ok (yp c0 r0 cs rs) w:=by
 match k,hk with
 | 0,_=>exact⟨_,_,_,_,Pm.aaD b hw hh,EK⟩
 | 1,_=>exact⟨_,_,_,_,Pm.aaE b hw hh,EL⟩
 | 2,_=>exact⟨_,_,_,_,Pm.aaF b hw hh,EM⟩
 | 3,_=>exact⟨_,_,_,_,Pm.aaG b hw hh,EN⟩
 | 4,_=>exact⟨_,_,_,_,Pm.aaH b hw hh,EO⟩
 | 5,_=>exact⟨_,_,_,_,Pm.aaI b hw hh,EP⟩
 | 6,_=>exact⟨_,_,_,_,Pm.aaJ b hw hh,ER⟩
theorem rE {wd ht:Int}(b:Int)(hw:1<=wd/\wd<=5000)(hh:1<=ht/\ht<=5000)(hb:0<=b/\b<=64)(k:Nat)(hk:k<=7): 0<=Pm.ip wd ht b k/\Pm.ip wd ht b k<=200010000*k:=by
 induction k with
 | zero=>simp[Pm.ip]
 | succ k ih =>
  obtain⟨c0,r0,cs,rs,R,_⟩:=wK b hw hh k (by omega);have h1:=Pm.wv wd ht b c0 r0 cs rs R.bc R.br hb;have h2:=ih (by omega);rw[R.next];omega
theorem iW (s t e:Int)(w:World)(hs:0<=s/\s<=8)(ht:1<=t/\t<=8)(he:0<=e/\e<=5000)(h:0<=e-s+t-1): Calls Tryz.prog 135 #[.int .i64 s,.int .i64 t,.int .i64 e] w fun x w'=>x=.returned (.int .i64 (Pm.cnt s t e))/\w'=w:=NZ s t e w hs ht he h
theorem uA:(Tryz.prog.info? 178).map (·.size)=some cA.size:=by kernel_rfl
theorem C8 (wd ht kd dp:Int)(pv sv:Value)(B:Nat)(bits:Int)(w:World)(tt:TypeId)(fr:Nat×Nat)(hT:w.heap[0]?=some (.cells cA tt fr))(hb:w.heap[B]?=some (.cells #[.int .i64 wd,.int .i64 ht,.int .i64 kd,.int .i64 dp,.bool true,pv,sv] 30 (0,0)))(hs:w.heap[B+1]?=some (.cells #[.int .i64 0] 3 (0,0)))(hwd:1<=wd/\wd<=5000)(hht:1<=ht/\ht<=5000)(hch:Pm.chan kd dp≠0)(hbt:bits=Pm.chan kd dp*dp): Calls Tryz.prog 92 #[img wd ht kd dp true pv sv,.func (.func 93) #[] #[.pointer (some ⟨B+1,0,none⟩),.pointer (some ⟨B,0,none⟩)]] w fun e w'=>e=.returned (.tuple #[])/\w'.heap[B+1]?=some (.cells #[.int .i64 (Pm.ip wd ht bits 7)] 3 (0,0))/\Kp (·=B+1) w w':=by
 have HT:Hid (w.heap[0]?=some (.cells cA tt fr)):=hT;clear hT;have iI:0<=bits/\bits<=64:=by rw[hbt];exact Pm.jh kd dp hch
 have lb:=lt_of_block hb;have ls:=lt_of_block hs
 go_enter Tryz.func92,Tryz.ntmps92
 go_wp2_with (refine wpList_load_row rfl 178 _ rfl 0 rfl tt cA fr _ (am HT.out _) Tryz.underlying178 rfl uA ?_)
 go_loopw [17] (fun i wr=>∃k:Nat,k<=7/\i=.int .i64 k/\wr.heap[B+1]?=some (.cells #[.int .i64 (Pm.ip wd ht bits k)] 3 (0,0))/\Kp (·=B+1) (w.alloc (.cells #[.int .i64 wd,.int .i64 ht,.int .i64 kd,.int .i64 dp,.bool true,pv,sv] 30)) wr) (fun i _=>7-(intOf i).toNat)
 case atStart=>exact⟨0,Nat.zero_le _,rfl,am hs _,Kp.refl _ _⟩
 case round =>
  obtain⟨k,hk,rfl,hsz,hkp⟩:=hrel;by_cases hlt:k<7
  ·obtain⟨c0,r0,cs,rs,R,hidx⟩:=wK bits hwd hht k hlt;have hsr:=rE bits hwd hht iI k hk;have hsz':=hkp.size;rw[World.size_alloc]at hsz';have hlt2:w.heap.size<wr.heap.size:=by omega
   have hlt3:B<wr.heap.size:=by omega
   have agj:B+1<wr.heap.size:=by omega
   have m0:wr.cell? ⟨w.heap.size,0,none⟩=some (.int .i64 wd):=(hkp.cell (by simp) (by simp;omega)).trans (by simp);have m1:wr.cell? ⟨w.heap.size,1,none⟩=some (.int .i64 ht):=(hkp.cell (by simp) (by simp;omega)).trans (by simp);have hbr:wr.heap[B]?=some (.cells #[.int .i64 wd,.int .i64 ht,.int .i64 kd,.int .i64 dp,.bool true,pv,sv] 30 (0,0)):=(hkp.block B (by simp;omega) (by omega)).trans (am hb _);have HN:Hid (Pm.ip wd ht bits (k+1)=Pm.ip wd ht bits k+Pm.one wd ht bits c0 r0 cs rs):=R.next;have p1:=R.pc;have p2:=R.pr;have b1:=R.bc;have b2:=R.br;have ho:=Pm.wv wd ht bits c0 r0 cs rs R.bc R.br iI;go_wp2_with fail;refine (iW c0 cs wd _ R.hc0 R.hcs (by omega) R.pc).mono ?_;rintro e w' ⟨rfl,rfl⟩;go_wp2_with fail;refine (iW r0 rs ht _ R.hr0 R.hrs (by omega) R.pr).mono ?_;rintro e w' ⟨rfl,rfl⟩;clear p1 p2;by_cases d1:0<Pm.cnt c0 cs wd
   ·by_cases d2:0<Pm.cnt r0 rs ht
    ·have HO:Hid (Pm.one wd ht bits c0 r0 cs rs=Pm.ad (Pm.cnt c0 cs wd) (Pm.cnt r0 rs ht) bits):=by show _=_;rw[Pm.one,if_pos ⟨d1,d2⟩]
     go_wp2_with fail;refine (V7 wd ht kd dp true pv sv c0 r0 cs rs (Pm.cnt c0 cs wd) (Pm.cnt r0 rs ht) B bits (Pm.ip wd ht bits k) _ (am hbr _) (am hsz _) R.bc R.br hch hbt (by omega)).mono ?_;rintro e w1 ⟨rfl,h1,h2⟩
     have R2:w1.heap[B+1]?=some (.cells #[.int .i64 (Pm.ip wd ht bits (k+1))] 3 (0,0))/\Kp (·=B+1) (w.alloc (.cells #[.int .i64 wd,.int .i64 ht,.int .i64 kd,.int .i64 dp,.bool true,pv,sv] 30)) w1 :=
      ⟨by rw[HN.out,HO.out];exact h1,(hkp.alloc _).trans h2⟩
     clear h1 h2 hsz hkp;go_wp2
     go_roundw
     case rel=>exact⟨k+1,by omega,by go_num,R2.1,R2.2⟩
     case measure=>simp[intOf];omega
    ·have HO:Hid (Pm.one wd ht bits c0 r0 cs rs=0):=by show _=_;rw[Pm.one,if_neg (by omega)]
     go_wp2
     go_roundw
     case rel=>exact⟨k+1,by omega,by go_num,by rw[HN.out,HO.out,Int.add_zero];exact am hsz _,hkp.alloc _⟩
     case measure=>simp[intOf];omega
   ·have HO:Hid (Pm.one wd ht bits c0 r0 cs rs=0):=by show _=_;rw[Pm.one,if_neg (by omega)]
    go_wp2
    go_roundw
    case rel=>exact⟨k+1,by omega,by go_num,by rw[HN.out,HO.out,Int.add_zero];exact am hsz _,hkp.alloc _⟩
    case measure=>simp[intOf];omega
  ·have hk2:k=7:=by omega
   subst hk2;go_wp2
   go_end0
   exact⟨rfl,hsz,((Kp.refl _ _).alloc _).trans hkp⟩
theorem KO (wd ht kd dp:Int)(ps:Bool)(pv sv:Value)(w:World)(tt:TypeId)(fr:Nat×Nat)(hT:Hid (w.heap[0]?=some (.cells cA tt fr)))(hwd:1<=wd/\wd<=5000)(hht:1<=ht/\ht<=5000)(hch:Pm.chan kd dp≠0): Calls Tryz.prog 56 #[img wd ht kd dp ps pv sv] w fun e w'=>e=.returned (.int .i64 (Pm.raw wd ht (Pm.chan kd dp*dp) ps))/\Below w.heap.size w w':=by
 have m0:=ah w (.cells #[.int .i64 wd,.int .i64 ht,.int .i64 kd,.int .i64 dp,.bool ps,pv,sv] 30);have q0:=am m0 (.cells #[.int .i64 0] 3);have q1:=ah (w.alloc (.cells #[.int .i64 wd,.int .i64 ht,.int .i64 kd,.int .i64 dp,.bool ps,pv,sv] 30)) (.cells #[.int .i64 0] 3);rw[World.size_alloc]at q1;have k0:Below w.heap.size w ((w.alloc (.cells #[.int .i64 wd,.int .i64 ht,.int .i64 kd,.int .i64 dp,.bool ps,pv,sv] 30)).alloc (.cells #[.int .i64 0] 3)):=((Below.refl _ _).alloc (Nat.le_refl _) _).alloc (by simp) _;have t0:Hid (((w.alloc (.cells #[.int .i64 wd,.int .i64 ht,.int .i64 kd,.int .i64 dp,.bool ps,pv,sv] 30)).alloc (.cells #[.int .i64 0] 3)).heap[0]?=some (.cells cA tt fr)):=am (am hT.out _) _;have HQ:Hid (((w.alloc (.cells #[.int .i64 wd,.int .i64 ht,.int .i64 kd,.int .i64 dp,.bool ps,pv,sv] 30)).alloc (.cells #[.int .i64 0] 3)).heap[w.heap.size]?=some (.cells #[.int .i64 wd,.int .i64 ht,.int .i64 kd,.int .i64 dp,.bool ps,pv,sv] 30 (0,0))/\((w.alloc (.cells #[.int .i64 wd,.int .i64 ht,.int .i64 kd,.int .i64 dp,.bool ps,pv,sv] 30)).alloc (.cells #[.int .i64 0] 3)).heap[w.heap.size+1]?=some (.cells #[.int .i64 0] 3 (0,0))):=⟨q0,q1⟩
 clear m0 q0 q1;cases ps
 ·go_enter Tryz.func56,Tryz.ntmps56
  go_wp2_with fail;refine (GN wd ht kd dp pv sv w.heap.size (Pm.chan kd dp*dp) _ HQ.out.1 HQ.out.2 hwd hht hch rfl).mono ?_;rintro e w1 ⟨rfl,q1,q2⟩;have q3:=cell_of_one q1;have q4:Below w.heap.size w w1:=k0.trans (q2.below k0.size (fun k _ e=>by omega));clear q1 q2;go_wp2
  go_ret
  exact⟨rfl,q4⟩
 ·go_enter Tryz.func56,Tryz.ntmps56
  go_wp2_with fail;refine (C8 wd ht kd dp pv sv w.heap.size (Pm.chan kd dp*dp) _ tt fr t0.out HQ.out.1 HQ.out.2 hwd hht hch rfl).mono ?_;rintro e w1 ⟨rfl,q1,q2⟩;have q3:=cell_of_one q1;have q4:Below w.heap.size w w1:=k0.trans (q2.below k0.size (fun k _ e=>by omega));clear q1 q2;go_wp2
  go_ret
  exact⟨rfl,q4⟩
def Pm.check (wd ht kd dp:Int)(ps:Bool)(pz sz:List Int):Int :=
 if Pm.chan kd dp=0 then 1
 else if ¬(Pm.fU wd=true/\Pm.fU ht=true) then 2
 else if 4194304<Pm.raw wd ht (Pm.chan kd dp*dp) ps then 2
 else if Pm.pM kd (Pm.two dp) pz=false then 3
 else if Pm.ug wd ht kd (Pm.chan kd dp) (Pm.two dp) pz.length sz=false then 4
 else 0
theorem KP {W w1:World}(hb:Below W.heap.size W w1):(∀b o,b<W.heap.size->w1.cell? ⟨b,o,none⟩=W.cell? ⟨b,o,none⟩)/\(∀b o,b<W.heap.size->w1.frozen? ⟨b,o,none⟩=W.frozen? ⟨b,o,none⟩) :=
 ⟨fun b o h=>hb.cell (p:=⟨b,o,none⟩) h,fun b o h=>hb.frozen (p:=⟨b,o,none⟩) h⟩
structure C9 (w:World) (pa:Option Addr) (pz:List Int) (sa:Option Addr) (sz:List Int) (tt:TypeId) (fr:Nat×Nat):Prop where
 tab:w.heap[0]?=some (.cells cA tt fr)
 hp:Ints w pa pz
 hpa:∀a,pa=some a->pz≠[]->a.block<w.heap.size
 hpm:pz.length<=maxLen
 hs:Ints w sa sz
 hsa:∀a,sa=some a->sz≠[]->a.block<w.heap.size
 hsm:sz.length<=maxLen
theorem C9.later {w w':World}{pa:Option Addr}{pz:List Int}{sa:Option Addr}{sz:List Int}{tt:TypeId}{fr:Nat×Nat}(h:C9 w pa pz sa sz tt fr)(hb:Below w.heap.size w w'):C9 w' pa pz sa sz tt fr :=
 ⟨(hb.block _ (lt_of_block h.tab)).trans h.tab,h.hp.below hb h.hpa,fun a e e2=>Nat.lt_of_lt_of_le (h.hpa a e e2) hb.size,h.hpm,h.hs.below hb h.hsa,fun a e e2=>Nat.lt_of_lt_of_le (h.hsa a e e2) hb.size,h.hsm⟩
theorem ES (wd ht kd dp:Int)(ps:Bool)(pa:Option Addr)(pc:Nat)(pz:List Int)(sa:Option Addr)(sc:Nat)(sz:List Int)(w:World)(tt:TypeId)(fr:Nat×Nat)(hl:C9 w pa pz sa sz tt fr): Calls Tryz.prog 26 #[img wd ht kd dp ps (.slice pa pz.length pc) (.slice sa sz.length sc)] w fun e w'=>e=.returned (.int .i64 (Pm.check wd ht kd dp ps pz sz))/\Below w.heap.size w w':=by
 by_cases hch:Pm.chan kd dp=0
 ·have hch':(Pm.chan kd dp==0)=true:=beq_iff_eq.2 hch
  go_enter Tryz.func26,Tryz.ntmps26
  go_wp2_with (go_at_call 54;refine (lC _ _ _).mono ?_;rintro e w' ⟨rfl,rfl⟩)
  go_ret
  exact⟨aH (by rw[Pm.check,if_pos hch]),(Below.refl _ _).alloc (Nat.le_refl _) _⟩
 ·have hch':(Pm.chan kd dp==0)=false:=beq_eq_false_iff_ne.2 hch;have hd:=Pm.cm kd dp hch
  go_enter Tryz.func26,Tryz.ntmps26
  go_wp2_with fail;refine (lC _ _ _).mono ?_;rintro e w' ⟨rfl,rfl⟩;go_wp2_with fail;refine (fM _ _).mono ?_;rintro e w' ⟨rfl,rfl⟩;cases s1:Pm.fU wd
  ·go_wp2_with fail
   go_ret
   exact⟨aH (by rw[Pm.check,if_neg hch,if_pos (by simp[s1])]),(Below.refl _ _).alloc (Nat.le_refl _) _⟩
  ·go_wp2_with fail;refine (fM _ _).mono ?_;rintro e w' ⟨rfl,rfl⟩;cases s2:Pm.fU ht
   ·go_wp2_with fail
    go_ret
    exact⟨aH (by rw[Pm.check,if_neg hch,if_pos (by simp[s2])]),(Below.refl _ _).alloc (Nat.le_refl _) _⟩
   ·have hwd:=(Pm.dj wd).1 s1;have hht:=(Pm.dj ht).1 s2;have HS:Hid (Pm.fU wd=true/\Pm.fU ht=true):=⟨s1,s2⟩
    clear s1 s2;have l1:=hl.later ((Below.refl _ w).alloc (Nat.le_refl _) (.cells #[.int .i64 wd,.int .i64 ht,.int .i64 kd,.int .i64 dp,.bool ps,.slice pa pz.length pc,.slice sa sz.length sc] 30));go_wp2_with fail;refine (KO wd ht kd dp ps _ _ _ tt fr l1.tab hwd hht hch).mono ?_;rintro e w1 ⟨rfl,hb1⟩;have l2:=l1.later hb1;obtain⟨hc1,hf1⟩:=KP hb1;by_cases hr:4194304<Pm.raw wd ht (Pm.chan kd dp*dp) ps
    ·go_wp2_with fail
     go_ret
     exact⟨aH (by rw[Pm.check,if_neg hch,if_neg (by simp[HS.out]),if_pos hr]),((Below.refl _ _).alloc (Nat.le_refl _) _).trans (hb1.mono (by simp))⟩
    ·go_wp2_with fail;refine (GK wd ht kd dp ps pa pc pz _ _ hd l2.hpm l2.hp l2.hpa).mono ?_;rintro e w2 ⟨rfl,hb2⟩;have l3:=l2.later hb2;have hb2':=hb1.trans (hb2.mono hb1.size);obtain⟨hc2,hf2⟩:=KP hb2';clear hc1 hf1 hb1 hb2 l1 l2;cases s3:Pm.pM kd (Pm.two dp) pz
     ·go_wp2_with fail
      go_ret
      exact⟨aH (by rw[Pm.check,if_neg hch,if_neg (by simp[HS.out]),if_neg (Int.not_lt.2 hr),if_pos s3]),((Below.refl _ _).alloc (Nat.le_refl _) _).trans (hb2'.mono (by simp))⟩
     ·have H3:Hid (Pm.pM kd (Pm.two dp) pz=true):=s3;clear s3;go_wp2_with fail;refine (GL wd ht kd dp ps pa pc pz.length sa sc sz _ hd hwd hht l3.hpm l3.hsm l3.hs l3.hsa).mono ?_;rintro e w3 ⟨rfl,hb3⟩;have V9:=hb2'.trans (hb3.mono hb2'.size);clear hb2' hb3 hc2 hf2 l3;cases s4:Pm.ug wd ht kd (Pm.chan kd dp) (Pm.two dp) pz.length sz
      ·go_wp2_with fail
       go_ret
       exact⟨aH (by rw[Pm.check,if_neg hch,if_neg (by simp[HS.out]),if_neg (Int.not_lt.2 hr),if_neg (by simp[H3.out]),if_pos s4]),((Below.refl _ _).alloc (Nat.le_refl _) _).trans (V9.mono (by simp))⟩
      ·go_wp2_with fail
       go_ret
       exact⟨aH (by rw[Pm.check,if_neg hch,if_neg (by simp[HS.out]),if_neg (Int.not_lt.2 hr),if_neg (by simp[H3.out]),if_neg (by simp[s4])]),((Below.refl _ _).alloc (Nat.le_refl _) _).trans (V9.mono (by simp))⟩
theorem Sm (wd ht kd dp:Int)(ps:Bool)(pa:Option Addr)(pc:Nat)(pz:List Int)(sa:Option Addr)(sc:Nat)(sz:List Int)(w:World)(tt:TypeId)(fr:Nat×Nat)(hl:C9 w pa pz sa sz tt fr): Calls Tryz.prog 19 #[img wd ht kd dp ps (.slice pa pz.length pc) (.slice sa sz.length sc)] w fun e w'=>e=.returned (.int .i64 (Pm.check wd ht kd dp ps pz sz))/\Below w.heap.size w w':=by
 have l1:=hl.later ((Below.refl _ w).alloc (Nat.le_refl _) (.cells #[.int .i64 wd,.int .i64 ht,.int .i64 kd,.int .i64 dp,.bool ps,.slice pa pz.length pc,.slice sa sz.length sc] 30))
 go_enter Tryz.func19,Tryz.ntmps19
 go_wp2_with fail;refine (ES wd ht kd dp ps pa pc pz sa sc sz _ tt fr l1).mono ?_;rintro e w1 ⟨rfl,hb1⟩;go_wp2
 go_ret
 exact⟨rfl,((Below.refl _ _).alloc (Nat.le_refl _) _).trans (hb1.mono (by simp))⟩
end
section
open Go.ChangeShapes Go.WideShapes Go.ChangeAt Go.RowKit Go.Joins
theorem Tryz.own:ownKnob Tryz.prog.godebug=none:=by kernel_rfl
theorem Tryz.laidOut:laidOutB Tryz.prog=true:=by kernel_rfl
theorem Wa:Tryz.prog.globalNamed "mosaic/picture.sevenPasses"=some 0:=by kernel_rfl
theorem KQ:(Tryz.prog.globals[0]?).map (·.type)=some 178:=by kernel_rfl
theorem wL:Tryz.prog.cellsOf 3=1:=by kernel_rfl
theorem uB:Tryz.prog.cellsOf 122=6:=by kernel_rfl
theorem AC:Tryz.prog.cellsOf 178=42:=by kernel_rfl
section
variable {H:Type} {enc:TypeId×Value->H} {w:World} {base:Nat} {sp:Nat->Bool} {held:Bool}
theorem ke {n:Nat}{cs:List Value}{z:Int}{p:List MemPlace}(h:DataW.trod enc Tryz.prog w base sp held n 3 cs=some (.lit (.int .i64 z),p)):cs=[.int .i64 z]:=by
 obtain⟨a,h1,h2,_⟩:=DataW.trod_int Tryz.underlying3 h;simp at h2;obtain⟨rfl,_⟩:=h2;exact h1
theorem PO {α:Type}:∀{l:List α},l.length=6->∃a b c d e f,l=[a,b,c,d,e,f]
 | [a,b,c,d,e,f],_=>⟨a,b,c,d,e,f,rfl⟩
theorem Wc {α:Type}:∀{l:List α},l.length=7->∃a b c d e f g,l=[a,b,c,d,e,f,g]
 | [a,b,c,d,e,f,g],_=>⟨a,b,c,d,e,f,g,rfl⟩
theorem fO {n:Nat}{cs:List Value}{a b c d e f:Int}{p:List MemPlace}(h:DataW.trod enc Tryz.prog w base sp held n 122 cs=some (.agg [.lit (.int .i64 a),.lit (.int .i64 b),.lit (.int .i64 c),.lit (.int .i64 d),.lit (.int .i64 e),.lit (.int .i64 f)],p)): cs=[.int .i64 a,.int .i64 b,.int .i64 c,.int .i64 d,.int .i64 e,.int .i64 f]:=by
 obtain⟨xs,m,_,hx,hl,hlen,hf⟩:=DataW.trod_struct Tryz.underlying122 h;obtain⟨c0,c1,c2,c3,c4,c5,rfl⟩:=PO (hl.trans uB);obtain⟨y0,y1,y2,y3,y4,y5,rfl⟩:=PO (hlen.trans rfl);simp only[List.map_cons,List.map_nil,Prod.mk.injEq,DataW.agg.injEq,List.cons.injEq,and_true]at hx;obtain⟨⟨e0,e1,e2,e3,e4,e5⟩,_⟩:=hx;have g0:DataW.trod enc Tryz.prog w base sp held m 3 (List.take (Tryz.prog.cellsOf 3) (List.drop 0 [c0,c1,c2,c3,c4,c5]))=some y0:=hf 0 _ rfl;have g1:DataW.trod enc Tryz.prog w base sp held m 3 (List.take (Tryz.prog.cellsOf 3) (List.drop 1 [c0,c1,c2,c3,c4,c5]))=some y1:=hf 1 _ rfl;have g2:DataW.trod enc Tryz.prog w base sp held m 3 (List.take (Tryz.prog.cellsOf 3) (List.drop 2 [c0,c1,c2,c3,c4,c5]))=some y2:=hf 2 _ rfl;have g3:DataW.trod enc Tryz.prog w base sp held m 3 (List.take (Tryz.prog.cellsOf 3) (List.drop 3 [c0,c1,c2,c3,c4,c5]))=some y3:=hf 3 _ rfl;have g4:DataW.trod enc Tryz.prog w base sp held m 3 (List.take (Tryz.prog.cellsOf 3) (List.drop 4 [c0,c1,c2,c3,c4,c5]))=some y4:=hf 4 _ rfl;have g5:DataW.trod enc Tryz.prog w base sp held m 3 (List.take (Tryz.prog.cellsOf 3) (List.drop 5 [c0,c1,c2,c3,c4,c5]))=some y5:=hf 5 _ rfl;rw[wL]at g0 g1 g2 g3 g4 g5;obtain⟨y0a,y0b⟩:=y0;obtain⟨y1a,y1b⟩:=y1;obtain⟨y2a,y2b⟩:=y2;obtain⟨y3a,y3b⟩:=y3;obtain⟨y4a,y4b⟩:=y4;obtain⟨y5a,y5b⟩:=y5;simp only at e0 e1 e2 e3 e4 e5;subst e0 e1 e2 e3 e4 e5;have r0:=ke (cs:=[c0]) g0;have r1:=ke (cs:=[c1]) g1;have r2:=ke (cs:=[c2]) g2;have r3:=ke (cs:=[c3]) g3;have r4:=ke (cs:=[c4]) g4;have r5:=ke (cs:=[c5]) g5;rw[List.head_eq_of_cons_eq r0,List.head_eq_of_cons_eq r1,List.head_eq_of_cons_eq r2,List.head_eq_of_cons_eq r3,List.head_eq_of_cons_eq r4,List.head_eq_of_cons_eq r5]
theorem uC {cs r:List Value}(h:cs.take 6=r):cs=r++cs.drop 6:=by rw[<-h,List.take_append_drop]
theorem AE {n:Nat}{cs:List Value}{p:List MemPlace}(h:DataW.trod enc Tryz.prog w base sp held n 178 cs=some (Rows.laid_mosaic_picture_sevenPasses,p)):cs.toArray=cA:=by
 obtain⟨xs,m,_,hx,hl,hlen,hf⟩:=DataW.trod_array Tryz.underlying178 h;obtain⟨y0,y1,y2,y3,y4,y5,y6,rfl⟩:=Wc hlen;simp only[Rows.laid_mosaic_picture_sevenPasses,List.map_cons,List.map_nil,Prod.mk.injEq,DataW.agg.injEq,List.cons.injEq,and_true]at hx;obtain⟨⟨e0,e1,e2,e3,e4,e5,e6⟩,_⟩:=hx;have g0:=hf 0 (by omega);have g1:=hf 1 (by omega);have g2:=hf 2 (by omega);have g3:=hf 3 (by omega);have g4:=hf 4 (by omega);have g5:=hf 5 (by omega);have g6:=hf 6 (by omega);simp only[uB,List.getElem?_cons_zero,List.getElem?_cons_succ]at g0 g1 g2 g3 g4 g5 g6;obtain⟨y0a,y0b⟩:=y0;obtain⟨y1a,y1b⟩:=y1;obtain⟨y2a,y2b⟩:=y2;obtain⟨y3a,y3b⟩:=y3;obtain⟨y4a,y4b⟩:=y4;obtain⟨y5a,y5b⟩:=y5;obtain⟨y6a,y6b⟩:=y6;simp only at e0 e1 e2 e3 e4 e5 e6;subst e0 e1 e2 e3 e4 e5 e6;have r0:=fO g0;have r1:=fO g1;have r2:=fO g2;have r3:=fO g3;have r4:=fO g4;have r5:=fO g5;have r6:=fO g6;rw[AC]at hl;have s0:=uC r0;have s1:=uC r1;have s2:=uC r2;have s3:=uC r3;have s4:=uC r4;have s5:=uC r5;have s6:=uC r6;simp only[List.drop_drop,Nat.reduceMul,Nat.reduceAdd,List.drop_zero]at s0 s1 s2 s3 s4 s5 s6;have s7:cs.drop 42=[]:=List.drop_eq_nil_of_le (by omega);rw[s7]at s6;rw[s0,s1,s2,s3,s4,s5,s6];rfl
end
theorem table {W:World}(h':laidMet Tryz.prog [("mosaic/picture.sevenPasses",Rows.laid_mosaic_picture_sevenPasses)] W):∃tt fr,W.heap[0]?=some (.cells cA tt fr):=by
 obtain⟨ps,⟨g',t',cs,fuel,p,q,hg',ht',hvar,hd,_,_⟩,_⟩:=h';obtain rfl:=Option.some.inj (Wa.symm.trans hg');obtain rfl:=Option.some.inj (KQ.symm.trans ht');unfold World.var? at hvar;rw[Wa]at hvar;simp only[Option.bind_some]at hvar;split at hvar
 ·rename_i cs' tt fr hh;refine⟨tt,fr,?_⟩;have hcs:=AE hd;rw[Array.toArray_toList]at hcs;rw[hh,Option.some.inj hvar,hcs]
 ·cases hvar
end
end Go.Proofs.YtmfijackgekioaaGreatDoor
