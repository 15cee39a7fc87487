import Derived.Test.YtmfijackgekioaaGreatDoorQ29
import Derived.Test.YtmfijackgekioaaGreatDoorQ31
set_option maxHeartbeats 2000000
set_option maxRecDepth 100000
namespace Go.Proofs.YtmfijackgekioaaGreatDoor
section
open Go.RowKit Go.Maps
structure Hd where
 wd:Int
 ht:Int
 kd:Int
 dp:Int
 ps:Bool
def ji (b:ByteArray):Hd:=⟨aM b 0,aM b 4,ag b 9,ag b 8,decide (ag b 12=1)⟩
def ux (b:ByteArray):Bool:=decide (b.size=13)&&((Pm.fU (aM b 0)&&Pm.fU (aM b 4))&&((decide (ag b 10=0)&&(decide (ag b 11=0)&&decide (ag b 12<=1)))&&!(Pm.chan (ag b 9) (ag b 8)==0)))
abbrev iO (h:Hd):Array Value:=#[.int .i64 h.wd,.int .i64 h.ht,.int .i64 h.kd,.int .i64 h.dp,.bool h.ps,.slice none 0 0,.slice none 0 0]
abbrev bj:Array Value:=#[.int .i64 0,.int .i64 0,.int .i64 0,.int .i64 0,.bool false,.slice none 0 0,.slice none 0 0]
inductive EI (b:ByteArray) (w:World):Ending->World->Prop
 | no {w'}:ux b=false->Below w.heap.size w w'->EI b w (dies 13) w'
 | ok {w'}:ux b=true->Below w.heap.size w w'->EI b w (.returned (.agg (iO (ji b)))) w'
section
variable {P:Program} {ops:Array Oper} {Q:Exit->Act->World->Prop} {md:Region.Mode} {S:World->Prop} {z:Nat}
theorem bm {i t:Nat}{oi:Oper}{v:Value}{fuel:Nat}{listed:Array Bool}{X T:Array Value}{df}{w:World}(ht:X.setIfInBounds t v=T)(hi:ops[i]?=some oi)(hd:oi.dst=some t)(hs:Region.noSelect ops=true)(hf:Region.free md ops listed i=true)(hr:(Region.ready md ops listed).contains i=true)(hz:waits md ops z i=true)(hQ:∀c a w,Q (.panic c) (a.put oi.dst v) w->Q (.panic c) a w)(hw:Region.wanted oi (yielded ops X)=true)(hy:∀w,S w->(execOp (Act.mk X df).eval oi).run P w=.ok (.value v) w)(hS:S w)(h:iJ P md ops Q S z fuel (listed.setIfInBounds i true) ⟨T,df⟩ w):iJ P md ops Q S z (fuel+1) listed ⟨X,df⟩ w:=by
 refine aw hi hs hf hr hz hQ hw hy hS ?_;rw[hd];show iJ P md ops Q S z fuel _ ⟨X.setIfInBounds t v,df⟩ w;rw[ht];exact h
end
theorem Sk {P F:World->Prop}{G:Prop}(h1:(∀u,F u->P u)->G)(h2:∀u,F u->P u):G:=h1 h2
theorem Tryz.infoImage:(Tryz.prog.info? 30).map (·.size)=some 7:=by kernel_rfl
structure N0 (w:World) (C:Array Value) (u:World):Prop where
 be:Below w.heap.size w u
 z:u.heap[w.heap.size]?=some (.cells bj 30 (0,0))
 m:u.heap[w.heap.size+1]?=some (.cells C 30 (0,0))
theorem gC {w:World}{T:Nat}{a b c d e f g:Value}{t:TypeId}(h:w.heap[T]?=some (.cells #[a,b,c,d,e,f,g] t (0,0))): w.cell? ⟨T,0,none⟩=some a/\w.cell? ⟨T,1,none⟩=some b/\w.cell? ⟨T,2,none⟩=some c/\w.cell? ⟨T,3,none⟩=some d/\w.cell? ⟨T,4,none⟩=some e/\w.cell? ⟨T,5,none⟩=some f/\w.cell? ⟨T,6,none⟩=some g/\(∀j,w.frozen? ⟨T,j,none⟩=false)/\T<w.heap.size :=
 ⟨cell_of_row _ _ _ _ _ _ h,cell_of_row _ _ _ _ _ _ h,cell_of_row _ _ _ _ _ _ h,cell_of_row _ _ _ _ _ _ h,cell_of_row _ _ _ _ _ _ h,cell_of_row _ _ _ _ _ _ h,cell_of_row _ _ _ _ _ _ h,fun j=>frozen_of_row w T j _ _ h,lt_of_block h⟩
abbrev lH (w:World)(X:Nat)(a b c d e f g:Value):World:=((((((w.setCell ⟨X,0,none⟩ a).setCell ⟨X,1,none⟩ b).setCell ⟨X,2,none⟩ c).setCell ⟨X,3,none⟩ d).setCell ⟨X,4,none⟩ e).setCell ⟨X,5,none⟩ f).setCell ⟨X,6,none⟩ g
theorem jj {w:World}{X:Nat}{t:TypeId}{a' b' c' d' e' f' g':Value}(h:w.heap[X]?=some (.cells #[a',b',c',d',e',f',g'] t (0,0)))(a b c d e f g:Value):(lH w X a b c d e f g).heap[X]?=some (.cells #[a,b,c,d,e,f,g] t (0,0)):=by
 have h0:(w.setCell ⟨X,0,none⟩ a).heap[X]?=some (.cells #[a,b',c',d',e',f',g'] t (0,0)):=heap_setCell_same _ X 0 _ _ _ h;unfold lH;generalize w.setCell ⟨X,0,none⟩ a=w0 at *;have h1:(w0.setCell ⟨X,1,none⟩ b).heap[X]?=some (.cells #[a,b,c',d',e',f',g'] t (0,0)):=heap_setCell_same _ X 1 _ _ _ h0;generalize w0.setCell ⟨X,1,none⟩ b=w1 at *;have h2:(w1.setCell ⟨X,2,none⟩ c).heap[X]?=some (.cells #[a,b,c,d',e',f',g'] t (0,0)):=heap_setCell_same _ X 2 _ _ _ h1;generalize w1.setCell ⟨X,2,none⟩ c=w2 at *;have h3:(w2.setCell ⟨X,3,none⟩ d).heap[X]?=some (.cells #[a,b,c,d,e',f',g'] t (0,0)):=heap_setCell_same _ X 3 _ _ _ h2;generalize w2.setCell ⟨X,3,none⟩ d=w3 at *;have h4:(w3.setCell ⟨X,4,none⟩ e).heap[X]?=some (.cells #[a,b,c,d,e,f',g'] t (0,0)):=heap_setCell_same _ X 4 _ _ _ h3;generalize w3.setCell ⟨X,4,none⟩ e=w4 at *;have h5:(w4.setCell ⟨X,5,none⟩ f).heap[X]?=some (.cells #[a,b,c,d,e,f,g'] t (0,0)):=heap_setCell_same _ X 5 _ _ _ h4;generalize w4.setCell ⟨X,5,none⟩ f=w5 at *;exact heap_setCell_same _ X 6 _ _ _ h5
theorem jk (w:World)(X:Nat)(a b c d e f g:Value)(j:Nat)(h:j≠X):(lH w X a b c d e f g).heap[j]?=w.heap[j]?:=by
 unfold lH;rw[Below.heap_setCell _ _ _ _ h,Below.heap_setCell _ _ _ _ h,Below.heap_setCell _ _ _ _ h,Below.heap_setCell _ _ _ _ h,Below.heap_setCell _ _ _ _ h,Below.heap_setCell _ _ _ _ h,Below.heap_setCell _ _ _ _ h]
theorem fN {B:Nat}{a0 w:World}(k:Below B a0 w)(X:Nat)(h:B<=X)(a b c d e f g:Value):Below B a0 (lH w X a b c d e f g) :=
 ((((((k.setCell (p:=⟨X,0,none⟩) h _).setCell (p:=⟨X,1,none⟩) h _).setCell (p:=⟨X,2,none⟩) h _).setCell (p:=⟨X,3,none⟩) h _).setCell (p:=⟨X,4,none⟩) h _).setCell (p:=⟨X,5,none⟩) h _).setCell (p:=⟨X,6,none⟩) h _
theorem GM (b:ByteArray)(w:World): Calls Tryz.prog 89 #[.string b] w fun e w'=>EI b w e w':=by
 by_cases h13:b.size=13
 ·have h4:(4:Int)<=(b.size:Int):=by omega
  have h8:(8:Int)<(b.size:Int):=by omega
  have h9:(9:Int)<(b.size:Int):=by omega
  have h12:(12:Int)<(b.size:Int):=by omega
  have g8:=dH b 8 (by omega);have g9:=dH b 9 (by omega);have g12:=dH b 12 (by omega);have hf0:=fun v=>jW b v (by omega);have Iq:=fun v=>jW (b.extract 4 b.size) v (by rw[ByteArray.size_extract];omega);rw[jP]at hf0 Iq;rw[mX b 4 b.size 0 (by omega) (Nat.le_refl _),Nat.add_zero]at Iq;rw[h13]at Iq;have aaN:(b.size:Int)=13:=by omega
  have l8:=dI b 8;have l9:=dI b 9;have YI:=dI b 12;have x8:IntKind.i64.wrap (ag b 8:Int)=ag b 8:=IntWalk.i64_in _ (by omega);have x9:IntKind.i64.wrap (ag b 9:Int)=ag b 9:=IntWalk.i64_in _ (by omega)
  have x12:((ag b 12:Int)==1)=decide (ag b 12=1):=by
   rw[Bool.eq_iff_iff,beq_iff_eq,decide_eq_true_eq];omega
  go_enter Tryz.func89,Tryz.ntmps89
  go_wp2_with fail;apply Sk (F:=N0 w (iO (ji b)))
  ·intro rest;have hS:True:=trivial;have q0:=ah w (.cells bj 30);have k0:=(ae w (.cells bj 30)).drew;refine ax (by kernel_rfl) (fun _=>True) 16 ?_;have Z0:(w.alloc (.cells bj 30)).drew.heap[w.heap.size]?=some (.cells bj 30 (0,0)):=q0;have hsz:(w.alloc (.cells bj 30)).drew.heap.size=w.heap.size+1:=by simp
   generalize (w.alloc (.cells bj 30)).drew=v0 at *;refine bm (i:=0) (t:=10) (v:=.string b) (T:=?_) (by go_simp;try with_reducible rfl) rfl rfl (by kernel_rfl) (by kernel_rfl) (by kernel_rfl) (by kernel_rfl) (fun _ _ _ h=>h) (by kernel_rfl) ?_ hS ?_
   ·intro w hSw;go_simp;try with_reducible rfl
   refine bm (i:=2) (t:=12) (v:=.string b) (T:=?_) (by go_simp;try with_reducible rfl) rfl rfl (by kernel_rfl) (by kernel_rfl) (by kernel_rfl) (by kernel_rfl) (fun _ _ _ h=>h) (by kernel_rfl) ?_ hS ?_
   ·intro w hSw;go_simp;try with_reducible rfl
   refine bm (i:=3) (t:=13) (v:=.string (b.extract 4 13)) (T:=?_) (by go_simp;try with_reducible rfl) rfl rfl (by kernel_rfl) (by kernel_rfl) (by kernel_rfl) (by kernel_rfl) (fun _ _ _ h=>h) (by kernel_rfl) ?_ hS ?_
   ·intro w hSw;go_simp;try with_reducible rfl
   refine bm (i:=5) (t:=15) (v:=.string b) (T:=?_) (by go_simp;try with_reducible rfl) rfl rfl (by kernel_rfl) (by kernel_rfl) (by kernel_rfl) (by kernel_rfl) (fun _ _ _ h=>h) (by kernel_rfl) ?_ hS ?_
   ·intro w hSw;go_simp;try with_reducible rfl
   refine bm (i:=6) (t:=16) (v:=.int .u8 (ag b 8)) (T:=?_) (by go_simp;try with_reducible rfl) rfl rfl (by kernel_rfl) (by kernel_rfl) (by kernel_rfl) (by kernel_rfl) (fun _ _ _ h=>h) (by kernel_rfl) ?_ hS ?_
   ·intro w hSw;go_simp;try with_reducible rfl
   refine bm (i:=7) (t:=17) (v:=.int .i64 (ag b 8)) (T:=?_) (by go_simp;try with_reducible rfl) rfl rfl (by kernel_rfl) (by kernel_rfl) (by kernel_rfl) (by kernel_rfl) (fun _ _ _ h=>h) (by kernel_rfl) ?_ hS ?_
   ·intro w hSw;go_simp
   refine bm (i:=8) (t:=18) (v:=.string b) (T:=?_) (by go_simp;try with_reducible rfl) rfl rfl (by kernel_rfl) (by kernel_rfl) (by kernel_rfl) (by kernel_rfl) (fun _ _ _ h=>h) (by kernel_rfl) ?_ hS ?_
   ·intro w hSw;go_simp;try with_reducible rfl
   refine bm (i:=9) (t:=19) (v:=.int .u8 (ag b 9)) (T:=?_) (by go_simp;try with_reducible rfl) rfl rfl (by kernel_rfl) (by kernel_rfl) (by kernel_rfl) (by kernel_rfl) (fun _ _ _ h=>h) (by kernel_rfl) ?_ hS ?_
   ·intro w hSw;go_simp;try with_reducible rfl
   refine bm (i:=10) (t:=20) (v:=.int .i64 (ag b 9)) (T:=?_) (by go_simp;try with_reducible rfl) rfl rfl (by kernel_rfl) (by kernel_rfl) (by kernel_rfl) (by kernel_rfl) (fun _ _ _ h=>h) (by kernel_rfl) ?_ hS ?_
   ·intro w hSw;go_simp
   refine bm (i:=11) (t:=21) (v:=.string b) (T:=?_) (by go_simp;try with_reducible rfl) rfl rfl (by kernel_rfl) (by kernel_rfl) (by kernel_rfl) (by kernel_rfl) (fun _ _ _ h=>h) (by kernel_rfl) ?_ hS ?_
   ·intro w hSw;go_simp;try with_reducible rfl
   refine bm (i:=12) (t:=22) (v:=.int .u8 (ag b 12)) (T:=?_) (by go_simp;try with_reducible rfl) rfl rfl (by kernel_rfl) (by kernel_rfl) (by kernel_rfl) (by kernel_rfl) (fun _ _ _ h=>h) (by kernel_rfl) ?_ hS ?_
   ·intro w hSw;go_simp;try with_reducible rfl
   refine bm (i:=13) (t:=23) (v:=.bool (decide (ag b 12=1))) (T:=?_) (by go_simp;try with_reducible rfl) rfl rfl (by kernel_rfl) (by kernel_rfl) (by kernel_rfl) (by kernel_rfl) (fun _ _ _ h=>h) (by kernel_rfl) ?_ hS ?_
   ·intro w hSw;go_simp
   refine fh (i:=1) (j:=15) (by kernel_rfl) rfl rfl (fun K hK=>?_) (fun K hK=>?_)
   ·go_simp;refine (hf0 _).mono ?_;rintro e v1 ⟨rfl,m1,rfl⟩;refine hK _ _ (fun _=>trivial) ?_;clear hK K;have k1:=below_drewN k0 m1;have Z1:(v0.drewN m1).heap[w.heap.size]?=some (.cells bj 30 (0,0)):=Z0;have s1:(v0.drewN m1).heap.size=w.heap.size+1:=hsz;generalize v0.drewN m1=v1 at *;refine fh (i:=4) (j:=15) (by kernel_rfl) rfl rfl (fun K hK=>?_) (fun K hK=>?_)
    ·go_simp;refine (Iq _).mono ?_;rintro e v' ⟨rfl,m',rfl⟩;refine hK _ _ (fun _=>trivial) ?_;clear hK K;have k2:=below_drewN k1 m';have Z2:(v1.drewN m').heap[w.heap.size]?=some (.cells bj 30 (0,0)):=Z1;have s2:(v1.drewN m').heap.size=w.heap.size+1:=s1;generalize v1.drewN m'=v2 at *;refine bm (i:=14) (t:=24) (v:=.agg #[.int .i64 (aM b 0),.int .i64 (aM b 4),.int .i64 (ag b 9),.int .i64 (ag b 8),.bool (decide (ag b 12=1)),.slice none 0 0,.slice none 0 0]) (T:=?_) (by go_simp;try with_reducible rfl) rfl rfl (by kernel_rfl) (by kernel_rfl) (by kernel_rfl) (by kernel_rfl) (fun _ _ _ h=>h) (by kernel_rfl) ?_ hS ?_
     ·intro w hSw;go_simp;try rfl
     refine af (i:=15) (by kernel_rfl) rfl (fun K hK=>?_);go_simp;have ka:=ae v2 (.cells bj 30);have X3:=ah v2 (.cells bj 30);rw[s2]at X3;have k3:=k2.trans (ka.mono (by omega));have Z3:=(ka.block _ (by omega)).trans Z2;generalize v2.alloc (.cells bj 30)=v3 at *;refine hK _ _ (fun _=>trivial) ?_;clear hK K ka;obtain⟨y0,y1,y2,y3,y4,y5,y6,yf,yl⟩:=gC X3;refine af (i:=16) (by kernel_rfl) rfl (fun K hK=>?_);go_simp;refine hK _ _ (fun h=>absurd rfl h) ?_;clear hK K;refine ak (by kernel_rfl) ?_ _;have hat:N0 w (iO (ji b)) (lH v3 (w.heap.size+1) (.int .i64 (aM b 0)) (.int .i64 (aM b 4)) (.int .i64 (ag b 9)) (.int .i64 (ag b 8)) (.bool (decide (ag b 12=1))) (.slice none 0 0) (.slice none 0 0)):=⟨fN k3 _ (by omega) ..,(jk _ _ _ _ _ _ _ _ _ _ (by omega)).trans Z3,jj X3 ..⟩
     unfold lH at hat;revert hat;generalize World.setCell _ _ _=u;intro hat;have r:=rest u hat;clear hat;exact r
    ·go_simp;have ka:=ae v1 (.cells bj 30);have X2:=ah v1 (.cells bj 30);rw[s1]at X2;have k2:=k1.trans (ka.mono (by omega));have Z2:=(ka.block _ (by omega)).trans Z1;generalize v1.alloc (.cells bj 30)=v2 at *;refine hK _ _ (fun _=>trivial) ?_;clear hK K ka;refine af (i:=4) (by kernel_rfl) rfl (fun K hK=>?_);go_simp;refine (Iq _).mono ?_;rintro e v' ⟨rfl,m',rfl⟩;refine hK _ _ (fun _=>trivial) ?_;clear hK K;have k3:=below_drewN k2 m';have Z3:(v2.drewN m').heap[w.heap.size]?=some (.cells bj 30 (0,0)):=Z2;have X3:(v2.drewN m').heap[w.heap.size+1]?=some (.cells bj 30 (0,0)):=X2;generalize v2.drewN m'=v3 at *;refine bm (i:=14) (t:=24) (v:=.agg #[.int .i64 (aM b 0),.int .i64 (aM b 4),.int .i64 (ag b 9),.int .i64 (ag b 8),.bool (decide (ag b 12=1)),.slice none 0 0,.slice none 0 0]) (T:=?_) (by go_simp;try with_reducible rfl) rfl rfl (by kernel_rfl) (by kernel_rfl) (by kernel_rfl) (by kernel_rfl) (fun _ _ _ h=>h) (by kernel_rfl) ?_ hS ?_
     ·intro w hSw;go_simp;try rfl
     obtain⟨y0,y1,y2,y3,y4,y5,y6,yf,yl⟩:=gC X3;refine af (i:=16) (by kernel_rfl) rfl (fun K hK=>?_);go_simp;refine hK _ _ (fun h=>absurd rfl h) ?_;clear hK K;refine ak (by kernel_rfl) ?_ _;have hat:N0 w (iO (ji b)) (lH v3 (w.heap.size+1) (.int .i64 (aM b 0)) (.int .i64 (aM b 4)) (.int .i64 (ag b 9)) (.int .i64 (ag b 8)) (.bool (decide (ag b 12=1))) (.slice none 0 0) (.slice none 0 0)):=⟨fN k3 _ (by omega) ..,(jk _ _ _ _ _ _ _ _ _ _ (by omega)).trans Z3,jj X3 ..⟩
     unfold lH at hat;revert hat;generalize World.setCell _ _ _=u;intro hat;have r:=rest u hat;clear hat;exact r
   ·go_simp;have ka:=ae v0 (.cells bj 30);have X1:=ah v0 (.cells bj 30);rw[hsz]at X1;have k1:=k0.trans (ka.mono (by omega));have Z1:=(ka.block _ (by omega)).trans Z0;generalize v0.alloc (.cells bj 30)=v1 at *;refine hK _ _ (fun _=>trivial) ?_;clear hK K ka;refine af (i:=1) (by kernel_rfl) rfl (fun K hK=>?_);go_simp;refine (hf0 _).mono ?_;rintro e v' ⟨rfl,m',rfl⟩;refine hK _ _ (fun _=>trivial) ?_;clear hK K;have k2:=below_drewN k1 m';have Z2:(v1.drewN m').heap[w.heap.size]?=some (.cells bj 30 (0,0)):=Z1;have X2:(v1.drewN m').heap[w.heap.size+1]?=some (.cells bj 30 (0,0)):=X1;generalize v1.drewN m'=v2 at *;refine af (i:=4) (by kernel_rfl) rfl (fun K hK=>?_);go_simp;refine (Iq _).mono ?_;rintro e v' ⟨rfl,m',rfl⟩;refine hK _ _ (fun _=>trivial) ?_;clear hK K;have k3:=below_drewN k2 m';have Z3:(v2.drewN m').heap[w.heap.size]?=some (.cells bj 30 (0,0)):=Z2;have X3:(v2.drewN m').heap[w.heap.size+1]?=some (.cells bj 30 (0,0)):=X2;generalize v2.drewN m'=v3 at *;refine bm (i:=14) (t:=24) (v:=.agg #[.int .i64 (aM b 0),.int .i64 (aM b 4),.int .i64 (ag b 9),.int .i64 (ag b 8),.bool (decide (ag b 12=1)),.slice none 0 0,.slice none 0 0]) (T:=?_) (by go_simp;try with_reducible rfl) rfl rfl (by kernel_rfl) (by kernel_rfl) (by kernel_rfl) (by kernel_rfl) (fun _ _ _ h=>h) (by kernel_rfl) ?_ hS ?_
    ·intro w hSw;go_simp;try rfl
    obtain⟨y0,y1,y2,y3,y4,y5,y6,yf,yl⟩:=gC X3;refine af (i:=16) (by kernel_rfl) rfl (fun K hK=>?_);go_simp;refine hK _ _ (fun h=>absurd rfl h) ?_;clear hK K;refine ak (by kernel_rfl) ?_ _;have hat:N0 w (iO (ji b)) (lH v3 (w.heap.size+1) (.int .i64 (aM b 0)) (.int .i64 (aM b 4)) (.int .i64 (ag b 9)) (.int .i64 (ag b 8)) (.bool (decide (ag b 12=1))) (.slice none 0 0) (.slice none 0 0)):=⟨fN k3 _ (by omega) ..,(jk _ _ _ _ _ _ _ _ _ _ (by omega)).trans Z3,jj X3 ..⟩
    unfold lH at hat;revert hat;generalize World.setCell _ _ _=u;intro hat;have r:=rest u hat;clear hat;exact r
  ·intro u hu;have hm:u.heap[w.heap.size+1]?=some (.cells #[.int .i64 (aM b 0),.int .i64 (aM b 4),.int .i64 (ag b 9),.int .i64 (ag b 8),.bool (decide (ag b 12=1)),.slice none 0 0,.slice none 0 0] 30 (0,0)):=hu.m;have hz:u.heap[w.heap.size]?=some (.cells #[.int .i64 0,.int .i64 0,.int .i64 0,.int .i64 0,.bool false,.slice none 0 0,.slice none 0 0] 30 (0,0)):=hu.z;obtain⟨y0,y1,y2,y3,y4,y5,y6,yf,yl⟩:=gC hm;obtain⟨z0,z1,z2,z3,z4,z5,z6,zf,zl⟩:=gC hz;have h10:(10:Int)<(b.size:Int):=by omega
   have h11:(11:Int)<(b.size:Int):=by omega
   have g10:=dH b 10 (by omega);have g11:=dH b 11 (by omega);have hC:=fun v=>lC (ag b 9) (ag b 8) v;have x10:((ag b 10:Int)==0)=decide (ag b 10=0):=by rw[Bool.eq_iff_iff,beq_iff_eq,decide_eq_true_eq];omega
   have fW:((ag b 11:Int)==0)=decide (ag b 11=0):=by rw[Bool.eq_iff_iff,beq_iff_eq,decide_eq_true_eq];omega
   have x13:decide ((ag b 12:Int)<=1)=decide (ag b 12<=1):=by rw[Bool.eq_iff_iff,decide_eq_true_eq,decide_eq_true_eq];omega
   have oZ:Hid (ux b=((Pm.fU (aM b 0)&&Pm.fU (aM b 4))&&((decide (ag b 10=0)&&(decide (ag b 11=0)&&decide (ag b 12<=1)))&&!(Pm.chan (ag b 9) (ag b 8)==0)))):=by show _=_;unfold ux;rw[decide_eq_true h13,Bool.true_and]
   have HM:Hid (_):=hm;have HZ:Hid (_):=hz;have HHD:Hid (ji b=⟨aM b 0,aM b 4,ag b 9,ag b 8,decide (ag b 12=1)⟩):=rfl;clear hf0 Iq hm hz;generalize hs1:Pm.fU (aM b 0)=s1 at *;generalize hs2:Pm.fU (aM b 4)=s2 at *;generalize decide (ag b 10=0)=c10 at *;generalize decide (ag b 11=0)=c11 at *;generalize decide (ag b 12<=1)=c12 at *;generalize Pm.chan (ag b 9) (ag b 8)=CH at *;generalize hch:(CH==0)=ch at *;generalize aM b 0=A at *;generalize aM b 4=B at *;rcases c10 with _|_
   ·rcases s1 with _|_
    ·go_wp2_with (go_at_call 55;refine (fM _ _).mono ?_;rintro e w' ⟨rfl,rfl⟩);exact⟨rfl,.no (by rw[oZ.out];simp) hu.be⟩
    ·rcases s2 with _|_
     ·go_wp2_with (go_at_call 55;refine (fM _ _).mono ?_;rintro e w' ⟨rfl,rfl⟩);exact⟨rfl,.no (by rw[oZ.out];simp) hu.be⟩
     ·go_wp2_with (go_at_call 55;refine (fM _ _).mono ?_;rintro e w' ⟨rfl,rfl⟩);exact⟨rfl,.no (by rw[oZ.out];simp) hu.be⟩
   ·rcases c11 with _|_
    ·rcases s1 with _|_
     ·go_wp2_with (go_at_call 55;refine (fM _ _).mono ?_;rintro e w' ⟨rfl,rfl⟩);exact⟨rfl,.no (by rw[oZ.out];simp) hu.be⟩
     ·rcases s2 with _|_
      ·go_wp2_with (go_at_call 55;refine (fM _ _).mono ?_;rintro e w' ⟨rfl,rfl⟩);exact⟨rfl,.no (by rw[oZ.out];simp) hu.be⟩
      ·go_wp2_with (go_at_call 55;refine (fM _ _).mono ?_;rintro e w' ⟨rfl,rfl⟩);exact⟨rfl,.no (by rw[oZ.out];simp) hu.be⟩
    ·rcases c12 with _|_
     ·rcases s1 with _|_
      ·go_wp2_with (go_at_call 55;refine (fM _ _).mono ?_;rintro e w' ⟨rfl,rfl⟩);exact⟨rfl,.no (by rw[oZ.out];simp) hu.be⟩
      ·rcases s2 with _|_
       ·go_wp2_with (go_at_call 55;refine (fM _ _).mono ?_;rintro e w' ⟨rfl,rfl⟩);exact⟨rfl,.no (by rw[oZ.out];simp) hu.be⟩
       ·go_wp2_with (go_at_call 55;refine (fM _ _).mono ?_;rintro e w' ⟨rfl,rfl⟩);exact⟨rfl,.no (by rw[oZ.out];simp) hu.be⟩
     ·rcases s1 with _|_
      ·go_wp2_with (go_at_call 55;refine (fM _ _).mono ?_;rintro e w' ⟨rfl,rfl⟩);exact⟨rfl,.no (by rw[oZ.out];simp) hu.be⟩
      ·rcases s2 with _|_
       ·go_wp2_with (go_at_call 55;refine (fM _ _).mono ?_;rintro e w' ⟨rfl,rfl⟩);exact⟨rfl,.no (by rw[oZ.out];simp) hu.be⟩
       ·rcases ch with _|_
        ·go_wp2_with (first|(go_at_call 55;refine (fM _ _).mono ?_;rintro e w' ⟨rfl,rfl⟩)|(go_at_call 54;refine (hC _).mono ?_;rintro e w' ⟨rfl,rfl⟩));have hend:=jj HZ.out (.int .i64 A) (.int .i64 B) (.int .i64 (ag b 9)) (.int .i64 (ag b 8)) (.bool (decide (ag b 12=1))) (.slice none 0 0) (.slice none 0 0);have hbe:=fN hu.be w.heap.size (Nat.le_refl _) (.int .i64 A) (.int .i64 B) (.int .i64 (ag b 9)) (.int .i64 (ag b 8)) (.bool (decide (ag b 12=1))) (.slice none 0 0) (.slice none 0 0)
         exact bodyPost_ret (v:=.agg #[.int .i64 A,.int .i64 B,.int .i64 (ag b 9),.int .i64 (ag b 8),.bool (decide (ag b 12=1)),.slice none 0 0,.slice none 0 0]) (results_cell_row rfl _ _ w.heap.size 30 _ (0,0) _ rfl hend Tryz.underlying30 rfl Tryz.infoImage) rfl (by
          have:=EI.ok (b:=b) (w:=w) (by rw[oZ.out];rfl) hbe;rw[HHD.out]at this
          exact this)
        ·go_wp2_with (first|(go_at_call 55;refine (fM _ _).mono ?_;rintro e w' ⟨rfl,rfl⟩)|(go_at_call 54;refine (hC _).mono ?_;rintro e w' ⟨rfl,rfl⟩));exact⟨rfl,.no (by rw[oZ.out];simp) hu.be⟩
 ·have HN:Hid (ux b=false):=by show _=_;unfold ux;rw[decide_eq_false h13,Bool.false_and]
  have aaN:((b.size:Int)==13)=false:=by rw[beq_eq_false_iff_ne];omega
  go_enter Tryz.func89,Tryz.ntmps89
  go_wp2;exact⟨rfl,.no HN.out (ae _ _)⟩
end
section
variable {P:Program} {ops:Array Oper} {Q:Exit->Act->World->Prop} {md:Region.Mode} {S:World->Prop} {z:Nat}
theorem ay {i t:Nat}{is:List Nat}{oi:Oper}{v:Value}{fuel:Nat}{listed:Array Bool}{X T:Array Value}{df}{w:World}(ht:X.setIfInBounds t v=T)(hi:ops[i]?=some oi)(hd:oi.dst=some t)(hk:DR md ops listed z i oi X=true)(hQ:∀c a w,Q (.panic c) (a.put oi.dst v) w->Q (.panic c) a w)(hy:∀w,S w->(execOp (Act.mk X df).eval oi).run P w=.ok (.value v) w)(hS:S w)(h:Tz is (iJ P md ops Q S z fuel (listed.setIfInBounds i true) ⟨T,df⟩ w)):Tz (i::is) (iJ P md ops Q S z (fuel+1) listed ⟨X,df⟩ w):=by
 unfold DR at hk;simp only[Bool.and_eq_true]at hk;exact bm ht hi hd hk.1 hk.2.1 hk.2.2.1 hk.2.2.2.1 hQ hk.2.2.2.2 hy hS h
end
section
open Go.RowKit Go.Maps
def fu (n m:Int):Bool:=decide (n%3=0)&&(decide (1<=n/3)&&decide (n/3<=m))
def gD (kd dp:Int):Option ByteArray->Bool
 | none=>!(kd==3)
 | some p=>if kd=0\/kd=4 then false else if kd=3 then fu p.size (Pm.two dp) else fu p.size 256
theorem C6 {w:World}{T:Nat}{a b c d:Value}{t:TypeId}(h:w.heap[T]?=some (.cells #[a,b,c,d] t (0,0))): w.cell? ⟨T,0,none⟩=some a/\w.cell? ⟨T,1,none⟩=some b/\w.cell? ⟨T,2,none⟩=some c/\w.cell? ⟨T,3,none⟩=some d/\(∀j,w.frozen? ⟨T,j,none⟩=false)/\T<w.heap.size :=
 ⟨cell_of_row _ _ _ _ _ _ h,cell_of_row _ _ _ _ _ _ h,cell_of_row _ _ _ _ _ _ h,cell_of_row _ _ _ _ _ _ h,fun j=>frozen_of_row w T j _ _ h,lt_of_block h⟩
theorem KM (kd dp:Int)(P:j0)(w:World)(hd:1<=dp/\dp<=16)(hs:∀p,P.aD=some p->p.size<=1000000000): Calls Tryz.prog 129 #[.int .i64 kd,.int .i64 dp,yg P] w fun e w'=>e=.returned (.bool (gD kd dp P.aD))/\Below w.heap.size w w':=by
 obtain⟨sr,P0,Dt⟩:=P;cases P0 with
 | none =>
  go_enter Tryz.func129,Tryz.ntmps129
  go_wp2
  go_ret
  exact⟨rfl,ae _ _⟩
 | some p =>
  have hps:=hs p rfl;have hr:=Pm.gP dp hd;have hw:=nu dp hd;have hw2:IntKind.i64.wrap (2^dp.toNat)=Pm.two dp:=IntWalk.i64_in (Pm.two dp) (by omega);have HN:0<=(p.size:Int)/\(p.size:Int)<=9223372036854775807:=by omega
  by_cases h0:kd=0
  ·subst h0
   go_enter Tryz.func129,Tryz.ntmps129
   go_wp2
   go_ret
   exact⟨rfl,ae _ _⟩
  ·have e0:(kd==0)=false:=beq_eq_false_iff_ne.2 h0;by_cases h4:kd=4
   ·subst h4
    go_enter Tryz.func129,Tryz.ntmps129
    go_wp2
    go_ret
    exact⟨rfl,ae _ _⟩
   ·have e4:(kd==4)=false:=beq_eq_false_iff_ne.2 h4;by_cases h3:kd=3
    ·subst h3;have kc:=fun u=>gQ (p.size:Int) (Pm.two dp) u HN (fu p.size (Pm.two dp)) rfl;have kd:=fun u=>gQ (p.size:Int) (IntKind.i64.wrap (2^dp.toNat)) u HN (fu p.size (Pm.two dp)) (by rw[hw2];rfl);have HE:Hid (gD 3 dp (some p)=fu p.size (Pm.two dp)):=rfl;generalize fu p.size (Pm.two dp)=cB at *
     go_enter Tryz.func129,Tryz.ntmps129
     go_wp2
     go_quiet ((go_at_call 95;first|exact Calls.quiet_of_same (kc _)|exact Calls.quiet_of_same (kd _)))
     go_wp2
     go_ret
     exact⟨aK HE.out.symm,below_drewN (ae _ _) _⟩
    ·have e3:(kd==3)=false:=beq_eq_false_iff_ne.2 h3;have kc:=fun u=>gQ (p.size:Int) 256 u HN (fu p.size 256) rfl;have HE:Hid (gD kd dp (some p)=fu p.size 256):=by show _=_;unfold gD;dsimp only;rw[if_neg (by omega),if_neg h3]
     generalize fu p.size 256=cB at *
     go_enter Tryz.func129,Tryz.ntmps129
     go_wp2_with (go_at_call 95;refine (kc _).mono ?_;rintro e w' ⟨rfl,rfl⟩)
     go_ret
     exact⟨aK HE.out.symm,ae _ _⟩
theorem KN (n:Nat)(hn:n<=1000000000)(Z:List Value)(hZ:Z=List.replicate n (.int .i64 0))(u:World): (Instr.makeSlice 24 (.int .i64 (n:Int)) (.int .i64 (n:Int))).run Tryz.prog u = .ok (.slice (some ⟨u.heap.size,0,none⟩) n n) (u.alloc (.cells Z.toArray 3)):=by
 obtain⟨i0,hi,hz0,hz1,hz2⟩:=info_parts Tryz.info3;have h:=run_make (P:=Tryz.prog) u 24 3 i0 (.int .i64 0) Tryz.underlying24 hi hz0 .i64 .i64 (n:Int) (n:Int) (by omega) (Int.le_refl _) (by rw[hz2];omega) (by omega)
 have e2:(madeCells #[Value.int .i64 0] n)=Z.toArray:=by
  rw[hZ,<-toList_madeCells_one]
 simpa[hz1,Value.cells,e2]using h
def ym (p:ByteArray):List Int:=(List.range p.size).map fun j=>(ag p j:Int)
inductive wJ (kd dp:Int) (P:j0) (w:World):Ending->World->Prop
 | no {w'}:gD kd dp P.aD=false->Below w.heap.size w w'->wJ kd dp P w (dies 3) w'
 | none {w'}:gD kd dp P.aD=true->kd≠3->Below w.heap.size w w'->wJ kd dp P w (.returned (.slice .none 0 0)) w'
 | ok {w' p G}:gD kd dp P.aD=true->kd=3->P.aD=some p->aP w' G (ym p)->w.heap.size<=G->Below w.heap.size w w'->wJ kd dp P w (.returned (.slice (some ⟨G,0,.none⟩) p.size p.size)) w'
theorem yo (kd dp:Int)(P:j0)(w:World)(hd:1<=dp/\dp<=16)(hs:∀p,P.aD=some p->p.size<=1000000000): Calls Tryz.prog 90 #[.int .i64 kd,.int .i64 dp,yg P] w fun e w'=>wJ kd dp P w e w':=by
 have hf:=fun u=>KM kd dp P u hd hs;have k0:=ae w (.cells #[.string P.head,.bool P.aD.isSome,.string (P.aD.getD ⟨#[]⟩),.string P.data] 116);have q0:=ah w (.cells #[.string P.head,.bool P.aD.isSome,.string (P.aD.getD ⟨#[]⟩),.string P.data] 116);have HS:Hid (∀p,P.aD=some p->p.size<=1000000000):=hs;have HP:Hid (gD kd dp P.aD=gD kd dp P.aD):=rfl;clear hs hd;generalize hok:gD kd dp P.aD=ok at hf;have oZ:Hid (gD kd dp P.aD=ok):=hok;have yN:Hid (_):=k0;have YH:Hid (_):=q0;clear hok HP k0 q0
 go_enter Tryz.func90,Tryz.ntmps90
 go_wp2_with fail;refine (hf _).mono ?_;rintro e w1 ⟨rfl,hb1⟩;have B1:Below w.heap.size w w1:=yN.out.trans (hb1.mono (by simp));have Q1:=(hb1.block _ (by simp)).trans YH.out;clear hf hb1 yN YH;cases ok
 ·go_wp2;exact⟨rfl,.no oZ.out B1⟩
 ·by_cases h3:kd=3
  ·subst h3;obtain⟨sr,P0,Dt⟩:=P;cases P0 with
   | none=>exact absurd (show (!((3:Int)==3))=true from oZ.out) (by decide)
   | some p =>
    have hps:=HS.out p rfl;have Q2:w1.heap[w.heap.size]?=some (.cells #[.string sr,.bool true,.string p,.string Dt] 116 (0,0)):=Q1;obtain⟨y0,y1,y2,y3,yf,yl⟩:=C6 Q2;obtain⟨Z,hZ⟩:∃Z:List Value,Z=List.replicate p.size (.int .i64 0):=⟨_,rfl⟩
    have hmk:=fun u=>KN p.size hps Z hZ u;have HZ:Hid (Z=vals (part p.size 0 (fun j=>(ag p j:Int)))):=by show _=_;rw[hZ,qf,bC]
    have HC:Hid (w1.cell? ⟨w.heap.size,2,none⟩=some (.string p)):=y2;have HB1:Hid (Below w.heap.size w w1):=B1;have Pd:Hid (_):=Q2;clear hZ Q1 Q2 HS B1;go_wp2
    go_loopw [8,23] (fun _ i wr=>∃k:Nat,k<=p.size/\i=.int .i64 k/\aP wr w1.heap.size (part p.size k (fun j=>(ag p j:Int)))/\Below w1.heap.size w1 wr) (fun _ i _=>p.size-(intOf i).toNat)
    case atStart=>exact⟨0,Nat.zero_le _,rfl,(ah w1 _).trans (by rw[HZ.out]),ae _ _⟩
    case round =>
     obtain⟨k,hk,rfl,hl,hb⟩:=hrel;have c2:wr.cell? ⟨w.heap.size,2,none⟩=some (.string p):=(hb.cell (p:=⟨w.heap.size,2,none⟩) yl).trans HC.out;by_cases hlt:k<p.size
     ·obtain⟨x,c1⟩:∃x,wr.cell? ⟨w1.heap.size,k,none⟩=some (.int .i64 x):=⟨_,hl.cell k (by simp;omega)⟩
      have f1:wr.frozen? ⟨w1.heap.size,k,none⟩=false:=frozen_of_row wr _ _ _ _ hl;have hlk:(k:Int)<(p.size:Int):=by omega
      have gk:=dH p k hlt;have lk:=dI p k;have xk:IntKind.i64.wrap (ag p k:Int)=ag p k:=IntWalk.i64_in _ (by omega);have HL:Hid (aP (wr.setCell ⟨w1.heap.size,k,none⟩ (.int .i64 (ag p k))) w1.heap.size (part p.size (k+1) (fun j=>(ag p j:Int)))/\Below w1.heap.size w1 (wr.setCell ⟨w1.heap.size,k,none⟩ (.int .i64 (ag p k)))):=⟨by rw[<-sM];exact hl.set k _,hb.setCell (Nat.le_refl _) _⟩
      clear hl hb;go_wp2
      go_roundw
      case rel=>exact⟨k+1,by omega,by go_num,HL.out.1,HL.out.2⟩
      case measure=>simp[intOf];omega
     ·have hke:k=p.size:=by omega
      subst hke;have HL:Hid (aP wr w1.heap.size (ym p)/\Below w.heap.size w wr):=⟨by rw[sN]at hl;exact hl,HB1.out.trans (hb.mono HB1.out.size)⟩
      have hnl:¬(p.size:Int)<(p.size:Int):=by omega
      clear hl hb;go_wp2
      go_ret
      exact .ok oZ.out rfl rfl HL.out.1 HB1.out.size HL.out.2
  ·have e3:(kd==3)=false:=beq_eq_false_iff_ne.2 h3;go_wp2
   go_ret
   exact .none oZ.out h3 B1
end
end Go.Proofs.YtmfijackgekioaaGreatDoor
