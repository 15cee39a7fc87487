import Derived.Test.YtmfijackgekioabGreatDoorQ28
import Derived.Test.YtmfijackgekioabGreatDoorQ29
set_option maxHeartbeats 4000000
set_option maxRecDepth 100000
namespace Go.Proofs.YtmfijackgekioabGreatDoor
section
open Go.RowKit Go.Maps
structure Hd where
 wd:Int
 ht:Int
 kd:Int
 dp:Int
 ps:Bool
def jr (b:ByteArray):Hd:=⟨aK b 0,aK b 4,af b 9,af b 8,decide (af b 12=1)⟩
def uK (b:ByteArray):Bool:=decide (b.size=13)&&((Pm.gb (aK b 0)&&Pm.gb (aK b 4))&&((decide (af b 10=0)&&(decide (af b 11=0)&&decide (af b 12<=1)))&&!(Pm.chan (af b 9) (af b 8)==0)))
abbrev iX (h:Hd):Array Value:=#[.int .i64 h.wd,.int .i64 h.ht,.int .i64 h.kd,.int .i64 h.dp,.bool h.ps,.slice none 0 0,.slice none 0 0]
abbrev bk:Array Value:=#[.int .i64 0,.int .i64 0,.int .i64 0,.int .i64 0,.bool false,.slice none 0 0,.slice none 0 0]
inductive Fm (b:ByteArray) (w:World):Ending->World->Prop
 | no {w'}:uK b=false->Below w.heap.size w w'->Fm b w (dies 13) w'
 | ok {w'}:uK b=true->Below w.heap.size w w'->Fm b w (.returned (.agg (iX (jr b)))) w'
section
variable {P:Program} {ops:Array Oper} {Q:Exit->Act->World->Prop} {md:Region.Mode} {S:World->Prop} {z:Nat}
theorem bu {i t:Nat}{oi:Oper}{v:Value}{fuel:Nat}{listed:Array Bool}{X T:Array Value}{df}{w:World}(ht:X.setIfInBounds t v=T)(hi:ops[i]?=some oi)(hd:oi.dst=some t)(hs:Region.noSelect ops=true)(hf:Region.free md ops listed i=true)(hr:(Region.ready md ops listed).contains i=true)(hz:waits md ops z i=true)(hQ:∀c a w,Q (.panic c) (a.put oi.dst v) w->Q (.panic c) a w)(hw:Region.wanted oi (yielded ops X)=true)(hy:∀w,S w->(execOp (Act.mk X df).eval oi).run P w=.ok (.value v) w)(hS:S w)(h:fk P md ops Q S z fuel (listed.setIfInBounds i true) ⟨T,df⟩ w):fk P md ops Q S z (fuel+1) listed ⟨X,df⟩ w:=by
 refine vQ hi hs hf hr hz hQ hw hy hS ?_;rw[hd];show fk P md ops Q S z fuel _ ⟨X.setIfInBounds t v,df⟩ w;rw[ht];exact h
end
theorem SU {P F:World->Prop}{G:Prop}(h1:(∀u,F u->P u)->G)(h2:∀u,F u->P u):G:=h1 h2
theorem Tryz.infoImage:(Tryz.prog.info? 24).map (·.size)=some 7:=by kernel_rfl
structure Ow (w:World) (C:Array Value) (u:World):Prop where
 be:Below w.heap.size w u
 z:u.heap[w.heap.size]?=some (.cells bk 24 (0,0))
 m:u.heap[w.heap.size+1]?=some (.cells C 24 (0,0))
theorem gG {w:World}{T:Nat}{a b c d e f g:Value}{t:TypeId}(h:w.heap[T]?=some (.cells #[a,b,c,d,e,f,g] t (0,0))): w.cell? ⟨T,0,none⟩=some a/\w.cell? ⟨T,1,none⟩=some b/\w.cell? ⟨T,2,none⟩=some c/\w.cell? ⟨T,3,none⟩=some d/\w.cell? ⟨T,4,none⟩=some e/\w.cell? ⟨T,5,none⟩=some f/\w.cell? ⟨T,6,none⟩=some g/\(∀j,w.frozen? ⟨T,j,none⟩=false)/\T<w.heap.size :=
 ⟨aat _ _ _ _ _ _ h,aat _ _ _ _ _ _ h,aat _ _ _ _ _ _ h,aat _ _ _ _ _ _ h,aat _ _ _ _ _ _ h,aat _ _ _ _ _ _ h,aat _ _ _ _ _ _ h,fun j=>aaI w T j _ _ h,aaa h⟩
abbrev l6 (w:World)(X:Nat)(a b c d e f g:Value):World:=((((((w.setCell ⟨X,0,none⟩ a).setCell ⟨X,1,none⟩ b).setCell ⟨X,2,none⟩ c).setCell ⟨X,3,none⟩ d).setCell ⟨X,4,none⟩ e).setCell ⟨X,5,none⟩ f).setCell ⟨X,6,none⟩ g
theorem js {w:World}{X:Nat}{t:TypeId}{a' b' c' d' e' f' g':Value}(h:w.heap[X]?=some (.cells #[a',b',c',d',e',f',g'] t (0,0)))(a b c d e f g:Value):(l6 w X a b c d e f g).heap[X]?=some (.cells #[a,b,c,d,e,f,g] t (0,0)):=by
 have h0:(w.setCell ⟨X,0,none⟩ a).heap[X]?=some (.cells #[a,b',c',d',e',f',g'] t (0,0)):=aau _ X 0 _ _ _ h;unfold l6;generalize w.setCell ⟨X,0,none⟩ a=w0 at *;have h1:(w0.setCell ⟨X,1,none⟩ b).heap[X]?=some (.cells #[a,b,c',d',e',f',g'] t (0,0)):=aau _ X 1 _ _ _ h0;generalize w0.setCell ⟨X,1,none⟩ b=w1 at *;have h2:(w1.setCell ⟨X,2,none⟩ c).heap[X]?=some (.cells #[a,b,c,d',e',f',g'] t (0,0)):=aau _ X 2 _ _ _ h1;generalize w1.setCell ⟨X,2,none⟩ c=w2 at *;have h3:(w2.setCell ⟨X,3,none⟩ d).heap[X]?=some (.cells #[a,b,c,d,e',f',g'] t (0,0)):=aau _ X 3 _ _ _ h2;generalize w2.setCell ⟨X,3,none⟩ d=w3 at *;have h4:(w3.setCell ⟨X,4,none⟩ e).heap[X]?=some (.cells #[a,b,c,d,e,f',g'] t (0,0)):=aau _ X 4 _ _ _ h3;generalize w3.setCell ⟨X,4,none⟩ e=w4 at *;have h5:(w4.setCell ⟨X,5,none⟩ f).heap[X]?=some (.cells #[a,b,c,d,e,f,g'] t (0,0)):=aau _ X 5 _ _ _ h4;generalize w4.setCell ⟨X,5,none⟩ f=w5 at *;exact aau _ X 6 _ _ _ h5
theorem jt (w:World)(X:Nat)(a b c d e f g:Value)(j:Nat)(h:j≠X):(l6 w X a b c d e f g).heap[j]?=w.heap[j]?:=by
 unfold l6;rw[aak _ _ _ _ h,aak _ _ _ _ h,aak _ _ _ _ h,aak _ _ _ _ h,aak _ _ _ _ h,aak _ _ _ _ h,aak _ _ _ _ h]
theorem fV {B:Nat}{a0 w:World}(k:Below B a0 w)(X:Nat)(h:B<=X)(a b c d e f g:Value):Below B a0 (l6 w X a b c d e f g) :=
 ((((((k.setCell (p:=⟨X,0,none⟩) h _).setCell (p:=⟨X,1,none⟩) h _).setCell (p:=⟨X,2,none⟩) h _).setCell (p:=⟨X,3,none⟩) h _).setCell (p:=⟨X,4,none⟩) h _).setCell (p:=⟨X,5,none⟩) h _).setCell (p:=⟨X,6,none⟩) h _
theorem Hm (b:ByteArray)(w:World): Calls Tryz.prog 32 #[.string b] w fun e w'=>Fm b w e w':=by
 by_cases h13:b.size=13
 ·have h4:(4:Int)<=(b.size:Int):=by omega
  have h8:(8:Int)<(b.size:Int):=by omega
  have h9:(9:Int)<(b.size:Int):=by omega
  have h12:(12:Int)<(b.size:Int):=by omega
  have g8:=cD b 8 (by omega);have g9:=cD b 9 (by omega);have g12:=cD b 12 (by omega);have hf0:=fun v=>j8 b v (by omega);have I3:=fun v=>j8 (b.extract 4 b.size) v (by rw[aaL];omega);rw[jY]at hf0 I3;rw[nC b 4 b.size 0 (by omega) (aah _),acz]at I3;rw[h13]at I3;have abg:(b.size:Int)=13:=by omega
  have l8:=cE b 8;have l9:=cE b 9;have Y7:=cE b 12;have x8:IntKind.i64.wrap (af b 8:Int)=af b 8:=aao _ (by omega);have x9:IntKind.i64.wrap (af b 9:Int)=af b 9:=aao _ (by omega)
  have x12:((af b 12:Int)==1)=decide (af b 12=1):=by
   rw[acA,beq_iff_eq,aaW];omega
  go_enter Tryz.func32,Tryz.ntmps32
  go_wp2_with fail;apply SU (F:=Ow w (iX (jr b)))
  ·intro rest;have hS:True:=trivial;have q0:=ah w (.cells bk 24);have k0:=(ae w (.cells bk 24)).drew;refine ax (fun _=>True) 16 ?_;have Z0:(w.alloc (.cells bk 24)).drew.heap[w.heap.size]?=some (.cells bk 24 (0,0)):=q0;have hsz:(w.alloc (.cells bk 24)).drew.heap.size=w.heap.size+1:=by simp
   generalize (w.alloc (.cells bk 24)).drew=v0 at *;refine bu (i:=0) (t:=10) (v:=.string b) (T:=?_) (by go_simp;try with_reducible rfl) rfl rfl (by kernel_rfl) (by kernel_rfl) (by kernel_rfl) (by kernel_rfl) (fun _ _ _ h=>h) (by kernel_rfl) ?_ hS ?_
   ·intro w hSw;go_simp;try with_reducible rfl
   refine bu (i:=2) (t:=12) (v:=.string b) (T:=?_) (by go_simp;try with_reducible rfl) rfl rfl (by kernel_rfl) (by kernel_rfl) (by kernel_rfl) (by kernel_rfl) (fun _ _ _ h=>h) (by kernel_rfl) ?_ hS ?_
   ·intro w hSw;go_simp;try with_reducible rfl
   refine bu (i:=3) (t:=13) (v:=.string (b.extract 4 13)) (T:=?_) (by go_simp;try with_reducible rfl) rfl rfl (by kernel_rfl) (by kernel_rfl) (by kernel_rfl) (by kernel_rfl) (fun _ _ _ h=>h) (by kernel_rfl) ?_ hS ?_
   ·intro w hSw;go_simp;try with_reducible rfl
   refine bu (i:=5) (t:=15) (v:=.string b) (T:=?_) (by go_simp;try with_reducible rfl) rfl rfl (by kernel_rfl) (by kernel_rfl) (by kernel_rfl) (by kernel_rfl) (fun _ _ _ h=>h) (by kernel_rfl) ?_ hS ?_
   ·intro w hSw;go_simp;try with_reducible rfl
   refine bu (i:=6) (t:=16) (v:=.int .u8 (af b 8)) (T:=?_) (by go_simp;try with_reducible rfl) rfl rfl (by kernel_rfl) (by kernel_rfl) (by kernel_rfl) (by kernel_rfl) (fun _ _ _ h=>h) (by kernel_rfl) ?_ hS ?_
   ·intro w hSw;go_simp;try with_reducible rfl
   refine bu (i:=7) (t:=17) (v:=.int .i64 (af b 8)) (T:=?_) (by go_simp;try with_reducible rfl) rfl rfl (by kernel_rfl) (by kernel_rfl) (by kernel_rfl) (by kernel_rfl) (fun _ _ _ h=>h) (by kernel_rfl) ?_ hS ?_
   ·intro w hSw;go_simp
   refine bu (i:=8) (t:=18) (v:=.string b) (T:=?_) (by go_simp;try with_reducible rfl) rfl rfl (by kernel_rfl) (by kernel_rfl) (by kernel_rfl) (by kernel_rfl) (fun _ _ _ h=>h) (by kernel_rfl) ?_ hS ?_
   ·intro w hSw;go_simp;try with_reducible rfl
   refine bu (i:=9) (t:=19) (v:=.int .u8 (af b 9)) (T:=?_) (by go_simp;try with_reducible rfl) rfl rfl (by kernel_rfl) (by kernel_rfl) (by kernel_rfl) (by kernel_rfl) (fun _ _ _ h=>h) (by kernel_rfl) ?_ hS ?_
   ·intro w hSw;go_simp;try with_reducible rfl
   refine bu (i:=10) (t:=20) (v:=.int .i64 (af b 9)) (T:=?_) (by go_simp;try with_reducible rfl) rfl rfl (by kernel_rfl) (by kernel_rfl) (by kernel_rfl) (by kernel_rfl) (fun _ _ _ h=>h) (by kernel_rfl) ?_ hS ?_
   ·intro w hSw;go_simp
   refine bu (i:=11) (t:=21) (v:=.string b) (T:=?_) (by go_simp;try with_reducible rfl) rfl rfl (by kernel_rfl) (by kernel_rfl) (by kernel_rfl) (by kernel_rfl) (fun _ _ _ h=>h) (by kernel_rfl) ?_ hS ?_
   ·intro w hSw;go_simp;try with_reducible rfl
   refine bu (i:=12) (t:=22) (v:=.int .u8 (af b 12)) (T:=?_) (by go_simp;try with_reducible rfl) rfl rfl (by kernel_rfl) (by kernel_rfl) (by kernel_rfl) (by kernel_rfl) (fun _ _ _ h=>h) (by kernel_rfl) ?_ hS ?_
   ·intro w hSw;go_simp;try with_reducible rfl
   refine bu (i:=13) (t:=23) (v:=.bool (decide (af b 12=1))) (T:=?_) (by go_simp;try with_reducible rfl) rfl rfl (by kernel_rfl) (by kernel_rfl) (by kernel_rfl) (by kernel_rfl) (fun _ _ _ h=>h) (by kernel_rfl) ?_ hS ?_
   ·intro w hSw;go_simp
   refine fp (i:=1) (j:=15) (by kernel_rfl) rfl rfl (fun K hK=>?_) (fun K hK=>?_)
   ·go_simp;refine (hf0 _).mono ?_;rintro e v1 ⟨rfl,m1,rfl⟩;refine hK _ _ (fun _=>trivial) ?_;clear hK K;have k1:=aaD k0 m1;have Z1:(v0.drewN m1).heap[w.heap.size]?=some (.cells bk 24 (0,0)):=Z0;have s1:(v0.drewN m1).heap.size=w.heap.size+1:=hsz;generalize v0.drewN m1=v1 at *;refine fp (i:=4) (j:=15) (by kernel_rfl) rfl rfl (fun K hK=>?_) (fun K hK=>?_)
    ·go_simp;refine (I3 _).mono ?_;rintro e v' ⟨rfl,m',rfl⟩;refine hK _ _ (fun _=>trivial) ?_;clear hK K;have k2:=aaD k1 m';have Z2:(v1.drewN m').heap[w.heap.size]?=some (.cells bk 24 (0,0)):=Z1;have s2:(v1.drewN m').heap.size=w.heap.size+1:=s1;generalize v1.drewN m'=v2 at *;refine bu (i:=14) (t:=24) (v:=.agg #[.int .i64 (aK b 0),.int .i64 (aK b 4),.int .i64 (af b 9),.int .i64 (af b 8),.bool (decide (af b 12=1)),.slice none 0 0,.slice none 0 0]) (T:=?_) (by go_simp;try with_reducible rfl) rfl rfl (by kernel_rfl) (by kernel_rfl) (by kernel_rfl) (by kernel_rfl) (fun _ _ _ h=>h) (by kernel_rfl) ?_ hS ?_
     ·intro w hSw;go_simp;try rfl
     refine ag 15 fun K hK=>?_;go_simp;have ka:=ae v2 (.cells bk 24);have X3:=ah v2 (.cells bk 24);rw[s2]at X3;have k3:=k2.trans (ka.mono (by omega));have Z3:=(ka.block _ (by omega)).trans Z2;generalize v2.alloc (.cells bk 24)=v3 at *;refine hK _ _ (fun _=>trivial) ?_;clear hK K ka;obtain⟨y0,y1,y2,y3,y4,y5,y6,yf,yl⟩:=gG X3;refine ag 16 fun K hK=>?_;go_simp;refine hK _ _ (fun h=>absurd rfl h) ?_;clear hK K;refine am ?_;have hat:Ow w (iX (jr b)) (l6 v3 (w.heap.size+1) (.int .i64 (aK b 0)) (.int .i64 (aK b 4)) (.int .i64 (af b 9)) (.int .i64 (af b 8)) (.bool (decide (af b 12=1))) (.slice none 0 0) (.slice none 0 0)):=⟨fV k3 _ (by omega) ..,(jt _ _ _ _ _ _ _ _ _ _ (by omega)).trans Z3,js X3 ..⟩
     unfold l6 at hat;revert hat;generalize World.setCell _ _ _=u;intro hat;have r:=rest u hat;clear hat;exact r
    ·go_simp;have ka:=ae v1 (.cells bk 24);have X2:=ah v1 (.cells bk 24);rw[s1]at X2;have k2:=k1.trans (ka.mono (by omega));have Z2:=(ka.block _ (by omega)).trans Z1;generalize v1.alloc (.cells bk 24)=v2 at *;refine hK _ _ (fun _=>trivial) ?_;clear hK K ka;refine ag 4 fun K hK=>?_;go_simp;refine (I3 _).mono ?_;rintro e v' ⟨rfl,m',rfl⟩;refine hK _ _ (fun _=>trivial) ?_;clear hK K;have k3:=aaD k2 m';have Z3:(v2.drewN m').heap[w.heap.size]?=some (.cells bk 24 (0,0)):=Z2;have X3:(v2.drewN m').heap[w.heap.size+1]?=some (.cells bk 24 (0,0)):=X2;generalize v2.drewN m'=v3 at *;refine bu (i:=14) (t:=24) (v:=.agg #[.int .i64 (aK b 0),.int .i64 (aK b 4),.int .i64 (af b 9),.int .i64 (af b 8),.bool (decide (af b 12=1)),.slice none 0 0,.slice none 0 0]) (T:=?_) (by go_simp;try with_reducible rfl) rfl rfl (by kernel_rfl) (by kernel_rfl) (by kernel_rfl) (by kernel_rfl) (fun _ _ _ h=>h) (by kernel_rfl) ?_ hS ?_
     ·intro w hSw;go_simp;try rfl
     obtain⟨y0,y1,y2,y3,y4,y5,y6,yf,yl⟩:=gG X3;refine ag 16 fun K hK=>?_;go_simp;refine hK _ _ (fun h=>absurd rfl h) ?_;clear hK K;refine am ?_;have hat:Ow w (iX (jr b)) (l6 v3 (w.heap.size+1) (.int .i64 (aK b 0)) (.int .i64 (aK b 4)) (.int .i64 (af b 9)) (.int .i64 (af b 8)) (.bool (decide (af b 12=1))) (.slice none 0 0) (.slice none 0 0)):=⟨fV k3 _ (by omega) ..,(jt _ _ _ _ _ _ _ _ _ _ (by omega)).trans Z3,js X3 ..⟩
     unfold l6 at hat;revert hat;generalize World.setCell _ _ _=u;intro hat;have r:=rest u hat;clear hat;exact r
   ·go_simp;have ka:=ae v0 (.cells bk 24);have X1:=ah v0 (.cells bk 24);rw[hsz]at X1;have k1:=k0.trans (ka.mono (by omega));have Z1:=(ka.block _ (by omega)).trans Z0;generalize v0.alloc (.cells bk 24)=v1 at *;refine hK _ _ (fun _=>trivial) ?_;clear hK K ka;refine ag 1 fun K hK=>?_;go_simp;refine (hf0 _).mono ?_;rintro e v' ⟨rfl,m',rfl⟩;refine hK _ _ (fun _=>trivial) ?_;clear hK K;have k2:=aaD k1 m';have Z2:(v1.drewN m').heap[w.heap.size]?=some (.cells bk 24 (0,0)):=Z1;have X2:(v1.drewN m').heap[w.heap.size+1]?=some (.cells bk 24 (0,0)):=X1;generalize v1.drewN m'=v2 at *;refine ag 4 fun K hK=>?_;go_simp;refine (I3 _).mono ?_;rintro e v' ⟨rfl,m',rfl⟩;refine hK _ _ (fun _=>trivial) ?_;clear hK K;have k3:=aaD k2 m';have Z3:(v2.drewN m').heap[w.heap.size]?=some (.cells bk 24 (0,0)):=Z2;have X3:(v2.drewN m').heap[w.heap.size+1]?=some (.cells bk 24 (0,0)):=X2;generalize v2.drewN m'=v3 at *;refine bu (i:=14) (t:=24) (v:=.agg #[.int .i64 (aK b 0),.int .i64 (aK b 4),.int .i64 (af b 9),.int .i64 (af b 8),.bool (decide (af b 12=1)),.slice none 0 0,.slice none 0 0]) (T:=?_) (by go_simp;try with_reducible rfl) rfl rfl (by kernel_rfl) (by kernel_rfl) (by kernel_rfl) (by kernel_rfl) (fun _ _ _ h=>h) (by kernel_rfl) ?_ hS ?_
    ·intro w hSw;go_simp;try rfl
    obtain⟨y0,y1,y2,y3,y4,y5,y6,yf,yl⟩:=gG X3;refine ag 16 fun K hK=>?_;go_simp;refine hK _ _ (fun h=>absurd rfl h) ?_;clear hK K;refine am ?_;have hat:Ow w (iX (jr b)) (l6 v3 (w.heap.size+1) (.int .i64 (aK b 0)) (.int .i64 (aK b 4)) (.int .i64 (af b 9)) (.int .i64 (af b 8)) (.bool (decide (af b 12=1))) (.slice none 0 0) (.slice none 0 0)):=⟨fV k3 _ (by omega) ..,(jt _ _ _ _ _ _ _ _ _ _ (by omega)).trans Z3,js X3 ..⟩
    unfold l6 at hat;revert hat;generalize World.setCell _ _ _=u;intro hat;have r:=rest u hat;clear hat;exact r
  ·intro u hu;have hm:u.heap[w.heap.size+1]?=some (.cells #[.int .i64 (aK b 0),.int .i64 (aK b 4),.int .i64 (af b 9),.int .i64 (af b 8),.bool (decide (af b 12=1)),.slice none 0 0,.slice none 0 0] 24 (0,0)):=hu.m;have hz:u.heap[w.heap.size]?=some (.cells #[.int .i64 0,.int .i64 0,.int .i64 0,.int .i64 0,.bool false,.slice none 0 0,.slice none 0 0] 24 (0,0)):=hu.z;obtain⟨y0,y1,y2,y3,y4,y5,y6,yf,yl⟩:=gG hm;obtain⟨z0,z1,z2,z3,z4,z5,z6,zf,zl⟩:=gG hz;have h10:(10:Int)<(b.size:Int):=by omega
   have h11:(11:Int)<(b.size:Int):=by omega
   have g10:=cD b 10 (by omega);have g11:=cD b 11 (by omega);have hC:=fun v=>lZ (af b 9) (af b 8) v;have x10:((af b 10:Int)==0)=decide (af b 10=0):=by rw[acA,beq_iff_eq,aaW];omega
   have gh:((af b 11:Int)==0)=decide (af b 11=0):=by rw[acA,beq_iff_eq,aaW];omega
   have x13:decide ((af b 12:Int)<=1)=decide (af b 12<=1):=by rw[acA,aaW,aaW];omega
   have pw:Hid (uK b=((Pm.gb (aK b 0)&&Pm.gb (aK b 4))&&((decide (af b 10=0)&&(decide (af b 11=0)&&decide (af b 12<=1)))&&!(Pm.chan (af b 9) (af b 8)==0)))):=by show _=_;unfold uK;rw[abj h13,acT]
   have HM:Hid (_):=hm;have HZ:Hid (_):=hz;have HHD:Hid (jr b=⟨aK b 0,aK b 4,af b 9,af b 8,decide (af b 12=1)⟩):=rfl;clear hf0 I3 hm hz;generalize hs1:Pm.gb (aK b 0)=s1 at *;generalize hs2:Pm.gb (aK b 4)=s2 at *;generalize decide (af b 10=0)=c10 at *;generalize decide (af b 11=0)=c11 at *;generalize decide (af b 12<=1)=c12 at *;generalize Pm.chan (af b 9) (af b 8)=CH at *;generalize hch:(CH==0)=ch at *;generalize aK b 0=A at *;generalize aK b 4=B at *;rcases c10 with _|_
   ·rcases s1 with _|_
    ·go_wp2_with (go_at_call 41;refine (fU _ _).mono ?_;rintro e w' ⟨rfl,rfl⟩);exact⟨rfl,.no (by rw[pw.out];simp) hu.be⟩
    ·rcases s2 with _|_
     ·go_wp2_with (go_at_call 41;refine (fU _ _).mono ?_;rintro e w' ⟨rfl,rfl⟩);exact⟨rfl,.no (by rw[pw.out];simp) hu.be⟩
     ·go_wp2_with (go_at_call 41;refine (fU _ _).mono ?_;rintro e w' ⟨rfl,rfl⟩);exact⟨rfl,.no (by rw[pw.out];simp) hu.be⟩
   ·rcases c11 with _|_
    ·rcases s1 with _|_
     ·go_wp2_with (go_at_call 41;refine (fU _ _).mono ?_;rintro e w' ⟨rfl,rfl⟩);exact⟨rfl,.no (by rw[pw.out];simp) hu.be⟩
     ·rcases s2 with _|_
      ·go_wp2_with (go_at_call 41;refine (fU _ _).mono ?_;rintro e w' ⟨rfl,rfl⟩);exact⟨rfl,.no (by rw[pw.out];simp) hu.be⟩
      ·go_wp2_with (go_at_call 41;refine (fU _ _).mono ?_;rintro e w' ⟨rfl,rfl⟩);exact⟨rfl,.no (by rw[pw.out];simp) hu.be⟩
    ·rcases c12 with _|_
     ·rcases s1 with _|_
      ·go_wp2_with (go_at_call 41;refine (fU _ _).mono ?_;rintro e w' ⟨rfl,rfl⟩);exact⟨rfl,.no (by rw[pw.out];simp) hu.be⟩
      ·rcases s2 with _|_
       ·go_wp2_with (go_at_call 41;refine (fU _ _).mono ?_;rintro e w' ⟨rfl,rfl⟩);exact⟨rfl,.no (by rw[pw.out];simp) hu.be⟩
       ·go_wp2_with (go_at_call 41;refine (fU _ _).mono ?_;rintro e w' ⟨rfl,rfl⟩);exact⟨rfl,.no (by rw[pw.out];simp) hu.be⟩
     ·rcases s1 with _|_
      ·go_wp2_with (go_at_call 41;refine (fU _ _).mono ?_;rintro e w' ⟨rfl,rfl⟩);exact⟨rfl,.no (by rw[pw.out];simp) hu.be⟩
      ·rcases s2 with _|_
       ·go_wp2_with (go_at_call 41;refine (fU _ _).mono ?_;rintro e w' ⟨rfl,rfl⟩);exact⟨rfl,.no (by rw[pw.out];simp) hu.be⟩
       ·rcases ch with _|_
        ·go_wp2_with (first|(go_at_call 41;refine (fU _ _).mono ?_;rintro e w' ⟨rfl,rfl⟩)|(go_at_call 40;refine (hC _).mono ?_;rintro e w' ⟨rfl,rfl⟩));have hend:=js HZ.out (.int .i64 A) (.int .i64 B) (.int .i64 (af b 9)) (.int .i64 (af b 8)) (.bool (decide (af b 12=1))) (.slice none 0 0) (.slice none 0 0);have hbe:=fV hu.be w.heap.size (aah _) (.int .i64 A) (.int .i64 B) (.int .i64 (af b 9)) (.int .i64 (af b 8)) (.bool (decide (af b 12=1))) (.slice none 0 0) (.slice none 0 0)
         exact aaF (v:=.agg #[.int .i64 A,.int .i64 B,.int .i64 (af b 9),.int .i64 (af b 8),.bool (decide (af b 12=1)),.slice none 0 0,.slice none 0 0]) (results_cell_row rfl _ _ w.heap.size 24 _ (0,0) _ rfl hend Tryz.underlying24 rfl Tryz.infoImage) rfl (by
          have:=Fm.ok (b:=b) (w:=w) (by rw[pw.out];rfl) hbe;rw[HHD.out]at this
          exact this)
        ·go_wp2_with (first|(go_at_call 41;refine (fU _ _).mono ?_;rintro e w' ⟨rfl,rfl⟩)|(go_at_call 40;refine (hC _).mono ?_;rintro e w' ⟨rfl,rfl⟩));exact⟨rfl,.no (by rw[pw.out];simp) hu.be⟩
 ·have HN:Hid (uK b=false):=by show _=_;unfold uK;rw[abN h13,abD]
  have abg:((b.size:Int)==13)=false:=by rw[aaP];omega
  go_enter Tryz.func32,Tryz.ntmps32
  go_wp2;exact⟨rfl,.no HN.out (ae _ _)⟩
end
section
variable {P:Program} {ops:Array Oper} {Q:Exit->Act->World->Prop} {md:Region.Mode} {S:World->Prop} {z:Nat}
theorem bU {i t:Nat}{is:List Nat}{oi:Oper}{v:Value}{fuel:Nat}{listed:Array Bool}{X T:Array Value}{df}{w:World}(ht:X.setIfInBounds t v=T)(hy:∀w,S w->(execOp (Act.mk X df).eval oi).run P w=.ok (.value v) w)(hS:S w)(h:Pv is (fk P md ops Q S z fuel (listed.setIfInBounds i true) ⟨T,df⟩ w))(hi:ops[i]?=some oi:=by rfl)(hd:oi.dst=some t:=by rfl)(hk:vR md ops listed z i oi X=true:=by kernel_rfl)(hQ:∀c a w,Q (.panic c) (a.put oi.dst v) w->Q (.panic c) a w:=by exact fun _ _ _ h=>h):Pv (i::is) (fk P md ops Q S z (fuel+1) listed ⟨X,df⟩ w):=by
 unfold vR at hk;simp only[aaS]at hk;exact bu ht hi hd hk.1 hk.2.1 hk.2.2.1 hk.2.2.2.1 hQ hk.2.2.2.2 hy hS h
theorem aT {i t:Nat}{is:List Nat}{oi:Oper}{v:Value}{fuel:Nat}{listed:Array Bool}{X T:Array Value}{df}{w:World}(hS:S w)(h:Pv is (fk P md ops Q S z fuel (listed.setIfInBounds i true) ⟨T,df⟩ w))(hi:ops[i]?=some oi:=by rfl)(hd:oi.dst=some t:=by rfl)(hy:∀w,S w->(execOp (Act.mk X df).eval oi).run P w=.ok (.value v) w:=by intro w hSw;(try dsimp only at hSw);go_simp;try with_reducible rfl)(ht:X.setIfInBounds t v=T:=by go_simp;try with_reducible rfl)(hk:vR md ops listed z i oi X=true:=by kernel_rfl)(hQ:∀c a w,Q (.panic c) (a.put oi.dst v) w->Q (.panic c) a w:=by exact fun _ _ _ h=>h):Pv (i::is) (fk P md ops Q S z (fuel+1) listed ⟨X,df⟩ w):=bU ht hy hS h hi hd hk hQ
end
section
open Go.RowKit Go.Maps
theorem Fo (x y:Int)(w:World)(hx:-1000<=x/\x<=1000)(hy:-1000<=y/\y<=1000): Calls Tryz.prog 157 #[.int .i64 x,.int .i64 y] w fun e w'=>e=.returned (.int .i64 (Pm.dY x y))/\w'=w:=by
 go_enter Tryz.func157,Tryz.ntmps157
 go_wp2
 all_goals go_ret
 all_goals exact⟨aI (by unfold Pm.dY;omega),rfl⟩
theorem DH (w:World)(a b:Nat):(w.drewN a).drewN b=w.drewN (a+b):=by simp
abbrev cY (l:List Int):List Value:=l.map (Value.int .u8)
def cH (w:World)(g:Nat)(l:List Int):Prop:=w.heap[g]?=some (.cells (cY l).toArray 5 (0,0))
theorem cH.cell {w:World}{g:Nat}{l:List Int}(h:cH w g l)(j:Nat)(hj:j<l.length):w.cell? ⟨g,j,none⟩=some (.int .u8 (Pm.ai l j)):=by
 refine (aat _ _ _ _ _ _ h).trans ?_;simp[cY,hj,Pm.ai]
theorem cH.frozen {w:World}{g:Nat}{l:List Int}(h:cH w g l)(j:Nat):w.frozen? ⟨g,j,none⟩=false:=aaI w g j _ _ h
theorem cH.set {w:World}{g:Nat}{l:List Int}(h:cH w g l)(i:Nat)(x:Int):cH (w.setCell ⟨g,i,none⟩ (.int .u8 x)) g (l.set i x):=by
 refine (aau w g i _ _ (.int .u8 x) h).trans ?_;simp[cY,List.map_set]
theorem Fp (R A:Nat)(r a:List Int)(i lead n:Nat)(w:World)(hR:cH w R r)(hA:cH w A a)(hr:r.length=n)(ha:a.length=n)(hi:i<n)(hn:n<=1000000)(hl:1<=lead/\lead<=8)(gr:∀j,0<=Pm.ai r j/\Pm.ai r j<256)(ga:∀j,0<=Pm.ai a j/\Pm.ai a j<256): Calls Tryz.prog 138 #[.slice (some ⟨R,0,none⟩) n n,.slice (some ⟨A,0,none⟩) n n,.int .i64 (i:Nat),.int .i64 (lead:Nat)] w fun e w' =>
   e=.returned (.tuple #[.int .i64 (Pm.cW (Pm.ai r) i lead),.int .i64 (Pm.ai a i),.int .i64 (Pm.cW (Pm.ai a) i lead)])/\∃m,w'=w.drewN m:=by
 have c3:=hA.cell i (by omega);have g3:=ga i;have x3:IntKind.i64.wrap (Pm.ai a i)=Pm.ai a i:=aao _ (by omega);have hin:(i:Int)<(n:Int):=by omega
 by_cases h:lead<=i
 ·have MJ:(i:Int)≥(lead:Int):=by omega
  have e0:((i:Int)-(lead:Int))=((i-lead:Nat):Int):=by omega
  have P1:Hid (Pm.cW (Pm.ai r) i lead=Pm.ai r (i-lead)):=by show _=_;rw[Pm.cW,aaj h]
  have P2:Hid (Pm.cW (Pm.ai a) i lead=Pm.ai a (i-lead)):=by show _=_;rw[Pm.cW,aaj h]
  have c1:=hR.cell (i-lead) (by omega);have c2:=hA.cell (i-lead) (by omega);have g1:=gr (i-lead);have g2:=ga (i-lead);have x1:IntKind.i64.wrap (Pm.ai r (i-lead))=Pm.ai r (i-lead):=aao _ (by omega);have x2:IntKind.i64.wrap (Pm.ai a (i-lead))=Pm.ai a (i-lead):=aao _ (by omega);have hk:((i-lead:Nat):Int)<(n:Int):=by omega
  generalize Pm.ai r (i-lead)=X at *;generalize Pm.ai a (i-lead)=Y at *;generalize Pm.ai a i=Z at *;obtain⟨k,hkk⟩:∃k,k=i-lead:=⟨_,rfl⟩
  rw[<-hkk]at c1 c2 e0 hk;have HK:Hid (_):=hkk;clear hR hA gr ga hkk
  go_enter Tryz.func138,Tryz.ntmps138
  go_wp2
  go_quiet (fail)
  go_wp2
  go_quiet (fail)
  go_wp2;refine aaF (v:=.tuple #[.int .i64 X,.int .i64 Z,.int .i64 Y]) (by simp[results,Tryz.results138,go_sem]) rfl ⟨?_,_,DH _ _ _⟩;rw[P1.out,P2.out]
 ·have MJ:¬(i:Int)≥(lead:Int):=by omega
  have P1:Hid (Pm.cW (Pm.ai r) i lead=0):=by show _=_;rw[Pm.cW,aai h]
  have P2:Hid (Pm.cW (Pm.ai a) i lead=0):=by show _=_;rw[Pm.cW,aai h]
  generalize Pm.ai a i=Z at *;clear hR hA gr ga
  go_enter Tryz.func138,Tryz.ntmps138
  go_wp2
  go_quiet (fail)
  go_wp2;refine aaF (v:=.tuple #[.int .i64 0,.int .i64 Z,.int .i64 0]) (by simp[results,Tryz.results138,go_sem]) rfl ⟨?_,_,rfl⟩;rw[P1.out,P2.out]
structure oB (F f:Nat):Prop where
 does:∀(a b c:Int) (u:World),(0<=a/\a<256)->(0<=b/\b<256)->(0<=c/\c<256)->Calls Tryz.prog F #[.int .i64 a,.int .i64 b,.int .i64 c] u fun e u'=>e=.returned (.int .i64 (Pm.gD f a b c))/\u'=u
 call:∀args w,(callFunc F args).run Tryz.prog w=.ok (.enter F args) w
theorem WF:oB 133 0:=by
 refine⟨?_,fun args w=>by kernel_rfl⟩;intro a b c u ha hb hc
 go_enter Tryz.func133,Tryz.ntmps133
 go_wp2
 go_ret
 exact⟨rfl,rfl⟩
theorem WG:oB 134 1:=by
 refine⟨?_,fun args w=>by kernel_rfl⟩;intro a b c u ha hb hc
 go_enter Tryz.func134,Tryz.ntmps134
 go_wp2
 go_ret
 exact⟨rfl,rfl⟩
theorem WH:oB 135 2:=by
 refine⟨?_,fun args w=>by kernel_rfl⟩;intro a b c u ha hb hc
 go_enter Tryz.func135,Tryz.ntmps135
 go_wp2
 go_ret
 exact⟨rfl,rfl⟩
theorem WI:oB 136 3:=by
 refine⟨?_,fun args w=>by kernel_rfl⟩;intro a b c u ha hb hc
 go_enter Tryz.func136,Tryz.ntmps136
 go_wp2
 go_ret
 exact⟨rfl,rfl⟩
theorem WJ:oB 137 4:=by
 refine⟨?_,fun args w=>by kernel_rfl⟩;intro a b c u ha hb hc;have hA:=fun v=>Fo b c v (by omega) (by omega);have hB:=fun v=>Fo a c v (by omega) (by omega);have hC:=fun v=>Fo (a+b) (c+c) v (by omega) (by omega);have HN:Hid (Pm.gD 4 a b c=if Pm.dY b c<=Pm.dY a c/\Pm.dY b c<=Pm.dY (a+b) (c+c) then a else if Pm.dY a c<=Pm.dY (a+b) (c+c) then b else c):=Pm.G5 a b c;generalize Pm.gD 4 a b c=R at *;generalize Pm.dY b c=x at *;generalize Pm.dY a c=y at *;generalize Pm.dY (a+b) (c+c)=z at *;by_cases h1:x<=y
 ·by_cases h2:x<=z
  ·rw[aaj ⟨h1,h2⟩]at HN
   go_enter Tryz.func137,Tryz.ntmps137
   go_wp2_with fail;refine (hA _).mono ?_;rintro e w' ⟨rfl,rfl⟩;go_wp2_with fail;refine (hB _).mono ?_;rintro e w' ⟨rfl,rfl⟩;go_wp2_with fail;refine (hC _).mono ?_;rintro e w' ⟨rfl,rfl⟩;go_wp2
   go_ret
   exact⟨aI HN.out.symm,rfl⟩
  ·rw[aai (fun h=>h2 h.2)]at HN;by_cases h3:y<=z
   ·exact absurd (Int.le_trans h1 h3) h2
   ·rw[aai h3]at HN
    go_enter Tryz.func137,Tryz.ntmps137
    go_wp2_with fail;refine (hA _).mono ?_;rintro e w' ⟨rfl,rfl⟩;go_wp2_with fail;refine (hB _).mono ?_;rintro e w' ⟨rfl,rfl⟩;go_wp2_with fail;refine (hC _).mono ?_;rintro e w' ⟨rfl,rfl⟩;go_wp2
    go_ret
    exact⟨aI HN.out.symm,rfl⟩
 ·rw[aai (fun h=>h1 h.1)]at HN;by_cases h3:y<=z
  all_goals
   first|rw[aaj h3]at HN|rw[aai h3]at HN
   go_enter Tryz.func137,Tryz.ntmps137
   go_wp2_with fail;refine (hA _).mono ?_;rintro e w' ⟨rfl,rfl⟩;go_wp2_with fail;refine (hB _).mono ?_;rintro e w' ⟨rfl,rfl⟩;go_wp2_with fail;refine (hC _).mono ?_;rintro e w' ⟨rfl,rfl⟩;go_wp2
   go_ret
   exact⟨aI HN.out.symm,rfl⟩
def gY:Nat->Nat
 | 0=>133
 | 1=>134
 | 2=>135
 | 3=>136
 | _=>137
theorem pg (f:Nat)(h:f<=4):oB (gY f) f:=by
 match f,h with
 | 0,_=>exact WF
 | 1,_=>exact WG
 | 2,_=>exact WH
 | 3,_=>exact WI
 | 4,_=>exact WJ
inductive Lt (f:Nat) (w:World):Ending->World->Prop
 | no:4<f->Lt f w (dies 15) w
 | ok:f<=4->Lt f w (.returned (.func (.func (gY f)) #[] #[])) w
theorem uL (f:Nat)(w:World):Calls Tryz.prog 95 #[.int .u8 (f:Nat)] w fun e w'=>Lt f w e w':=by
 rcases aba 4 f with h|h
 ·have HH:Hid (4<f):=h;have n0:((f:Int)==0)=false:=by rw[aaP];omega
  have n1:((f:Int)==1)=false:=by rw[aaP];omega
  have n2:((f:Int)==2)=false:=by rw[aaP];omega
  have n3:((f:Int)==3)=false:=by rw[aaP];omega
  have n4:((f:Int)==4)=false:=by rw[aaP];omega
  clear h
  go_enter Tryz.func95,Tryz.ntmps95
  go_wp2;exact⟨rfl,.no HH.out⟩
 ·match f,h with
  | 0,h =>
   go_enter Tryz.func95,Tryz.ntmps95
   go_wp2
   go_ret
   exact .ok h
  | 1,h =>
   go_enter Tryz.func95,Tryz.ntmps95
   go_wp2
   go_ret
   exact .ok h
  | 2,h =>
   go_enter Tryz.func95,Tryz.ntmps95
   go_wp2
   go_ret
   exact .ok h
  | 3,h =>
   go_enter Tryz.func95,Tryz.ntmps95
   go_wp2
   go_ret
   exact .ok h
  | 4,h =>
   go_enter Tryz.func95,Tryz.ntmps95
   go_wp2
   go_ret
   exact .ok h
def ph (U:Nat->List Int)(x:Nat->Int)(n i:Nat):List Int:=(List.range n).map fun j=>if j<i then Pm.ai (U i) j else x j
theorem gH (U:Nat->List Int)(x:Nat->Int)(n i:Nat):(ph U x n i).length=n:=by simp[ph]
theorem Hn (U:Nat->List Int)(x:Nat->Int)(n:Nat):ph U x n 0=(List.range n).map x:=by simp[ph]
theorem kD (U:Nat->List Int)(x:Nat->Int)(n i j:Nat)(hj:j<n):Pm.ai (ph U x n i) j=if j<i then Pm.ai (U i) j else x j:=by
 unfold Pm.ai ph;rw[aab,abC,List.getElem?_range hj];rfl
theorem pY {a b:List Int}(hl:a.length=b.length)(h:∀j,j<a.length->Pm.ai a j=Pm.ai b j):a=b:=by
 refine aca hl fun j h1 h2=>?_;have:=h j h1;unfold Pm.ai at this;rw[aab,aab,aan h1,aan h2]at this;exact this
theorem kr (a:List Int)(i j:Nat)(v:Int)(hi:i<a.length):Pm.ai (a.set i v) j=if j=i then v else Pm.ai a j:=by
 unfold Pm.ai;rw[aab,aab,List.getElem?_set];by_cases h:i=j
 ·subst h;simp[hi]
 ·rw[aai h,aai (fun e=>h e.symm)]
theorem A9 (a:List Int)(v:Int)(j:Nat):Pm.ai (a++[v]) j=if j=a.length then v else Pm.ai a j:=by
 unfold Pm.ai;rw[aab,aab];by_cases h:j<a.length
 ·rw[abn h,aai (by omega)]
 ·by_cases h2:j=a.length
  ·subst h2;simp
  ·rw[aai h2,aaC (by simp;omega),aaC (by omega)]
def Y8 (f lead:Nat)(above x:Nat->Int)(i:Nat):Int:=(x i+Pm.gD f (Pm.cW (Pm.ai (Pm.nk f lead above x i)) i lead) (above i) (Pm.cW above i lead))%256
theorem Lu (f lead:Nat)(above x:Nat->Int)(n i:Nat)(hi:i<n):(ph (Pm.nk f lead above x) x n i).set i (Y8 f lead above x i)=ph (Pm.nk f lead above x) x n (i+1):=by
 have hl:=Pm.pR f lead above x i;refine pY (by rw[abd,gH,gH]) fun j hj=>?_;rw[abd,gH]at hj;rw[kr _ _ _ _ (by rw[gH];exact hi),kD _ _ _ _ _ hj,kD _ _ _ _ _ hj,Pm.nk,A9,hl];by_cases h:j=i
 ·rw[aaj h,aaj (by omega),aaj h];rfl
 ·rw[aai h,aai h];by_cases h2:j<i
  ·rw[aaj h2,aaj (by omega)]
  ·rw[aai h2,aai (by omega)]
theorem Lw (f lead:Nat)(above x:Nat->Int)(n:Nat):ph (Pm.nk f lead above x) x n n=Pm.nk f lead above x n:=by
 refine pY (by rw[gH,Pm.pR]) fun j hj=>?_;rw[gH]at hj;rw[kD _ _ _ _ _ hj,aaj hj]
theorem Ho (f lead:Nat)(above x:Nat->Int)(n i:Nat)(hi:i<n)(hl:1<=lead):Pm.cW (Pm.ai (ph (Pm.nk f lead above x) x n i)) i lead=Pm.cW (Pm.ai (Pm.nk f lead above x i)) i lead:=by
 unfold Pm.cW;split
 ·rw[kD _ _ _ _ _ (by omega),aaj (by omega)]
 ·rfl
theorem DI (f lead:Nat)(above x:Nat->Int)(n i:Nat)(hx:∀i,0<=x i/\x i<256)(j:Nat):0<=Pm.ai (ph (Pm.nk f lead above x) x n i) j/\Pm.ai (ph (Pm.nk f lead above x) x n i) j<256:=by
 by_cases hj:j<n
 ·rw[kD _ _ _ _ _ hj];split
  ·exact Pm.np _ _ _ _ _ _
  ·exact hx _
 ·unfold Pm.ai;rw[aab,aaC (by rw[gH];omega)];exact⟨abU _,by show (0:Int)<256;decide⟩
theorem Lx (F f lead n R A:Nat)(a:List Int)(x:Nat->Int)(w:World)(hf:oB F f)(hR:cH w R ((List.range n).map x))(hA:cH w A a)(ha:a.length=n)(ga:∀j,0<=Pm.ai a j/\Pm.ai a j<256)(hx:∀i,0<=x i/\x i<256)(hl:1<=lead/\lead<=8)(hRA:A≠R)(hn:n<=1000000): Calls Tryz.prog 96 #[.slice (some ⟨R,0,none⟩) n n,.slice (some ⟨A,0,none⟩) n n,.int .i64 (lead:Nat),.func (.func F) #[] #[]] w fun e w' =>
   e=.returned (.tuple #[])/\cH w' R (Pm.nk f lead (Pm.ai a) x n)/\Kp (·=R) w w':=by
 have hcall:=hf.call;have HF:Hid (oB F f):=hf;have HA:Hid (cH w A a):=hA;clear hf hA;rw[<-Hn (Pm.nk f lead (Pm.ai a) x)]at hR
 go_enter Tryz.func96,Tryz.ntmps96
 go_wp2
 go_loopw [11] (fun ix wr=>∃i:Nat,i<=n/\ix=.int .i64 i/\cH wr R (ph (Pm.nk f lead (Pm.ai a) x) x n i)/\Kp (·=R) w wr) (fun ix _=>n-(intOf ix).toNat)
 case atStart=>exact⟨0,aaq _,rfl,hR,Kp.refl _ _⟩
 case round =>
  clear hR;obtain⟨i,hi,rfl,hB,hk⟩:=hrel;by_cases hlt:i<n
  ·have hlt':(i:Int)<(n:Int):=by omega
   have xi:=hx i;have hAr:cH wr A a:=(hk.block A (aaa HA.out) hRA).trans HA.out;have c0:=hB.cell i (by rw[gH];exact hlt);rw[kD _ _ _ _ _ hlt,aai (by omega)]at c0;have Qm:=Ho f lead (Pm.ai a) x n i hlt hl.1;have Y9:=fun m=>Fp R A _ a i lead n (wr.drew.drewN m) (show cH (wr.drew.drewN m) R _ from hB) (show cH (wr.drew.drewN m) A a from hAr) (gH _ _ _ _) ha hlt hn hl (DI f lead _ x n i hx) ga;rw[Qm]at Y9;have hu:Y8 f lead (Pm.ai a) x i=(x i+Pm.gD f (Pm.cW (Pm.ai (Pm.nk f lead (Pm.ai a) x i)) i lead) (Pm.ai a i) (Pm.cW (Pm.ai a) i lead))%256:=rfl;have p1:=Pm.lH (fun j=>Pm.np f lead (Pm.ai a) x i j) i lead;have p2:=ga i;have p3:=Pm.lH ga i lead;have htr:=Pm.rE f p1 p2 p3;have HD:=fun u=>HF.out.does _ _ _ u p1 p2 p3
   have SV:Hid (∀u:World,cH u R (ph (Pm.nk f lead (Pm.ai a) x) x n i)->cH (u.setCell ⟨R,i,none⟩ (.int .u8 (Y8 f lead (Pm.ai a) x i))) R (ph (Pm.nk f lead (Pm.ai a) x) x n (i+1))):=fun u h=>by
    rw[<-Lu f lead (Pm.ai a) x n i hlt];exact h.set i _
   generalize Pm.cW (Pm.ai (Pm.nk f lead (Pm.ai a) x i)) i lead=P1 at *;generalize Pm.ai a i=P2 at *;generalize Pm.cW (Pm.ai a) i lead=P3 at *;generalize Pm.gD f P1 P2 P3=T at *;generalize Y8 f lead (Pm.ai a) x i=V at *;generalize x i=X at *;have w1:IntKind.u8.wrap T=T:=by rw[ab2];omega
   have w2:IntKind.u8.wrap (X+T)=V:=by rw[ab2,hu]
   have fz:=fun j=>hB.frozen j;have lb:=aaa hB;have UA:Hid (_):=hB;have HK:Hid (_):=hk;clear hB hk hAr hx ga Qm hu;go_wp2;have hS:wr.drew.cell? ⟨R,i,none⟩=some (.int .u8 X):=c0;refine ax (fun w'=>w'.cell? ⟨R,i,none⟩=some (.int .u8 X)) 17 ?_;refine ap [0,1,2,3,4,5,6,7,8] ?_
   iterate 9 refine aT hS ?_
   refine aj ?_;refine ag 9 fun K hK=>?_;go_simp;refine (Y9 0).mono ?_;rintro e v1 ⟨rfl,m,hv1⟩;have hS2:v1.cell? ⟨R,i,none⟩=some (.int .u8 X):=by rw[hv1];exact c0
   have HQ:Hid (_/\_):=⟨SV.out v1 (by rw[hv1];exact UA.out),(show Kp (·=R) w v1 by rw[hv1];exact (HK.out.drew.drewN 0).drewN m).setCell (p:=⟨R,i,none⟩) (.inl rfl) (.int .u8 V)⟩
   have fz2:v1.frozen? ⟨R,i,none⟩=false:=by rw[hv1];exact fz i
   clear hv1;refine hK _ _ (fun _=>hS2) ?_;clear hK K;refine ap [10,11,12] ?_
   iterate 3 refine aT hS2 ?_
   refine aj ?_;refine ag 13 fun K hK=>?_;go_simp;refine (HD _).mono ?_;rintro e w' ⟨rfl,rfl⟩;refine hK _ _ (fun _=>hS2) ?_;clear hK K;refine ap [14,15,16] ?_
   iterate 3 refine aT hS2 ?_
   refine aj ?_;refine ag 17 fun K hK=>?_;go_simp;refine hK _ _ (fun h=>absurd rfl h) ?_;clear hK K;refine am ?_;go_wp2
   go_roundw
   case rel=>exact⟨i+1,by omega,by go_num,HQ.out.1,HQ.out.2⟩
   case measure=>simp[intOf];omega
  ·have hie:i=n:=by omega
   subst hie;rw[Lw]at hB;go_wp2
   go_end0
   exact⟨rfl,hB,hk⟩
def fB (n m:Int):Bool:=decide (n%3=0)&&(decide (1<=n/3)&&decide (n/3<=m))
def gI (kd dp:Int):Option ByteArray->Bool
 | none=>!(kd==3)
 | some p=>if kd=0\/kd=4 then false else if kd=3 then fB p.size (Pm.two dp) else fB p.size 256
theorem DJ {w:World}{T:Nat}{a b c d:Value}{t:TypeId}(h:w.heap[T]?=some (.cells #[a,b,c,d] t (0,0))): w.cell? ⟨T,0,none⟩=some a/\w.cell? ⟨T,1,none⟩=some b/\w.cell? ⟨T,2,none⟩=some c/\w.cell? ⟨T,3,none⟩=some d/\(∀j,w.frozen? ⟨T,j,none⟩=false)/\T<w.heap.size :=
 ⟨aat _ _ _ _ _ _ h,aat _ _ _ _ _ _ h,aat _ _ _ _ _ _ h,aat _ _ _ _ _ _ h,fun j=>aaI w T j _ _ h,aaa h⟩
theorem Ly (kd dp:Int)(P:kt)(w:World)(hd:1<=dp/\dp<=16)(hs:∀p,P.aq=some p->p.size<=1000000000): Calls Tryz.prog 61 #[.int .i64 kd,.int .i64 dp,yK P] w fun e w'=>e=.returned (.bool (gI kd dp P.aq))/\Below w.heap.size w w':=by
 obtain⟨sJ,P0,Dt⟩:=P;cases P0 with
 | none =>
  go_enter Tryz.func61,Tryz.ntmps61
  go_wp2
  go_ret
  exact⟨rfl,ae _ _⟩
 | some p =>
  have hps:=hs p rfl;have hr:=Pm.gU dp hd;have hw:=nE dp hd;have hw2:IntKind.i64.wrap (2^dp.toNat)=Pm.two dp:=aao (Pm.two dp) (by omega);have HN:0<=(p.size:Int)/\(p.size:Int)<=9223372036854775807:=by omega
  by_cases h0:kd=0
  ·subst h0
   go_enter Tryz.func61,Tryz.ntmps61
   go_wp2
   go_ret
   exact⟨rfl,ae _ _⟩
  ·have e0:(kd==0)=false:=aaP.2 h0;by_cases h4:kd=4
   ·subst h4
    go_enter Tryz.func61,Tryz.ntmps61
    go_wp2
    go_ret
    exact⟨rfl,ae _ _⟩
   ·have e4:(kd==4)=false:=aaP.2 h4;by_cases h3:kd=3
    ·subst h3;have kc:=fun u=>gX (p.size:Int) (Pm.two dp) u HN (fB p.size (Pm.two dp)) rfl;have kd:=fun u=>gX (p.size:Int) (IntKind.i64.wrap (2^dp.toNat)) u HN (fB p.size (Pm.two dp)) (by rw[hw2];rfl);have HE:Hid (gI 3 dp (some p)=fB p.size (Pm.two dp)):=rfl;generalize fB p.size (Pm.two dp)=cB at *
     go_enter Tryz.func61,Tryz.ntmps61
     go_wp2
     go_quiet ((go_at_call 78;first|exact abq (kc _)|exact abq (kd _)))
     go_wp2
     go_ret
     exact⟨aL HE.out.symm,aaD (ae _ _) _⟩
    ·have e3:(kd==3)=false:=aaP.2 h3;have kc:=fun u=>gX (p.size:Int) 256 u HN (fB p.size 256) rfl;have HE:Hid (gI kd dp (some p)=fB p.size 256):=by show _=_;unfold gI;dsimp only;rw[aai (by omega),aai h3]
     generalize fB p.size 256=cB at *
     go_enter Tryz.func61,Tryz.ntmps61
     go_wp2_with (go_at_call 78;refine (kc _).mono ?_;rintro e w' ⟨rfl,rfl⟩)
     go_ret
     exact⟨aL HE.out.symm,ae _ _⟩
theorem Lz (n:Nat)(hn:n<=1000000000)(Z:List Value)(hZ:Z=List.replicate n (.int .i64 0))(u:World): (Instr.makeSlice 22 (.int .i64 (n:Int)) (.int .i64 (n:Int))).run Tryz.prog u = .ok (.slice (some ⟨u.heap.size,0,none⟩) n n) (u.alloc (.cells Z.toArray 3)):=by
 obtain⟨i0,hi,hz0,hz1,hz2⟩:=abu Tryz.info3;have h:=run_make (P:=Tryz.prog) u 22 3 i0 (.int .i64 0) Tryz.underlying22 hi hz0 .i64 .i64 (n:Int) (n:Int) (by omega) (abU _) (by rw[hz2];omega) (by omega)
 have e2:(madeCells #[Value.int .i64 0] n)=Z.toArray:=by
  rw[hZ,<-toList_madeCells_one]
 simpa[hz1,Value.cells,e2]using h
def yM (p:ByteArray):List Int:=(List.range p.size).map fun j=>(af p j:Int)
inductive xq (kd dp:Int) (P:kt) (w:World):Ending->World->Prop
 | no {w'}:gI kd dp P.aq=false->Below w.heap.size w w'->xq kd dp P w (dies 3) w'
 | none {w'}:gI kd dp P.aq=true->kd≠3->Below w.heap.size w w'->xq kd dp P w (.returned (.slice .none 0 0)) w'
 | ok {w' p G}:gI kd dp P.aq=true->kd=3->P.aq=some p->aQ w' G (yM p)->w.heap.size<=G->Below w.heap.size w w'->xq kd dp P w (.returned (.slice (some ⟨G,0,.none⟩) p.size p.size)) w'
theorem yN (kd dp:Int)(P:kt)(w:World)(hd:1<=dp/\dp<=16)(hs:∀p,P.aq=some p->p.size<=1000000000): Calls Tryz.prog 34 #[.int .i64 kd,.int .i64 dp,yK P] w fun e w'=>xq kd dp P w e w':=by
 have hf:=fun u=>Ly kd dp P u hd hs;have k0:=ae w (.cells #[.string P.head,.bool P.aq.isSome,.string (P.aq.getD ⟨#[]⟩),.string P.data] 66);have q0:=ah w (.cells #[.string P.head,.bool P.aq.isSome,.string (P.aq.getD ⟨#[]⟩),.string P.data] 66);have HS:Hid (∀p,P.aq=some p->p.size<=1000000000):=hs;have HP:Hid (gI kd dp P.aq=gI kd dp P.aq):=rfl;clear hs hd;generalize hok:gI kd dp P.aq=ok at hf;have pw:Hid (gI kd dp P.aq=ok):=hok;have zr:Hid (_):=k0;have Y6:Hid (_):=q0;clear hok HP k0 q0
 go_enter Tryz.func34,Tryz.ntmps34
 go_wp2_with fail;refine (hf _).mono ?_;rintro e w1 ⟨rfl,hb1⟩;have B1:Below w.heap.size w w1:=zr.out.trans (hb1.mono (by simp));have Q1:=(hb1.block _ (by simp)).trans Y6.out;clear hf hb1 zr Y6;cases ok
 ·go_wp2;exact⟨rfl,.no pw.out B1⟩
 ·by_cases h3:kd=3
  ·subst h3;obtain⟨sJ,P0,Dt⟩:=P;cases P0 with
   | none=>exact absurd (show (!((3:Int)==3))=true from pw.out) (by decide)
   | some p =>
    have hps:=HS.out p rfl;have Q2:w1.heap[w.heap.size]?=some (.cells #[.string sJ,.bool true,.string p,.string Dt] 66 (0,0)):=Q1;obtain⟨y0,y1,y2,y3,yf,yl⟩:=DJ Q2;obtain⟨Z,hZ⟩:∃Z:List Value,Z=List.replicate p.size (.int .i64 0):=⟨_,rfl⟩
    have hmk:=fun u=>Lz p.size hps Z hZ u;have HZ:Hid (Z=vals (part p.size 0 (fun j=>(af p j:Int)))):=by show _=_;rw[hZ,qk,bJ]
    have HC:Hid (w1.cell? ⟨w.heap.size,2,none⟩=some (.string p)):=y2;have HB1:Hid (Below w.heap.size w w1):=B1;have PJ:Hid (_):=Q2;clear hZ Q1 Q2 HS B1;go_wp2
    go_loopw [8,23] (fun _ i wr=>∃k:Nat,k<=p.size/\i=.int .i64 k/\aQ wr w1.heap.size (part p.size k (fun j=>(af p j:Int)))/\Below w1.heap.size w1 wr) (fun _ i _=>p.size-(intOf i).toNat)
    case atStart=>exact⟨0,aaq _,rfl,(ah w1 _).trans (by rw[HZ.out]),ae _ _⟩
    case round =>
     obtain⟨k,hk,rfl,hl,hb⟩:=hrel;have c2:wr.cell? ⟨w.heap.size,2,none⟩=some (.string p):=(hb.cell (p:=⟨w.heap.size,2,none⟩) yl).trans HC.out;by_cases hlt:k<p.size
     ·obtain⟨x,c1⟩:∃x,wr.cell? ⟨w1.heap.size,k,none⟩=some (.int .i64 x):=⟨_,hl.cell k (by simp;omega)⟩
      have f1:wr.frozen? ⟨w1.heap.size,k,none⟩=false:=aaI wr _ _ _ _ hl;have hlk:(k:Int)<(p.size:Int):=by omega
      have gk:=cD p k hlt;have lk:=cE p k;have xk:IntKind.i64.wrap (af p k:Int)=af p k:=aao _ (by omega);have HL:Hid (aQ (wr.setCell ⟨w1.heap.size,k,none⟩ (.int .i64 (af p k))) w1.heap.size (part p.size (k+1) (fun j=>(af p j:Int)))/\Below w1.heap.size w1 (wr.setCell ⟨w1.heap.size,k,none⟩ (.int .i64 (af p k)))):=⟨by rw[<-sW];exact hl.set k _,hb.setCell (aah _) _⟩
      clear hl hb;go_wp2
      go_roundw
      case rel=>exact⟨k+1,by omega,by go_num,HL.out.1,HL.out.2⟩
      case measure=>simp[intOf];omega
     ·have hke:k=p.size:=by omega
      subst hke;have HL:Hid (aQ wr w1.heap.size (yM p)/\Below w.heap.size w wr):=⟨by rw[sX]at hl;exact hl,HB1.out.trans (hb.mono HB1.out.size)⟩
      have hnl:¬(p.size:Int)<(p.size:Int):=by omega
      clear hl hb;go_wp2
      go_ret
      exact .ok pw.out rfl rfl HL.out.1 HB1.out.size HL.out.2
  ·have e3:(kd==3)=false:=aaP.2 h3;go_wp2
   go_ret
   exact .none pw.out h3 B1
end
end Go.Proofs.YtmfijackgekioabGreatDoor
