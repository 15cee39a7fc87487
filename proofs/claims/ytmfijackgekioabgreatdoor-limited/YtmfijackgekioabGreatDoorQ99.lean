import Derived.Test.YtmfijackgekioabGreatDoorQ30
import Derived.Test.YtmfijackgekioabGreatDoorCards
import Derived.Test.YtmfijackgekioabGreatDoorTie
import Derived.ProofKit
import Derived.OpenShut
import Derived.Deep.DeepHandedRow
import Derived.Lib.LaidTab
import Derived.Lib.SmallJoins
import Derived.SizedLaws
import Derived.Test.YtmfijackgekioabGreatDoorQ46
import Derived.JoinedCond
import Derived.Test.YtmfijackgekioabGreatDoorQ37
import Derived.Test.YtmfijackgekioabGreatDoorQ38
import Derived.Test.YtmfijackgekioabGreatDoorQ28
import Derived.Test.YtmfijackgekioabGreatDoorQ03
import Derived.Test.YtmfijackgekioabGreatDoorQ29
set_option maxHeartbeats 2000000
set_option maxRecDepth 100000
namespace Go.Proofs.YtmfijackgekioabGreatDoor
section
open Go.ChangeShapes Go.WideShapes Go.ChangeAt Go.RowKit Go.Joins
theorem Tryz.own:ownKnob Tryz.prog.godebug=none:=by kernel_rfl
theorem Tryz.laidOut:laidOutB Tryz.prog=true:=by kernel_rfl
theorem Y6:Tryz.prog.globalNamed "mosaic/picture.sevenPasses"=some 0:=by kernel_rfl
theorem M4:(Tryz.prog.globals[0]?).map (·.type)=some 142:=by kernel_rfl
theorem yh:Tryz.prog.cellsOf 3=1:=by kernel_rfl
theorem vK:Tryz.prog.cellsOf 93=6:=by kernel_rfl
theorem Cl:Tryz.prog.cellsOf 142=42:=by kernel_rfl
section
variable {H:Type} {enc:TypeId×Value->H} {w:World} {base:Nat} {sp:Nat->Bool} {held:Bool}
theorem lu {n:Nat}{cs:List Value}{z:Int}{p:List MemPlace}(h:DataW.trod enc Tryz.prog w base sp held n 3 cs=some (.lit (.int .i64 z),p)):cs=[.int .i64 z]:=by
 obtain⟨a,h1,h2,_⟩:=DataW.trod_int Tryz.underlying3 h;simp at h2;obtain⟨rfl,_⟩:=h2;exact h1
theorem Rl {α:Type}:∀{l:List α},l.length=6->∃a b c d e f,l=[a,b,c,d,e,f]
 | [a,b,c,d,e,f],_=>⟨a,b,c,d,e,f,rfl⟩
theorem Y7 {α:Type}:∀{l:List α},l.length=7->∃a b c d e f g,l=[a,b,c,d,e,f,g]
 | [a,b,c,d,e,f,g],_=>⟨a,b,c,d,e,f,g,rfl⟩
theorem gb {n:Nat}{cs:List Value}{a b c d e f:Int}{p:List MemPlace}(h:DataW.trod enc Tryz.prog w base sp held n 93 cs=some (.agg [.lit (.int .i64 a),.lit (.int .i64 b),.lit (.int .i64 c),.lit (.int .i64 d),.lit (.int .i64 e),.lit (.int .i64 f)],p)): cs=[.int .i64 a,.int .i64 b,.int .i64 c,.int .i64 d,.int .i64 e,.int .i64 f]:=by
 obtain⟨xs,m,_,hx,hl,hlen,hf⟩:=DataW.trod_struct Tryz.underlying93 h;obtain⟨c0,c1,c2,c3,c4,c5,rfl⟩:=Rl (hl.trans vK);obtain⟨y0,y1,y2,y3,y4,y5,rfl⟩:=Rl (hlen.trans rfl);simp only[acR,List.map_nil,Prod.mk.injEq,DataW.agg.injEq,List.cons.injEq,and_true]at hx;obtain⟨⟨e0,e1,e2,e3,e4,e5⟩,_⟩:=hx;have g0:DataW.trod enc Tryz.prog w base sp held m 3 (List.take (Tryz.prog.cellsOf 3) (List.drop 0 [c0,c1,c2,c3,c4,c5]))=some y0:=hf 0 _ rfl;have g1:DataW.trod enc Tryz.prog w base sp held m 3 (List.take (Tryz.prog.cellsOf 3) (List.drop 1 [c0,c1,c2,c3,c4,c5]))=some y1:=hf 1 _ rfl;have g2:DataW.trod enc Tryz.prog w base sp held m 3 (List.take (Tryz.prog.cellsOf 3) (List.drop 2 [c0,c1,c2,c3,c4,c5]))=some y2:=hf 2 _ rfl;have g3:DataW.trod enc Tryz.prog w base sp held m 3 (List.take (Tryz.prog.cellsOf 3) (List.drop 3 [c0,c1,c2,c3,c4,c5]))=some y3:=hf 3 _ rfl;have g4:DataW.trod enc Tryz.prog w base sp held m 3 (List.take (Tryz.prog.cellsOf 3) (List.drop 4 [c0,c1,c2,c3,c4,c5]))=some y4:=hf 4 _ rfl;have g5:DataW.trod enc Tryz.prog w base sp held m 3 (List.take (Tryz.prog.cellsOf 3) (List.drop 5 [c0,c1,c2,c3,c4,c5]))=some y5:=hf 5 _ rfl;rw[yh]at g0 g1 g2 g3 g4 g5;obtain⟨y0a,y0b⟩:=y0;obtain⟨y1a,y1b⟩:=y1;obtain⟨y2a,y2b⟩:=y2;obtain⟨y3a,y3b⟩:=y3;obtain⟨y4a,y4b⟩:=y4;obtain⟨y5a,y5b⟩:=y5;simp only at e0 e1 e2 e3 e4 e5;subst e0 e1 e2 e3 e4 e5;have r0:=lu (cs:=[c0]) g0;have r1:=lu (cs:=[c1]) g1;have r2:=lu (cs:=[c2]) g2;have r3:=lu (cs:=[c3]) g3;have r4:=lu (cs:=[c4]) g4;have r5:=lu (cs:=[c5]) g5;rw[acO r0,acO r1,acO r2,acO r3,acO r4,acO r5]
theorem vL {cs r:List Value}(h:cs.take 6=r):cs=r++cs.drop 6:=by rw[<-h,acD]
theorem Cm {n:Nat}{cs:List Value}{p:List MemPlace}(h:DataW.trod enc Tryz.prog w base sp held n 142 cs=some (Rows.laid_mosaic_picture_sevenPasses,p)):cs.toArray=cY:=by
 obtain⟨xs,m,_,hx,hl,hlen,hf⟩:=DataW.trod_array Tryz.underlying142 h;obtain⟨y0,y1,y2,y3,y4,y5,y6,rfl⟩:=Y7 hlen;simp only[Rows.laid_mosaic_picture_sevenPasses,acR,List.map_nil,Prod.mk.injEq,DataW.agg.injEq,List.cons.injEq,and_true]at hx;obtain⟨⟨e0,e1,e2,e3,e4,e5,e6⟩,_⟩:=hx;have g0:=hf 0 (by omega);have g1:=hf 1 (by omega);have g2:=hf 2 (by omega);have g3:=hf 3 (by omega);have g4:=hf 4 (by omega);have g5:=hf 5 (by omega);have g6:=hf 6 (by omega);simp only[vK,List.getElem?_cons_zero,List.getElem?_cons_succ]at g0 g1 g2 g3 g4 g5 g6;obtain⟨y0a,y0b⟩:=y0;obtain⟨y1a,y1b⟩:=y1;obtain⟨y2a,y2b⟩:=y2;obtain⟨y3a,y3b⟩:=y3;obtain⟨y4a,y4b⟩:=y4;obtain⟨y5a,y5b⟩:=y5;obtain⟨y6a,y6b⟩:=y6;simp only at e0 e1 e2 e3 e4 e5 e6;subst e0 e1 e2 e3 e4 e5 e6;have r0:=gb g0;have r1:=gb g1;have r2:=gb g2;have r3:=gb g3;have r4:=gb g4;have r5:=gb g5;have r6:=gb g6;rw[Cl]at hl;have s0:=vL r0;have s1:=vL r1;have s2:=vL r2;have s3:=vL r3;have s4:=vL r4;have s5:=vL r5;have s6:=vL r6;simp only[List.drop_drop,Nat.reduceMul,Nat.reduceAdd,ac6]at s0 s1 s2 s3 s4 s5 s6;have s7:cs.drop 42=[]:=List.drop_eq_nil_of_le (by omega);rw[s7]at s6;rw[s0,s1,s2,s3,s4,s5,s6];rfl
end
theorem table {W:World}(h':laidMet Tryz.prog [("mosaic/picture.sevenPasses",Rows.laid_mosaic_picture_sevenPasses)] W):∃tt fr,W.heap[0]?=some (.cells cY tt fr):=by
 obtain⟨ps,⟨g',t',cs,fuel,p,q,hg',ht',hvar,hd,_,_⟩,_⟩:=h';obtain rfl:=aaN (Y6.symm.trans hg');obtain rfl:=aaN (M4.symm.trans ht');unfold World.var? at hvar;rw[Y6]at hvar;simp only[Option.bind_some]at hvar;split at hvar
 ·rename_i cs' tt fr hh;refine⟨tt,fr,?_⟩;have hcs:=Cm hd;rw[Array.toArray_toList]at hcs;rw[hh,aaN hvar,hcs]
 ·cases hvar
theorem Rm:Tryz.prog.cellsOf 22=1:=by kernel_rfl
theorem Jc {n:Int}(h:(Lit.int .i64 n).wf=true):I64 n:=by
 have h9:=h;simp[Lit.wf,IntKind.min,IntKind.max,IntKind.bits,IntKind.signed]at h9;exact⟨by omega,by omega⟩
section
variable {H:Type} {enc:TypeId×Value->H} {W:World}
theorem Y8 {base:Nat}{v:Value}{d:DataW H}{p:List MemPlace}(hv:Value.okWide Tryz.prog W .any base 22 v)(h:DataW.Trod enc Tryz.prog W 0 (fun _=>true) true 22 v d p): ∃(ao:Option Addr) (cap:Nat) (zs:List Int),v=.slice ao zs.length cap/\Ints W ao zs/\(∀a,ao=some a->zs≠[]->a.block<W.heap.size)/\zs.length<=maxLen/\(∀y∈zs,I64 y):=by
 obtain⟨a0,n0,c0,rfl⟩:=okWide_slice Tryz.underlying22 hv;obtain⟨fuel,hf⟩:=h;rcases open_ints Tryz.underlying22 Tryz.underlying3 yh hf with⟨hcs,hx⟩|⟨a,len,cap,zs,hcs,_,hl,hm,hz,hx,hcell,hwz⟩
 ·have e:(Value.slice a0 n0 c0)=.slice none 0 0:=acO hcs;exact⟨none,0,[],e,fun j hj=>absurd hj (adk _),fun a e _=>(by cases e),aao _,fun y hy=>absurd hy (abC)⟩
 ·have e:(Value.slice a0 n0 c0)=.slice (some a) len cap:=acO hcs;have hzl:zs.length=cap:=by simpa using hz
  have hlen:(zs.take len).length=len:=by rw[aaX];omega
  refine⟨some a,cap,zs.take len,e.trans (by rw[hlen]),?_,?_,by rw[hlen];omega,fun y hy=>Jc (hwz y (ac5 hy))⟩
  ·intro j hj;rw[hlen]at hj;obtain⟨b,off,rfl,hc⟩:=ints_at hcell (by omega);refine⟨b,off,rfl,?_⟩;rw[hc j (by omega)];simp[List.getD,List.getElem?_eq_getElem (show j<zs.length by omega)]
  ·intro a' e hne;cases e
   have h0:0<zs.length:=by
    cases zs with
    | nil=>simp at hne
    | cons z r=>simp
   obtain⟨b,off,rfl,hc⟩:=ints_at hcell h0;exact World.block_lt_of_cell? W ⟨b,off+0,none⟩ (hc 0 h0)
end
end
section
open Go.RowKit Go.Maps
theorem rL (h:Hd)(aq:List Int)(ds:List ByteArray):(dr h aq ds).length=8+(aC (aN h aq ds)).length:=by unfold dr;rw[aae];rfl
theorem Jd (h:Hd)(aq:List Int)(ds:List ByteArray):(aN h aq ds).length=2+(if h.kd=3 then 1 else 0)+ds.length:=by
 unfold aN;split<;>simp<;>omega
end
section
open Go.RowKit
theorem Rn (x y:Nat)(hx:x<4294967296)(hy:y<4294967296):bits .xor .i64 (x:Int) (y:Int)=((x^^^y:Nat):Int):=by
 have hz:x^^^y<4294967296:=Nat.xor_lt_two_pow (n:=32) hx hy
 have key:(BitVec.ofInt 64 (x:Int)^^^BitVec.ofInt 64 (y:Int)).toNat=x^^^y:=by
  rw[BitVec.toNat_xor,abX,abX];have t1:((y:Int)%((2^64:Nat):Int)).toNat=y:=by omega
  have t2:((x:Int)%((2^64:Nat):Int)).toNat=x:=by omega
  rw[t1,t2]
 show IntKind.i64.wrap ((BitVec.ofInt 64 (x:Int)^^^BitVec.ofInt 64 (y:Int)).toNat:Nat)=_;rw[key,ac7];omega
theorem afL (n:Nat)(w:World)(hn:n<4294967296): Calls Tryz.prog 12 #[.int .i64 n] w fun e w'=>e=.returned (.string ⟨(four n).toArray⟩)/\Below w.heap.size w w':=by
 have hcv:=sk n hn w
 go_enter Tryz.func12,Tryz.ntmps12
 go_wp2
 go_ret
 exact⟨rfl,ae w _⟩
theorem Y9 (s:ByteArray)(k:Nat)(w:World)(hs:s.size<=1000000000)(hk:k+4<=s.size): Calls Tryz.prog 30 #[.string s,.int .i64 k] w fun e w'=>e=.returned (.int .i64 (aJ s k))/\∃n,w'=w.drewN n:=by
 have q0:k<s.size:=by omega
 have q1:k+1<s.size:=by omega
 have q2:k+2<s.size:=by omega
 have q3:k+3<s.size:=by omega
 have e0:=ct s k q0;have e1:=ct s (k+1) q1;have e2:=ct s (k+2) q2;have e3:=ct s (k+3) q3;have l0:=cu s k;have l1:=cu s (k+1);have l2:=cu s (k+2);have l3:=cu s (k+3);have HF:Hid (aJ s k=af s k*16777216+af s (k+1)*65536+af s (k+2)*256+af s (k+3)):=rfl;generalize aJ s k=V at *;generalize af s k=b0 at *;generalize af s (k+1)=b1 at *;generalize af s (k+2)=b2 at *;generalize af s (k+3)=b3 at *;have o1:=fT ((b0:Int)*16777216) ((b1:Int)*65536) (b0*16777216) (b1*65536) 24 (by omega) (by omega) (by omega) (by omega) (by omega) (by omega);have o2:=fT ((b0:Int)*16777216+(b1:Int)*65536) ((b2:Int)*256) (b0*16777216+b1*65536) (b2*256) 16 (by omega) (by omega) (by omega) (by omega) (by omega) (by omega);have o3:=fT ((b0:Int)*16777216+(b1:Int)*65536+(b2:Int)*256) (b3:Int) (b0*16777216+b1*65536+b2*256) b3 8 (by omega) (by omega) (by omega) (by omega) (by omega) rfl;have O:Hid (_/\_/\_):=⟨o1,o2,o3⟩
 clear o1 o2 o3;have p0:(k:Int)<(s.size:Int):=by omega
 have p1:(k:Int)+1<(s.size:Int):=by omega
 have p2:(k:Int)+2<(s.size:Int):=by omega
 have p3:(k:Int)+3<(s.size:Int):=by omega
 have g1:(0:Int)<=(k:Int)+1:=by omega
 have g2:(0:Int)<=(k:Int)+2:=by omega
 have g3:(0:Int)<=(k:Int)+3:=by omega
 have x1:IntKind.i64.wrap ((k:Int)+1)=((k+1:Nat):Int):=by rw[aan _ (by omega)];omega
 have x2:IntKind.i64.wrap ((k:Int)+2)=((k+2:Nat):Int):=by rw[aan _ (by omega)];omega
 have x3:IntKind.i64.wrap ((k:Int)+3)=((k+3:Nat):Int):=by rw[aan _ (by omega)];omega
 have y0:IntKind.i64.wrap (b0:Int)=b0:=aan _ (by omega);have y1:IntKind.i64.wrap (b1:Int)=b1:=aan _ (by omega);have y2:IntKind.i64.wrap (b2:Int)=b2:=aan _ (by omega);have y3:IntKind.i64.wrap (b3:Int)=b3:=aan _ (by omega);have z0:IntKind.i64.wrap ((b0:Int)*16777216)=(b0:Int)*16777216:=aan _ (by omega);have z1:IntKind.i64.wrap ((b1:Int)*65536)=(b1:Int)*65536:=aan _ (by omega);have z2:IntKind.i64.wrap ((b2:Int)*256)=(b2:Int)*256:=aan _ (by omega);clear hk
 go_enter Tryz.func30,Tryz.ntmps30
 go_wp2
 go_quiet (fail)
 go_wp2
 go_ret
 exact⟨aK (by simp only[O.out.1,O.out.2.1,O.out.2.2];rw[HF.out]),_,rfl⟩
end
section
open Go.RowKit Go.Maps
theorem UD {k d:Int}(h:Pm.chan k d≠0):∃i,i<15/\CA i=k/\Re i=d:=by
 have key:(k=0/\(d=1\/d=2\/d=4\/d=8\/d=16))\/(k=2/\(d=8\/d=16))\/(k=3/\(d=1\/d=2\/d=4\/d=8))\/(k=4/\(d=8\/d=16))\/(k=6/\(d=8\/d=16)):=by
  unfold Pm.chan at h
  repeat' split at h
  all_goals omega
 rcases key with⟨rfl,rfl|rfl|rfl|rfl|rfl⟩|⟨rfl,rfl|rfl⟩|⟨rfl,rfl|rfl|rfl|rfl⟩|⟨rfl,rfl|rfl⟩|⟨rfl,rfl|rfl⟩
 ·exact⟨0,by decide,rfl,rfl⟩
 ·exact⟨1,by decide,rfl,rfl⟩
 ·exact⟨2,by decide,rfl,rfl⟩
 ·exact⟨3,by decide,rfl,rfl⟩
 ·exact⟨4,by decide,rfl,rfl⟩
 ·exact⟨5,by decide,rfl,rfl⟩
 ·exact⟨6,by decide,rfl,rfl⟩
 ·exact⟨7,by decide,rfl,rfl⟩
 ·exact⟨8,by decide,rfl,rfl⟩
 ·exact⟨9,by decide,rfl,rfl⟩
 ·exact⟨10,by decide,rfl,rfl⟩
 ·exact⟨11,by decide,rfl,rfl⟩
 ·exact⟨12,by decide,rfl,rfl⟩
 ·exact⟨13,by decide,rfl,rfl⟩
 ·exact⟨14,by decide,rfl,rfl⟩
theorem Vp {k d:Int}(h:Pm.chan k d≠0)(w:World):Calls Tryz.prog 15 #[.int .i64 k] w fun e w'=>e=.returned (.int .i64 (Pm.chan k d))/\Below w.heap.size w w':=by
 obtain⟨i,hi,rfl,rfl⟩:=UD h;exact ye i hi w
theorem Vq {h:Hd}(hp:h.ps=false):bJ h=h.ht*(1+(h.wd*Pm.chan h.kd h.dp*h.dp+7)/8):=by
 unfold bJ Pm.raw Pm.ad;rw[hp,aag Bool.false_ne_true,Int.mul_assoc]
theorem Cn {h:Hd}{aq:List Int}{ds:List ByteArray}{A B:List Ch}{b:ByteArray}(hb:b.data.toList=dr h aq ds)(e:A++B=aN h aq ds): (b.extract 0 (8+(aC A).length)).data.toList=mO++aC A/\(b.extract (8+(aC A).length) b.size).data.toList=aC B/\8+(aC A).length<=b.size:=by
 have h1:b.data.toList=(mO++aC A)++aC B:=by rw[hb,dr,<-e,jG,aar]
 have h2:(mO++aC A).length=8+(aC A).length:=by rw[aae];rfl
 refine⟨?_,?_,?_⟩
 ·rw[cF,h1,List.take_left' h2,ac6]
 ·rw[cF,<-ba,List.take_length,h1,List.drop_left' h2]
 ·rw[<-ba,h1,aae,h2];omega
theorem Gm {h:Hd}{aq:List Int}{ds:List ByteArray}{A B A2 B2:List Ch}{b:ByteArray}(hb:b.data.toList=dr h aq ds)(e1:A++B=aN h aq ds)(e2:A2++B2=aN h aq ds)(c:Ch): (b.extract 0 (8+(aC A).length)++(⟨(four (c.data.size:Int)).toArray⟩:ByteArray)++(c.name++c.data)++(⟨(four (fF (c.name++c.data))).toArray⟩:ByteArray)++b.extract (8+(aC A2).length) b.size).data.toList=(mO++aC A)++(fg c++aC B2):=by
 simp only[je,(Cn hb e1).1,(Cn hb e2).2.1,fg,aar]
theorem vM {h:Hd}{aq:List Int}{ds:List ByteArray}{A B:List Ch}(hp:aq.length<=2147483647)(hd:∀d∈ds,d.size<=2147483647)(e:A++B=aN h aq ds):(iX 8 (aN h aq ds)).getD A.length 0=((8+(aC A).length:Nat):Int):=by
 have hn:=ip (h:=h) hp hd;rw[<-e]at hn ⊢;exact Ub A B 8 (fun c hc=>hn c (List.mem_append_left _ hc))
theorem n8 {h:Hd}{aq:List Int}{ds:List ByteArray}:(⟨aE bX,aT h⟩::rD h aq)++(eG ds++sQ)=aN h aq ds/\(⟨aE bX,aT h⟩::(rD h aq++eG ds))++sQ=aN h aq ds:=⟨rfl,by unfold aN;rw[abv,aar]⟩
abbrev Za:ByteArray:=⟨#[255,255,255]⟩
theorem UE {h:Hd}{aq:List Int}{ds:List ByteArray}{b:ByteArray}(hb:b.data.toList=dr h aq ds): (b.extract 0 (8+(aC (⟨aE bX,aT h⟩::rD h aq)).length)++(⟨(four 3).toArray⟩:ByteArray)++(aE cj++Za)++(⟨(four (fF (aE cj++Za))).toArray⟩:ByteArray)++b.extract (8+(aC (⟨aE bX,aT h⟩::(rD h aq++eG ds))).length) b.size).data.toList=dr h aq [Za]:=by
 refine (Gm hb n8.1 n8.2 ⟨aE cj,Za⟩).trans ?_;rw[dr,<-(n8 (ds:=[Za])).1,jG,aar];rfl
theorem UF {h:Hd}{aq:List Int}{ds:List ByteArray}{b:ByteArray}(hf:jH h)(hb:b.data.toList=dr h aq ds)(hp:aq.length<=2147483647)(hd:∀d∈ds,d.size<=2147483647)(hne:ds≠[]):cJ b (bJ h-1)=.error 7 :=
 II hf (pL hb hp hd hne).2.2 _ (by omega)
theorem zM:∀(L:List Ch),(∀c∈L,k8 c)->12*L.length<=(aC L).length
 | [],_=>aao _
 | c::r,h=>by
  have:=zM r (fun x hx=>h x (ab3 _ hx));rw[gq,aae,dQ (h c abo),aaw];omega
theorem Co {u:World}{base:Nat}{v:Value}{d:List Int}(h:u.ownsRow base 3 1 v d.length (vals d))(x:Int)(hd:d.length<=100000000)(hb:base<=u.heap.size)(ty:TypeId): ∃v' w',(Builtin.append_ #[22,22] ty #[v,.slice (some ⟨u.heap.size,0,none⟩) 1 1]).run Tryz.prog (u.alloc (.cells #[.int .i64 x] 3))=.ok v' w'/\w'.ownsRow base 3 1 v' (d++[x]).length (vals (d++[x]))/\(u.alloc (.cells #[.int .i64 x] 3)).grownBy w' v.ownBlock:=by
 obtain⟨i0,hi,hz0,hz1,hz2⟩:=abx Tryz.info3;have hq:=ah u (.cells #[.int .i64 x] 3)
 obtain⟨v',w',hr,ho',hg',_,_⟩:=run_append_own_at (P:=Tryz.prog) (u.alloc (.cells #[.int .i64 x] 3)) base 22 ty 3 i0 _ 1 8 Tryz.underlying22 hi hz0 hz1 hz2 rfl (by decide) v d.length (vals d) (h.alloc _) ⟨u.heap.size,0,none⟩ 1 1 [.int .i64 x] rfl (fun j y hj=>by
   rw[ey,aaR,aU hq];simpa using hj) (fun y hy=>by
   simp only[ab5,abC,or_false]at hy
   rw[hy];rfl) (by unfold maxLen;omega) (by omega) (by simp;omega)
 refine⟨v',w',hr,?_,hg'⟩;have e:vals (d++[x])=vals d++[.int .i64 x]:=by simp[vals]
 rw[e,aae];exact ho'
theorem zN {w:World}{B n:Nat}{v:Value}{xs:List Value}(h:w.ownsRow B 3 1 v n xs):∃ao cp,v=.slice ao n cp:=by
 rcases h.2 with⟨rfl,h0⟩|⟨g,cap,cur,rfl,_⟩
 ·exact⟨none,0,by rw[h0]⟩
 ·exact⟨_,_,rfl⟩
theorem vN {w u u':World}{v:Value}{n:Nat}{xs:List Value}{o:Obj}(k:Below w.heap.size w u)(h:u.ownsRow w.heap.size 3 1 v n xs)(g:(u.alloc o).grownBy u' v.ownBlock):Below w.heap.size w u':=by
 have kk:Kp (fun j=>v.ownBlock=some j) u u':=Kp.grown (Kp.aH (ae _ _)) g (fun j hj=>.inl hj);exact k.trans (kk.below k.size (fun j _ hj=>by have:=(h.lt j hj).1;omega))
theorem P7 (b:ByteArray)(L:List Ch)(pre:List UInt8)(w:World)(hL:∀c∈L,k8 c)(h3:3<=L.length)(hp:pre.length=8)(hb:b.data.toList=pre++aC L)(hs:b.size<=1000000): Calls Tryz.prog 19 #[.string b] w fun e w'=>∃ao cp,e=.returned (.tuple #[.slice ao (iX 8 L).length cp,.bool true])/\w'.ownsRow w.heap.size 3 1 (.slice ao (iX 8 L).length cp) (iX 8 L).length (vals (iX 8 L))/\Below w.heap.size w w':=by
 have hsz:b.size=8+(aC L).length:=by rw[<-ba,hb,aae,hp]
 have HB:Hid (_/\_/\_):=⟨hL,hb,hp⟩
 have HS:Hid (b.size=8+(aC L).length):=hsz;have HG:Hid (12*L.length<=(aC L).length):=zM L hL;have hfr:=fun k u hk=>Y9 b k u (by omega) hk;have HFR:Hid (_):=hfr;clear hL hb hp hsz hfr
 go_enter Tryz.func19,Tryz.ntmps19
 go_wp2
 go_loopw [4,5] (fun ov iv wr=>∃(A B:List Ch),Hid (L=A++B)/\iv=.int .i64 ((8+(aC A).length:Nat))/\Hid (wr.ownsRow w.heap.size 3 1 ov (qC 8 A).length (vals (qC 8 A)))/\Hid (Below w.heap.size w wr)) (fun _ iv _=>b.size-(intOf iv).toNat)
 case atStart=>exact⟨[],L,rfl,rfl,⟨rfl,.inl ⟨rfl,rfl⟩⟩,aav _ _⟩
 case round =>
  obtain⟨A,B,HA,rfl,HO,HK⟩:=hrel;obtain⟨p,hP⟩:∃p,p=8+(aC A).length:=⟨_,rfl⟩
  have HP:Hid (p=8+(aC A).length):=hP;rw[<-hP];have Z5:∀c∈A,k8 c:=fun c hc=>HB.out.1 c (by rw[HA.out];exact List.mem_append_left _ hc);have HAN:Hid (_):=Z5
  have RV:(qC 8 A).length<=1000000:=by
   have h1:=zM A Z5;have h2:=HS.out;rw[HA.out,jG,aae]at h2;rw[tv];omega
  obtain⟨oa,oc,hov⟩:=zN HO.out;subst hov;cases B with
  | nil =>
   have hend:p=b.size:=by
    have h2:=HS.out;rw[HA.out,abm]at h2;omega
   obtain⟨v',u,hr,ho',hg'⟩:=Co HO.out (p:Int) (by omega) HK.out.size 22;have HU:Hid (Below w.heap.size w u):=vN HK.out HO.out hg'
   have eP:qC 8 A++[(p:Int)]=iX 8 L:=by
    unfold iX;rw[HA.out,abm,<-HP.out]
   rw[eP]at ho';obtain⟨sH,oF,hv'⟩:=zN ho';subst hv';obtain⟨M,hM⟩:∃M,M=(iX 8 L).length:=⟨_,rfl⟩
   have hM4:(M:Int)>3:=by rw[hM,zx];omega
   have vP:Hid (u.ownsRow w.heap.size 3 1 (.slice sH M oF) M (vals (iX 8 L))):=by rw[hM];exact ho'
   have Z6:Hid (M=(iX 8 L).length):=hM;rw[<-hM]at hr;obtain⟨m,hm⟩:∃m,m=(qC 8 A).length:=⟨_,rfl⟩
   rw[<-hm]at hr ⊢;have hnlt:¬(p:Int)<(b.size:Int):=by omega
   clear ho' hg' HO HA HP hP Z5 HAN hm hM eP HFR HB HS HG RV hend;go_wp2_with (at_builtin;refine aa8 _ rfl _ _ _ _ rfl _ _ rfl rfl _ _ hr ?_);exact aaG (v:=.tuple #[.slice sH M oF,.bool true]) (by simp[results,Tryz.results19,go_sem]) rfl ⟨sH,oF,by rw[<-Z6.out],by rw[<-Z6.out];exact vP.out,HU.out⟩
  | cons c r =>
   have hc:k8 c:=HB.out.1 c (by rw[HA.out];exact List.mem_append_right _ abo)
   have hroom:p+12+c.data.size<=b.size:=by
    have h2:=HS.out;rw[HA.out,jG,aae,gq,aae,dQ hc]at h2;omega
   have h4:aJ b p=(c.data.size:Int):=by
    have:=Pw (pre:=pre) (b:=b) hc (by rw[<-HA.out];exact HB.out.2.1);rw[HB.out.2.2,<-HP.out]at this;exact this
   have hfr:=fun u=>HFR.out p u (by omega);rw[h4]at hfr;obtain⟨n,hn⟩:∃n,n=c.data.size:=⟨_,rfl⟩
   have HN:Hid (n=c.data.size):=hn;rw[<-hn]at hfr hroom;have q1:(p:Int)<(b.size:Int):=by omega
   have q2:¬(b.size:Int)-(p:Int)<12:=by omega
   have q3:¬(n:Int)>(b.size:Int)-(p:Int)-12:=by omega
   obtain⟨m,hm⟩:∃m,m=(qC 8 A).length:=⟨_,rfl⟩
   have HM:Hid (m=(qC 8 A).length):=hm;rw[<-hm];clear hP Z5 h4 hc hn hm;go_wp2_with fail;refine (hfr _).mono ?_;rintro e w1 ⟨rfl,k1,hw1⟩
   have Jh:w1.ownsRow w.heap.size 3 1 (.slice oa m oc) (qC 8 A).length (vals (qC 8 A)):=by
    rw[hw1,HM.out];exact aL HO.out (fun _ _=>rfl)
   have hK1:Below w.heap.size w w1:=by rw[hw1];exact aaA HK.out _
   obtain⟨v',u,hr,ho',hg'⟩:=Co Jh (p:Int) (by omega) hK1.size 22;have HU:Hid (Below w.heap.size w u):=vN hK1 Jh hg';have vP:Hid (u.ownsRow w.heap.size 3 1 v' (qC 8 A++[(p:Int)]).length (vals (qC 8 A++[(p:Int)]))):=ho';obtain⟨sH,oF,hv'⟩:=zN ho';subst hv';obtain⟨M,hM⟩:∃M,M=(qC 8 A++[(p:Int)]).length:=⟨_,rfl⟩
   have Z6:Hid (M=(qC 8 A++[(p:Int)]).length):=hM;rw[<-hM]at hr;clear ho' hg' Jh hK1 hw1 hfr hM;go_wp2_with (at_builtin;refine aa8 _ rfl _ _ _ _ rfl _ _ rfl rfl _ _ hr ?_)
   go_roundw
   case rel =>
    refine⟨A++[c],r,?_,?_,?_,HU⟩
    ·rw[aar];exact HA.out
    ·rw[jG,aae,<-acy,<-HP.out];have hc2:k8 c:=HB.out.1 c (by rw[HA.out];exact List.mem_append_right _ abo);have e1:(aC [c]).length=12+n:=by rw[gq,aae,dQ hc2,HN.out];rfl
     rw[e1]
     congr 1
     omega
    ·rw[Mn A c 8 HAN.out,<-HP.out,Z6.out];exact vP.out
   case measure=>simp only[intOf];omega
def P8 (h:Hd)(aq S:List Int)(w:World)(e:Ending)(w':World):Prop :=
 ∃(b:ByteArray) (ds:List ByteArray) (B:Nat) (ao:Option Addr) (cp:Nat),e=.returned (.tuple #[.string b,.slice ao (iX 8 (aN h aq ds)).length cp,.bool true]) /\
  w'.ownsRow B 3 1 (.slice ao (iX 8 (aN h aq ds)).length cp) (iX 8 (aN h aq ds)).length (vals (iX 8 (aN h aq ds)))/\w.heap.size<=B /\
  b.data.toList=dr h aq ds/\ds≠[]/\(∀d∈ds,d.size<=2147483647)/\(∀limit,bJ h<=limit->cJ b limit=.ok ⟨h,aq,S⟩)/\b.size<=1000000/\Below w.heap.size w w'
theorem afO (h:Hd)(lv fl ck:Int)(aq S:List Int)(pa:Option Addr)(pc G cap:Nat)(w:World)(tt:TypeId)(fr:Nat×Nat)(hl:Ii w pa aq (some ⟨G,0,none⟩) S tt fr)(hG:G<w.heap.size)(hcap:S.length<=cap)(hpf:du h aq S)(hset:dZ lv fl ck=true)(hck:ck<=300)(hraw:bJ h<=22540)(hpl:aq.length<=1000): Calls Tryz.prog 8 #[.agg (bC h (.slice pa aq.length pc) (.slice (some ⟨G,0,none⟩) S.length cap)),.agg #[.int .i64 lv,.int .i64 fl,.int .i64 ck]] w fun e w'=>P8 h aq S w e w':=by
 obtain⟨k0,q0,q1⟩:=bM w (.cells (bC h (.slice pa aq.length pc) (.slice (some ⟨G,0,none⟩) S.length cap)) 24) (.cells #[.int .i64 lv,.int .i64 fl,.int .i64 ck] 29);have hkn:=Tv ((w.alloc (.cells (bC h (.slice pa aq.length pc) (.slice (some ⟨G,0,none⟩) S.length cap)) 24)).alloc (.cells #[.int .i64 lv,.int .i64 fl,.int .i64 ck] 29));have z2:((w.alloc (.cells (bC h (.slice pa aq.length pc) (.slice (some ⟨G,0,none⟩) S.length cap)) 24)).alloc (.cells #[.int .i64 lv,.int .i64 fl,.int .i64 ck] 29)).heap.size=w.heap.size+2:=by simp
 have HH:Hid (_/\_/\_/\_):=⟨hl,k0,q0,q1⟩
 have HP:Hid (du h aq S/\dZ lv fl ck=true/\S.length<=cap/\ck<=300/\bJ h<=22540/\aq.length<=1000/\G<w.heap.size):=⟨hpf,hset,hcap,hck,hraw,hpl,hG⟩
 clear hl k0 q0 q1 hpf hset hcap hck hraw hpl hG
 go_enter Tryz.func8,Tryz.ntmps8
 go_wp2_with fail;refine hkn.mono ?_;rintro e w1 ⟨rfl,b1⟩;have zz:=b1.size;rw[z2]at zz;have p0:=(b1.block w.heap.size (by omega)).trans HH.out.2.2.1;have p1:=(b1.block (w.heap.size+1) (by omega)).trans HH.out.2.2.2;obtain⟨x0,x1,x2,x3,x4,x5,x6⟩:=aR p0;obtain⟨y0,y1,y2⟩:=oA p1;have B1:Below w.heap.size w w1:=HH.out.2.1.trans (b1.mono (by omega));have hen:=PY h lv fl ck aq S pa pc G cap w1 tt fr (HH.out.1.later B1) (by have:=HP.out.2.2.2.2.2.2;omega) HP.out.2.2.1;have HB1:Hid (_):=B1;clear p0 p1 B1 b1 hkn;go_wp2_with fail;refine hen.mono ?_;rintro e w2 ⟨hcase,b2⟩;obtain⟨hpf,hset,_,hck,hraw,hpl,_⟩:=HP.out;rcases hcase with⟨hne,_⟩|⟨_,hsf,_⟩|⟨_,_,T,X,ds,b,rfl,t1,t2,t3,t4,t5⟩
 ·exact absurd ((BN h aq S).2 hpf) hne
 ·rw[hset]at hsf;cases hsf
 ·have hC0:1<=ck:=by
   simp only[dZ,aaQ,aaP]at hset;omega
  have hXs:=Ck t3 (by omega);have hbs:=Jb t4 (by omega) t5;have hdec:=fun limit hlim=>PZ hpf t1 t2 t3 t4 (by omega) t5 limit hlim;have UG:∀d∈ds,d.size<=2147483647:=fun d hd=>by have:=(t4.few d hd).2;omega
  have hne:ds≠[]:=yb t4 (t3.size (by omega)).2;have hds:1<=ds.length:=List.length_pos_iff.2 hne;have hpc:=P7 b (aN h aq ds) mO w2 (ip (by omega) UG) (by rw[Jd];omega) rfl t5 (by omega)
  have h8:¬(b.size:Int)<8:=by
   have e1:b.size=8+(aC (aN h aq ds)).length:=by rw[<-ba,t5,rL]
   omega
  have HB2:Hid (_):=HB1.out.trans (b2.mono HB1.out.size);have HF:Hid (b.data.toList=dr h aq ds/\ds≠[]/\(∀d∈ds,d.size<=2147483647)/\(∀limit,bJ h<=limit->cJ b limit=.ok ⟨h,aq,S⟩)/\b.size<=1000000):=⟨t5,hne,UG,hdec,by omega⟩
  obtain⟨M,hM⟩:∃M,M=(iX 8 (aN h aq ds)).length:=⟨_,rfl⟩
  have HM:Hid (M=(iX 8 (aN h aq ds)).length):=hM;rw[<-hM]at hpc;clear hen b2 hpf hset hck hraw hpl t1 t2 t3 t4 t5 hXs hbs hdec UG hne hds hM x0 x1 x2 x3 x4 x5 x6 y0 y1 y2;go_wp2_with fail;refine hpc.mono ?_;rintro e w3 ⟨ao,cp,rfl,own,b3⟩;have HO:Hid (w3.ownsRow w2.heap.size 3 1 (.slice ao M cp) M (vals (iX 8 (aN h aq ds)))):=own;have HB3:Hid (_):=HB2.out.trans (b3.mono HB2.out.size);have hB:=HB2.out.size;clear own b3 hpc;go_wp2;obtain⟨f1,f2,f3,f4,f5⟩:=HF.out;refine aaG (v:=.tuple #[.string b,.slice ao M cp,.bool true]) (by simp[results,Tryz.results8,go_sem]) rfl ⟨b,ds,w2.heap.size,ao,cp,by rw[<-HM.out],by rw[<-HM.out];exact HO.out,hB,f1,f2,f3,f4,f5,HB3.out⟩
theorem Ro {w:World}{B cp n:Nat}{ao:Option Addr}{p:Nat}{L:List Ch}(h:w.ownsRow B 3 1 (.slice ao n cp) n (vals (iX p L))):∃g,ao=some ⟨g,0,none⟩/\B<=g/\g<w.heap.size/\∀j,j<L.length+1->w.cell? ⟨g,j,none⟩=some (.int .i64 ((iX p L).getD j 0)):=by
 obtain⟨i1,_,i3⟩:=oB h;have hl:=zx L p;obtain⟨g,rfl,hB,hg,_⟩:=i3 (fun e=>by rw[e]at hl;exact absurd hl (Nat.succ_ne_zero _).symm);refine⟨g,rfl,hB,hg,fun j hj=>?_⟩;obtain⟨b,off,e,hc⟩:=i1 j (by omega);cases e;rw[aaR]at hc;rw[hc,aad,aaj (by omega)];rfl
end
end Go.Proofs.YtmfijackgekioabGreatDoor
