import Derived.Test.YtmfijackgekioabGreatDoorQ46
import Derived.Test.YtmfijackgekioabGreatDoorCards
import Derived.Test.YtmfijackgekioabGreatDoorTie
import Derived.ProofKit
import Derived.OpenShut
import Derived.Deep.DeepHandedRow
import Derived.Lib.LaidTab
import Derived.SizedLaws
import Derived.JoinedCond
set_option maxHeartbeats 1000000
set_option maxRecDepth 100000
namespace Go.Proofs.YtmfijackgekioabGreatDoor
section
open Go.ChangeShapes Go.WideShapes Go.ChangeAt Go.RowKit Go.Joins
theorem Tryz.own:ownKnob Tryz.prog.godebug=none:=by kernel_rfl
theorem Tryz.laidOut:laidOutB Tryz.prog=true:=by kernel_rfl
theorem Yv:Tryz.prog.globalNamed "mosaic/picture.sevenPasses"=some 0:=by kernel_rfl
theorem MC:(Tryz.prog.globals[0]?).map (·.type)=some 142:=by kernel_rfl
theorem xI:Tryz.prog.cellsOf 3=1:=by kernel_rfl
theorem vk:Tryz.prog.cellsOf 93=6:=by kernel_rfl
theorem BK:Tryz.prog.cellsOf 142=42:=by kernel_rfl
section
variable {H:Type} {enc:TypeId×Value->H} {w:World} {base:Nat} {sp:Nat->Bool} {held:Bool}
theorem kP {n:Nat}{cs:List Value}{z:Int}{p:List MemPlace}(h:DataW.trod enc Tryz.prog w base sp held n 3 cs=some (.lit (.int .i64 z),p)):cs=[.int .i64 z]:=by
 obtain⟨a,h1,h2,_⟩:=DataW.trod_int Tryz.underlying3 h;simp at h2;obtain⟨rfl,_⟩:=h2;exact h1
theorem QJ {α:Type}:∀{l:List α},l.length=6->∃a b c d e f,l=[a,b,c,d,e,f]
 | [a,b,c,d,e,f],_=>⟨a,b,c,d,e,f,rfl⟩
theorem Yw {α:Type}:∀{l:List α},l.length=7->∃a b c d e f g,l=[a,b,c,d,e,f,g]
 | [a,b,c,d,e,f,g],_=>⟨a,b,c,d,e,f,g,rfl⟩
theorem fW {n:Nat}{cs:List Value}{a b c d e f:Int}{p:List MemPlace}(h:DataW.trod enc Tryz.prog w base sp held n 93 cs=some (.agg [.lit (.int .i64 a),.lit (.int .i64 b),.lit (.int .i64 c),.lit (.int .i64 d),.lit (.int .i64 e),.lit (.int .i64 f)],p)): cs=[.int .i64 a,.int .i64 b,.int .i64 c,.int .i64 d,.int .i64 e,.int .i64 f]:=by
 obtain⟨xs,m,_,hx,hl,hlen,hf⟩:=DataW.trod_struct Tryz.underlying93 h;obtain⟨c0,c1,c2,c3,c4,c5,rfl⟩:=QJ (hl.trans vk);obtain⟨y0,y1,y2,y3,y4,y5,rfl⟩:=QJ (hlen.trans rfl);simp only[acI,List.map_nil,Prod.mk.injEq,DataW.agg.injEq,List.cons.injEq,and_true]at hx;obtain⟨⟨e0,e1,e2,e3,e4,e5⟩,_⟩:=hx;have g0:DataW.trod enc Tryz.prog w base sp held m 3 (List.take (Tryz.prog.cellsOf 3) (List.drop 0 [c0,c1,c2,c3,c4,c5]))=some y0:=hf 0 _ rfl;have g1:DataW.trod enc Tryz.prog w base sp held m 3 (List.take (Tryz.prog.cellsOf 3) (List.drop 1 [c0,c1,c2,c3,c4,c5]))=some y1:=hf 1 _ rfl;have g2:DataW.trod enc Tryz.prog w base sp held m 3 (List.take (Tryz.prog.cellsOf 3) (List.drop 2 [c0,c1,c2,c3,c4,c5]))=some y2:=hf 2 _ rfl;have g3:DataW.trod enc Tryz.prog w base sp held m 3 (List.take (Tryz.prog.cellsOf 3) (List.drop 3 [c0,c1,c2,c3,c4,c5]))=some y3:=hf 3 _ rfl;have g4:DataW.trod enc Tryz.prog w base sp held m 3 (List.take (Tryz.prog.cellsOf 3) (List.drop 4 [c0,c1,c2,c3,c4,c5]))=some y4:=hf 4 _ rfl;have g5:DataW.trod enc Tryz.prog w base sp held m 3 (List.take (Tryz.prog.cellsOf 3) (List.drop 5 [c0,c1,c2,c3,c4,c5]))=some y5:=hf 5 _ rfl;rw[xI]at g0 g1 g2 g3 g4 g5;obtain⟨y0a,y0b⟩:=y0;obtain⟨y1a,y1b⟩:=y1;obtain⟨y2a,y2b⟩:=y2;obtain⟨y3a,y3b⟩:=y3;obtain⟨y4a,y4b⟩:=y4;obtain⟨y5a,y5b⟩:=y5;simp only at e0 e1 e2 e3 e4 e5;subst e0 e1 e2 e3 e4 e5;have r0:=kP (cs:=[c0]) g0;have r1:=kP (cs:=[c1]) g1;have r2:=kP (cs:=[c2]) g2;have r3:=kP (cs:=[c3]) g3;have r4:=kP (cs:=[c4]) g4;have r5:=kP (cs:=[c5]) g5;rw[acE r0,acE r1,acE r2,acE r3,acE r4,acE r5]
theorem vm {cs r:List Value}(h:cs.take 6=r):cs=r++cs.drop 6:=by rw[<-h,acM]
theorem BL {n:Nat}{cs:List Value}{p:List MemPlace}(h:DataW.trod enc Tryz.prog w base sp held n 142 cs=some (Rows.laid_mosaic_picture_sevenPasses,p)):cs.toArray=cX:=by
 obtain⟨xs,m,_,hx,hl,hlen,hf⟩:=DataW.trod_array Tryz.underlying142 h;obtain⟨y0,y1,y2,y3,y4,y5,y6,rfl⟩:=Yw hlen;simp only[Rows.laid_mosaic_picture_sevenPasses,acI,List.map_nil,Prod.mk.injEq,DataW.agg.injEq,List.cons.injEq,and_true]at hx;obtain⟨⟨e0,e1,e2,e3,e4,e5,e6⟩,_⟩:=hx;have g0:=hf 0 (by omega);have g1:=hf 1 (by omega);have g2:=hf 2 (by omega);have g3:=hf 3 (by omega);have g4:=hf 4 (by omega);have g5:=hf 5 (by omega);have g6:=hf 6 (by omega);simp only[vk,List.getElem?_cons_zero,List.getElem?_cons_succ]at g0 g1 g2 g3 g4 g5 g6;obtain⟨y0a,y0b⟩:=y0;obtain⟨y1a,y1b⟩:=y1;obtain⟨y2a,y2b⟩:=y2;obtain⟨y3a,y3b⟩:=y3;obtain⟨y4a,y4b⟩:=y4;obtain⟨y5a,y5b⟩:=y5;obtain⟨y6a,y6b⟩:=y6;simp only at e0 e1 e2 e3 e4 e5 e6;subst e0 e1 e2 e3 e4 e5 e6;have r0:=fW g0;have r1:=fW g1;have r2:=fW g2;have r3:=fW g3;have r4:=fW g4;have r5:=fW g5;have r6:=fW g6;rw[BK]at hl;have s0:=vm r0;have s1:=vm r1;have s2:=vm r2;have s3:=vm r3;have s4:=vm r4;have s5:=vm r5;have s6:=vm r6;simp only[List.drop_drop,Nat.reduceMul,Nat.reduceAdd,acU]at s0 s1 s2 s3 s4 s5 s6;have s7:cs.drop 42=[]:=List.drop_eq_nil_of_le (by omega);rw[s7]at s6;rw[s0,s1,s2,s3,s4,s5,s6];rfl
end
theorem table {W:World}(h':laidMet Tryz.prog [("mosaic/picture.sevenPasses",Rows.laid_mosaic_picture_sevenPasses)] W):∃tt fr,W.heap[0]?=some (.cells cX tt fr):=by
 obtain⟨ps,⟨g',t',cs,fuel,p,q,hg',ht',hvar,hd,_,_⟩,_⟩:=h';obtain rfl:=aaH (Yv.symm.trans hg');obtain rfl:=aaH (MC.symm.trans ht');unfold World.var? at hvar;rw[Yv]at hvar;simp only[Option.bind_some]at hvar;split at hvar
 ·rename_i cs' tt fr hh;refine⟨tt,fr,?_⟩;have hcs:=BL hd;rw[Array.toArray_toList]at hcs;rw[hh,aaH hvar,hcs]
 ·cases hvar
theorem IK {n:Int}(h:(Lit.int .i64 n).wf=true):I64 n:=by
 have h9:=h;simp[Lit.wf,IntKind.min,IntKind.max,IntKind.bits,IntKind.signed]at h9;exact⟨by omega,by omega⟩
section
variable {H:Type} {enc:TypeId×Value->H} {W:World}
theorem Yx {base:Nat}{v:Value}{d:DataW H}{p:List MemPlace}(hv:Value.okWide Tryz.prog W .any base 22 v)(h:DataW.Trod enc Tryz.prog W 0 (fun _=>true) true 22 v d p): ∃(ao:Option Addr) (cap:Nat) (zs:List Int),v=.slice ao zs.length cap/\Ints W ao zs/\(∀a,ao=some a->zs≠[]->a.block<W.heap.size)/\zs.length<=maxLen/\(∀y∈zs,I64 y):=by
 obtain⟨a0,n0,c0,rfl⟩:=okWide_slice Tryz.underlying22 hv;obtain⟨fuel,hf⟩:=h;rcases open_ints Tryz.underlying22 Tryz.underlying3 xI hf with⟨hcs,hx⟩|⟨a,len,cap,zs,hcs,_,hl,hm,hz,hx,hcell,hwz⟩
 ·have e:(Value.slice a0 n0 c0)=.slice none 0 0:=acE hcs;exact⟨none,0,[],e,fun j hj=>absurd hj (Nat.not_lt_zero _),fun a e _=>(by cases e),aaq _,fun y hy=>absurd hy (abw)⟩
 ·have e:(Value.slice a0 n0 c0)=.slice (some a) len cap:=acE hcs;have hzl:zs.length=cap:=by simpa using hz
  have hlen:(zs.take len).length=len:=by rw[aa7];omega
  refine⟨some a,cap,zs.take len,e.trans (by rw[hlen]),?_,?_,by rw[hlen];omega,fun y hy=>IK (hwz y (acZ hy))⟩
  ·intro j hj;rw[hlen]at hj;obtain⟨b,off,rfl,hc⟩:=ints_at hcell (by omega);refine⟨b,off,rfl,?_⟩;rw[hc j (by omega)];simp[List.getD,List.getElem?_eq_getElem (show j<zs.length by omega)]
  ·intro a' e hne;cases e
   have h0:0<zs.length:=by
    cases zs with
    | nil=>simp at hne
    | cons z r=>simp
   obtain⟨b,off,rfl,hc⟩:=ints_at hcell h0;exact World.block_lt_of_cell? W ⟨b,off+0,none⟩ (hc 0 h0)
end
end
section
open Go.RowKit Go.Maps
theorem IL (h:Hd)(aq:List Int)(ds:List ByteArray):(iQ h aq ds).length=8+(aH (bj h aq ds)).length:=by unfold iQ;rw[aac];rfl
theorem IP (h:Hd)(aq:List Int)(ds:List ByteArray):(bj h aq ds).length=2+(if h.kd=3 then 1 else 0)+ds.length:=by
 unfold bj;split<;>simp<;>omega
theorem BM {h:Hd}{aq:List Int}{ds:List ByteArray}{A B:List Ch}{b:ByteArray}(hb:b.data.toList=iQ h aq ds)(e:A++B=bj h aq ds): (b.extract 0 (8+(aH A).length)).data.toList=sj++aH A/\(b.extract (8+(aH A).length) b.size).data.toList=aH B/\8+(aH A).length<=b.size:=by
 have h1:b.data.toList=(sj++aH A)++aH B:=by rw[hb,iQ,<-e,nG,aaw]
 have h2:(sj++aH A).length=8+(aH A).length:=by rw[aac];rfl
 refine⟨?_,?_,?_⟩
 ·rw[c9,h1,List.take_left' h2,acU]
 ·rw[c9,<-cj,List.take_length,h1,List.drop_left' h2]
 ·rw[<-cj,h1,aac,h2];omega
theorem Pt {h:Hd}{aq:List Int}{ds:List ByteArray}{A B A2 B2:List Ch}{b:ByteArray}(hb:b.data.toList=iQ h aq ds)(e1:A++B=bj h aq ds)(e2:A2++B2=bj h aq ds)(c:Ch): (b.extract 0 (8+(aH A).length)++(⟨(four (c.data.size:Int)).toArray⟩:ByteArray)++(c.name++c.data)++(⟨(four (lU (c.name++c.data))).toArray⟩:ByteArray)++b.extract (8+(aH A2).length) b.size).data.toList=(sj++aH A)++(kR c++aH B2):=by
 simp only[jK,(BM hb e1).1,(BM hb e2).2.1,kR,aaw]
theorem vn {h:Hd}{aq:List Int}{ds:List ByteArray}{A B:List Ch}(hp:aq.length<=2147483647)(hd:∀d∈ds,d.size<=2147483647)(e:A++B=bj h aq ds):(iK 8 (bj h aq ds)).getD A.length 0=((8+(aH A).length:Nat):Int):=by
 have hn:=nZ (h:=h) hp hd;rw[<-e]at hn ⊢;exact Ti A B 8 (fun c hc=>hn c (List.mem_append_left _ hc))
def xL (i:Nat):List UInt8:=[[69,88,116],[101,120,116],[73,68,65],[122,122,122]].getD i []
def ML (g:UInt8)(i:Nat)(d:ByteArray):Ch:=⟨aE (g::xL i),d⟩
theorem Zp {i:Nat}(hi:i<4){d:ByteArray}(hd:d.size<=2147483647):(vJ (ML 116 i d)/\gM (af (ML 116 i d).name 0)=false)/\vJ (ML 81 i d)/\gM (af (ML 81 i d).name 0)=true:=by
 rcases (by omega:i=0\/i=1\/i=2\/i=3) with rfl|rfl|rfl|rfl
 all_goals exact⟨⟨⟨⟨rfl,rfl,hd⟩,by rw[ML,bO];rfl,by rw[ML,bO];rfl⟩,rfl⟩,⟨⟨rfl,rfl,hd⟩,by rw[ML,bO];rfl,by rw[ML,bO];rfl⟩,rfl⟩
def spL (h:Hd)(aq:List Int)(ds:List ByteArray):List Int :=
 [((8+(aH [⟨aE cI,aY h⟩]).length:Nat):Int),((8+(aH (⟨aE cI,aY h⟩::(yY h aq++eW ds))).length:Nat):Int)]++(if h.kd=3 then [((8+(aH [⟨aE cI,aY h⟩,⟨aE cP,ct aq⟩]).length:Nat):Int)] else [])
theorem ae9 {h:Hd}{aq:List Int}{ds:List ByteArray}{k:Nat}(hk:k<(spL h aq ds).length):∃A B,mE h aq ds A B/\(spL h aq ds).getD k 0=((8+(aH A).length:Nat):Int):=by
 unfold spL at hk ⊢;by_cases h3:h.kd=3
 ·rw[aaj h3]at hk ⊢;have hk3:k<3:=hk;rcases (by omega:k=0\/k=1\/k=2) with rfl|rfl|rfl
  ·exact⟨_,_,.head,rfl⟩
  ·exact⟨_,_,.last,rfl⟩
  ·exact⟨_,_,.aq h3,rfl⟩
 ·rw[aai h3]at hk ⊢;have hk2:k<2:=hk;rcases (by omega:k=0\/k=1) with rfl|rfl
  ·exact⟨_,_,.head,rfl⟩
  ·exact⟨_,_,.last,rfl⟩
theorem UT {h:Hd}{aq:List Int}{ds:List ByteArray}(hp:aq.length<=2147483647)(hd:∀d∈ds,d.size<=2147483647): (iK 8 (bj h aq ds)).getD 1 0=((8+(aH [⟨aE cI,aY h⟩]).length:Nat):Int) /\ (iK 8 (bj h aq ds)).getD ((iK 8 (bj h aq ds)).length-2) 0=((8+(aH (⟨aE cI,aY h⟩::(yY h aq++eW ds))).length:Nat):Int) /\ (h.kd=3->(iK 8 (bj h aq ds)).getD 2 0=((8+(aH [⟨aE cI,aY h⟩,⟨aE cP,ct aq⟩]).length:Nat):Int)):=by
 refine⟨?_,?_,fun h3=>?_⟩
 ·exact vn hp hd (A:=[⟨aE cI,aY h⟩]) (mE.all (.head (h:=h) (aq:=aq) (ds:=ds)))
 ·have:=vn hp hd (A:=⟨aE cI,aY h⟩::(yY h aq++eW ds)) (mE.all (.last (h:=h) (aq:=aq) (ds:=ds)));rw[<-this]
  congr 1
  rw[yS,<-mE.all (.last (h:=h) (aq:=aq) (ds:=ds)),aac];show _+1+1-2=_;omega
 ·exact vn hp hd (A:=[⟨aE cI,aY h⟩,⟨aE cP,ct aq⟩]) (mE.all (.aq (h:=h) (aq:=aq) (ds:=ds) h3))
theorem amended {h:Hd}{aq:List Int}{ds:List ByteArray}{A B:List Ch}(s:mE h aq ds A B){b:ByteArray}(hb:b.data.toList=iQ h aq ds)(hp:aq.length<=2147483647)(hd:∀d∈ds,d.size<=2147483647)(hne:ds≠[]){c:Ch}(hs:vJ c)(R:UI)(limit:Int)(hr:dm b limit=.ok R){t:ByteArray}(ht:t=b.extract 0 (8+(aH A).length)++(⟨(four (c.data.size:Int)).toArray⟩:ByteArray)++(c.name++c.data)++(⟨(four (lU (c.name++c.data))).toArray⟩:ByteArray)++b.extract (8+(aH A).length) b.size): (gM (af c.name 0)=false->dm t limit=.ok R)/\(gM (af c.name 0)=true->dm t limit=.error 12):=by
 have hx:t.data.toList=(sj++aH A)++(kR c++aH B):=by rw[ht];exact Pt hb s.all s.all c
 refine⟨fun hc=>?_,fun hc=>H5 s hp hd hne hs hc hx limit⟩;rw[yW limit (uT hb hp hd hne).2.2]at hr;rw[yW limit (H4 s hp hd hne hs hc hx)];exact hr
theorem Zq {i:Nat}(hi:i<4):(#[.string ⟨#[69,88,116]⟩,.string ⟨#[101,120,116]⟩,.string ⟨#[73,68,65]⟩,.string ⟨#[122,122,122]⟩]:Array Value)[i]?=some (.string ⟨(xL i).toArray⟩):=by
 rcases (by omega:i=0\/i=1\/i=2\/i=3) with rfl|rfl|rfl|rfl<;>rfl
theorem acp {i:Nat}(hi:i<4):(xL i).length=3:=by rcases (by omega:i=0\/i=1\/i=2\/i=3) with rfl|rfl|rfl|rfl<;>rfl
theorem acq (g:UInt8)(i:Nat)(d:ByteArray):((⟨#[g]⟩:ByteArray)++(⟨(xL i).toArray⟩:ByteArray))++d=(ML g i d).name++(ML g i d).data:=by
 apply ba_eq;rw[jK,jK,jK];rfl
theorem Uc {w:World}{B n cp:Nat}{ao:Option Addr}{zs:List Int}(h:w.ownsRow B 3 1 (.slice ao n cp) n (vals zs))(hz:zs≠[]):∃g,ao=some ⟨g,0,none⟩/\∀j,j<zs.length->w.cell? ⟨g,j,none⟩=some (.int .i64 (zs.getD j 0)):=by
 obtain⟨i1,_,i3⟩:=ob h;obtain⟨g,rfl,_,_,_⟩:=i3 hz;refine⟨g,rfl,fun j hj=>?_⟩;obtain⟨b,off,e,hc⟩:=i1 j hj;cases e;rw[aaO]at hc;rw[hc,aab,aan hj];rfl
theorem Zr (s:ByteArray):∃n:Nat,n<4294967296/\(n:Int)=lU s:=by
 have:=l7 s;exact⟨(lU s).toNat,by omega,by omega⟩
def Pu (h:Hd)(aq S:List Int)(w:World)(e:Ending)(w':World):Prop :=
 ∃(b:ByteArray) (ds:List ByteArray) (B:Nat) (ao:Option Addr) (cp:Nat),e=.returned (.tuple #[.string b,.slice ao (iK 8 (bj h aq ds)).length cp,.bool true]) /\
  w'.ownsRow B 3 1 (.slice ao (iK 8 (bj h aq ds)).length cp) (iK 8 (bj h aq ds)).length (vals (iK 8 (bj h aq ds)))/\w.heap.size<=B /\
  b.data.toList=iQ h aq ds/\ds≠[]/\(∀d∈ds,d.size<=2147483647)/\(∀limit,bY h<=limit->dm b limit=.ok ⟨h,aq,S⟩)/\b.size<=1000000/\Below w.heap.size w w'
theorem afa (h:Hd)(lv fl ck:Int)(aq S:List Int)(pa:Option Addr)(pc G cap:Nat)(w:World)(tt:TypeId)(fr:Nat×Nat)(hl:Hl w pa aq (some ⟨G,0,none⟩) S tt fr)(hG:G<w.heap.size)(hcap:S.length<=cap)(hpf:du h aq S)(hset:dW lv fl ck=true)(hck:ck<=300)(hraw:bY h<=22540)(hpl:aq.length<=1000): Calls Tryz.prog 8 #[.agg (bq h (.slice pa aq.length pc) (.slice (some ⟨G,0,none⟩) S.length cap)),.agg #[.int .i64 lv,.int .i64 fl,.int .i64 ck]] w fun e w'=>Pu h aq S w e w':=by
 obtain⟨k0,q0,q1⟩:=bH w (.cells (bq h (.slice pa aq.length pc) (.slice (some ⟨G,0,none⟩) S.length cap)) 24) (.cells #[.int .i64 lv,.int .i64 fl,.int .i64 ck] 29);have hkn:=SM ((w.alloc (.cells (bq h (.slice pa aq.length pc) (.slice (some ⟨G,0,none⟩) S.length cap)) 24)).alloc (.cells #[.int .i64 lv,.int .i64 fl,.int .i64 ck] 29));have z2:((w.alloc (.cells (bq h (.slice pa aq.length pc) (.slice (some ⟨G,0,none⟩) S.length cap)) 24)).alloc (.cells #[.int .i64 lv,.int .i64 fl,.int .i64 ck] 29)).heap.size=w.heap.size+2:=by simp
 have HH:Hid (_/\_/\_/\_):=⟨hl,k0,q0,q1⟩
 have HP:Hid (du h aq S/\dW lv fl ck=true/\S.length<=cap/\ck<=300/\bY h<=22540/\aq.length<=1000/\G<w.heap.size):=⟨hpf,hset,hcap,hck,hraw,hpl,hG⟩
 clear hl k0 q0 q1 hpf hset hcap hck hraw hpl hG
 go_enter Tryz.func8,Tryz.ntmps8
 go_wp2_with fail;refine hkn.mono ?_;rintro e w1 ⟨rfl,b1⟩;have zz:=b1.size;rw[z2]at zz;have p0:=(b1.block w.heap.size (by omega)).trans HH.out.2.2.1;have p1:=(b1.block (w.heap.size+1) (by omega)).trans HH.out.2.2.2;obtain⟨x0,x1,x2,x3,x4,x5,x6⟩:=aP p0;obtain⟨y0,y1,y2⟩:=n9 p1;have B1:Below w.heap.size w w1:=HH.out.2.1.trans (b1.mono (by omega));have hen:=Pq h lv fl ck aq S pa pc G cap w1 tt fr (HH.out.1.later B1) (by have:=HP.out.2.2.2.2.2.2;omega) HP.out.2.2.1;have HB1:Hid (_):=B1;clear p0 p1 B1 b1 hkn;go_wp2_with fail;refine hen.mono ?_;rintro e w2 ⟨hcase,b2⟩;obtain⟨hpf,hset,_,hck,hraw,hpl,_⟩:=HP.out;rcases hcase with⟨hne,_⟩|⟨_,hsf,_⟩|⟨_,_,T,X,ds,b,rfl,t1,t2,t3,t4,t5⟩
 ·exact absurd ((Bn h aq S).2 hpf) hne
 ·rw[hset]at hsf;cases hsf
 ·have hC0:1<=ck:=by
   simp only[dW,aaS,aaW]at hset;omega
  have hXs:=BJ t3 (by omega);have hbs:=IJ t4 (by omega) t5;have hdec:=fun limit hlim=>Pr hpf t1 t2 t3 t4 (by omega) t5 limit hlim;have Ud:∀d∈ds,d.size<=2147483647:=fun d hd=>by have:=(t4.few d hd).2;omega
  have hne:ds≠[]:=xF t4 (t3.size (by omega)).2;have hds:1<=ds.length:=List.length_pos_iff.2 hne;have hpc:=OG b (bj h aq ds) sj w2 (nZ (by omega) Ud) (by rw[IP];omega) rfl t5 (by omega)
  have h8:¬(b.size:Int)<8:=by
   have e1:b.size=8+(aH (bj h aq ds)).length:=by rw[<-cj,t5,IL]
   omega
  have HB2:Hid (_):=HB1.out.trans (b2.mono HB1.out.size);have HF:Hid (b.data.toList=iQ h aq ds/\ds≠[]/\(∀d∈ds,d.size<=2147483647)/\(∀limit,bY h<=limit->dm b limit=.ok ⟨h,aq,S⟩)/\b.size<=1000000):=⟨t5,hne,Ud,hdec,by omega⟩
  obtain⟨M,hM⟩:∃M,M=(iK 8 (bj h aq ds)).length:=⟨_,rfl⟩
  have HM:Hid (M=(iK 8 (bj h aq ds)).length):=hM;rw[<-hM]at hpc;clear hen b2 hpf hset hck hraw hpl t1 t2 t3 t4 t5 hXs hbs hdec Ud hne hds hM x0 x1 x2 x3 x4 x5 x6 y0 y1 y2;go_wp2_with fail;refine hpc.mono ?_;rintro e w3 ⟨ao,cp,rfl,own,b3⟩;have HO:Hid (w3.ownsRow w2.heap.size 3 1 (.slice ao M cp) M (vals (iK 8 (bj h aq ds)))):=own;have HB3:Hid (_):=HB2.out.trans (b3.mono HB2.out.size);have hB:=HB2.out.size;clear own b3 hpc;go_wp2;obtain⟨f1,f2,f3,f4,f5⟩:=HF.out;refine aaF (v:=.tuple #[.string b,.slice ao M cp,.bool true]) (by simp[results,Tryz.results8,go_sem]) rfl ⟨b,ds,w2.heap.size,ao,cp,by rw[<-HM.out],by rw[<-HM.out];exact HO.out,hB,f1,f2,f3,f4,f5,HB3.out⟩
theorem QK {w:World}{B cp n:Nat}{ao:Option Addr}{p:Nat}{L:List Ch}(h:w.ownsRow B 3 1 (.slice ao n cp) n (vals (iK p L))):∃g,ao=some ⟨g,0,none⟩/\B<=g/\g<w.heap.size/\∀j,j<L.length+1->w.cell? ⟨g,j,none⟩=some (.int .i64 ((iK p L).getD j 0)):=by
 obtain⟨i1,_,i3⟩:=ob h;have hl:=yS L p;obtain⟨g,rfl,hB,hg,_⟩:=i3 (fun e=>by rw[e]at hl;exact absurd hl (Nat.succ_ne_zero _).symm);refine⟨g,rfl,hB,hg,fun j hj=>?_⟩;obtain⟨b,off,e,hc⟩:=i1 j (by omega);cases e;rw[aaO]at hc;rw[hc,aab,aan (by omega)];rfl
theorem fC.nums {w:World}{B:Nat}{v:Value}{l:List Int}(h:fC w B v l):∃ao cp,v=.slice ao l.length cp/\Ints w ao l/\(∀a,ao=some a->l≠[]->a.block<w.heap.size):=by
 rcases h with⟨rfl,rfl⟩|⟨G,_,rfl,hG⟩
 ·exact⟨none,0,rfl,fun j hj=>absurd hj (Nat.not_lt_zero _),fun a ha=>(by cases ha)⟩
 ·exact⟨_,_,rfl,hG.ints,fun a ha _=>(by have e:=aaH ha;rw[<-e];exact aaa hG)⟩
end
end Go.Proofs.YtmfijackgekioabGreatDoor
