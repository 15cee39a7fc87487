import Derived.Test.YtmfijackgekioabGreatDoorQ99
import Derived.JoinedCond
set_option maxHeartbeats 1000000
set_option maxRecDepth 100000
namespace Go.Proofs.YtmfijackgekioabGreatDoor
section
open Go.RowKit
theorem afI (s:ByteArray)(w:World)(hs:s.size<=maxLen): Calls Tryz.prog 13 #[.string s] w fun e w'=>e=.returned (.int .i64 (4294967295-(Mx.mT s.data.toList:Int)))/\w'=w:=by
 go_enter Tryz.func13,Tryz.ntmps13
 go_wp2_with (go_at_call 24;refine (Vv s _ hs).mono ?_;rintro e w' ⟨rfl,rfl⟩)
 go_ret
 exact⟨rfl,rfl⟩
end
section
open Go.RowKit Go.Maps
theorem gS.nums {w:World}{B:Nat}{v:Value}{l:List Int}(h:gS w B v l):∃ao cp,v=.slice ao l.length cp/\Ints w ao l/\(∀a,ao=some a->l≠[]->a.block<w.heap.size):=by
 rcases h with⟨rfl,rfl⟩|⟨G,_,rfl,hG⟩
 ·exact⟨none,0,rfl,fun j hj=>absurd hj (adk _),fun a ha=>(by cases ha)⟩
 ·exact⟨_,_,rfl,hG.ints,fun a ha _=>(by have e:=aaN ha;rw[<-e];exact aac hG)⟩
end
theorem ady (s:ByteArray):∃n:Nat,n<4294967296/\(n:Int)=fF s:=by
 have:=im s;exact⟨(fF s).toNat,by omega,by omega⟩
section
open Go.RowKit Go.Maps
theorem afK (kind width rK:Int)(ra:Option Addr)(rc:Nat)(raw:List Int)(level:Int)(sp:Bool)(w:World)(hk:I64 kind)(hw:I64 width)(hh:I64 rK)(hlv:I64 level)(hraw:Ints w ra raw)(hra:∀a,ra=some a->raw≠[]->a.block<w.heap.size)(Vk:∀y∈raw,I64 y)(hrl:raw.length<=9223372036854775807)(tt:TypeId)(fr:Nat×Nat)(jX:w.heap[0]?=some (.cells cY tt fr)): Calls Tryz.prog 6 #[.int .i64 kind,.int .i64 width,.int .i64 rK,.slice ra raw.length rc,.int .i64 level,.bool sp] w fun e w'=>e=.returned (.bool true)/\Below w.heap.size w w':=by
 have hpi:=Y0 kind width rK false ra rc raw w hk hw hh hraw hra Vk hrl;have hse:=fun u=>YZ level 0 299 u hlv ⟨by omega,by omega⟩ ⟨by omega,by omega⟩;have hr3:=bH 299 (n:=300) (by omega);have HTB:Hid (_):=jX;obtain⟨L,hL⟩:∃L,L=raw.length:=⟨_,rfl⟩
 rw[<-hL]at hpi ⊢;obtain⟨A,hA⟩:∃A,A=cN level 3:=⟨_,rfl⟩
 obtain⟨Fl,hFl⟩:∃Fl,Fl=cN 0 6:=⟨_,rfl⟩
 obtain⟨C,hC⟩:∃C,C=1+cN 299 300:=⟨_,rfl⟩
 rw[<-hA,<-hFl,<-hC]at hse;have hCb:C<=300:=by omega
 clear hraw hra Vk hrl jX hL hA hFl hC hk hw hh hlv hr3
 go_enter Tryz.func6,Tryz.ntmps6
 go_wp2_with fail;refine hpi.mono ?_;rintro e w2 ⟨h,aq,S,pa,pc,G,cap,rfl,hpf,hps,hsm,i1,i2,i3,hG,hcap,hlen,B2⟩;have ka:=ae w2 (.cells (bC h (.slice pa aq.length pc) (.slice (some ⟨G,0,none⟩) S.length cap)) 24);have q:=ah w2 (.cells (bC h (.slice pa aq.length pc) (.slice (some ⟨G,0,none⟩) S.length cap)) 24);have B3:=B2.trans (ka.mono B2.size);have Nc:Ii w2 pa aq (some ⟨G,0,none⟩) S tt fr:=⟨(B2.block _ (aac HTB.out)).trans HTB.out,i1,i2,by unfold maxLen;omega,i3,fun a ha _=>(by have e:=aaN ha;rw[<-e];exact hG),by unfold maxLen;omega⟩
 have hl3:=Nc.later ka;have adp:=EK h hpf.hd hsm.1 hsm.2;have z3:(w2.alloc (.cells (bC h (.slice pa aq.length pc) (.slice (some ⟨G,0,none⟩) S.length cap)) 24)).heap.size=w2.heap.size+1:=by simp
 have hch:=fun u=>Vp hpf.hd.ch u;have hrp:=Vq hps;have hbd:1<=h.wd/\h.wd<=20/\1<=h.ht/\h.ht<=20:=⟨hpf.hd.wd.1,hsm.1,hpf.hd.ht.1,hsm.2⟩
 obtain⟨x0,x1,x2,x3,x4,x5,x6⟩:=aR q;have HH:Hid (_/\_/\_/\_/\_/\_/\_/\_):=⟨hl3,q,B3,hpf,hcap,adp,hlen,hG⟩
 have HC:Hid (_/\_/\_):=⟨hch,hrp,hbd⟩
 clear Nc hl3 B2 B3 hpf hps hsm i1 i2 i3 hpi ka hcap adp hlen hch hrp hbd;go_wp2_with fail;generalize hw4:w2.alloc (.cells (bC h (.slice pa aq.length pc) (.slice (some ⟨G,0,none⟩) S.length cap)) 24)=w4 at *;have hS:w4.drew.heap[w2.heap.size]?=some (.cells (bC h (.slice pa aq.length pc) (.slice (some ⟨G,0,none⟩) S.length cap)) 24 (0,0)):=q;clear q x0 x1 x2 x3 x4 x5 x6;refine ax (fun u=>u.heap[w2.heap.size]?=some (.cells (bC h (.slice pa aq.length pc) (.slice (some ⟨G,0,none⟩) S.length cap)) 24 (0,0))) 99 ?_;refine ap [0,1] ?_
 iterate 2 (refine ay (v:=?_) (T:=?_) ?ht ?hy hS ?_;(case hy=>intro w hSw;have xP := aR hSw; go_simp;try with_reducible rfl);case ht=>go_simp;try with_reducible rfl)
 refine aj ?_;refine ag 2 fun K hK=>?_;go_simp;refine (hse _).mono ?_;rintro e w5 ⟨rfl,hset,b5⟩;have IE:Below w4.heap.size w4 w5:=((aav _ w4).drew).trans b5;have zz5:=IE.size;have q5:=(IE.block _ (by omega)).trans HH.out.2.1;have B5:=HH.out.2.2.1.trans (IE.mono HH.out.2.2.1.size);have hl5:=HH.out.1.later IE;obtain⟨_,_,_,hpf,hcap,adp,hlen,hG⟩:=HH.out;have hfi:=afO h A Fl C aq S pa pc G cap w5 tt fr hl5 (by omega) hcap hpf hset hCb (by omega) hlen.1;have HH5:Hid (_/\_/\_):=⟨hl5,q5,B5⟩
 refine hK _ _ (fun _=>q5) ?_;clear hK K b5 IE hl5 q5 B5 hset hse hS hpf hcap adp hlen hG;refine ag 3 fun K hK=>?_;go_simp;refine hfi.mono ?_;rintro e w6 ⟨b,ds,B,ao,cp,rfl,own,hB,f1,f2,f3,f4,f5,b6⟩;obtain⟨hl5,q5,B5⟩:=HH5.out;have zz6:=b6.size;have q6:=(b6.block w2.heap.size (by omega)).trans q5;have B6:=B5.trans (b6.mono B5.size);have hl6:=hl5.later b6;obtain⟨g,rfl,_,hgl,hpl⟩:=Ro own;have zJ:Hid (_/\_/\_/\_/\_):=⟨hl6,q6,B6,hgl,hpl⟩
 have HFF:Hid (_/\_/\_/\_/\_):=⟨f1,f2,f3,f4,f5⟩
 obtain⟨M,hM⟩:∃M,M=(iX 8 (aN h aq ds)).length:=⟨_,rfl⟩
 have HM:Hid (M=(iX 8 (aN h aq ds)).length):=hM;rw[<-hM];refine hK _ _ (fun _=>q6) ?_;clear hK K hfi b6 hl5 q5 B5 own hB f1 f2 f3 f4 f5 hl6 q6 B6 HH5 hM hgl hpl;have hTr:w6.heap[w2.heap.size]?=some (.cells (bC h (.slice pa aq.length pc) (.slice (some ⟨G,0,none⟩) S.length cap)) 24 (0,0)):=zJ.out.2.1;refine ap [4,5,6,7,8,9,10] ?_
 iterate 7 (refine ay (v:=?_) (T:=?_) ?ht ?hy hTr ?_;(case hy=>intro w hSw;(try dsimp only at hSw); go_simp;try with_reducible rfl);case ht=>go_simp;try with_reducible rfl)
 refine aj ?_;refine am ?_;clear hTr;have hch:=HC.out.1;go_wp2_with fail;have hS:w6.drew.heap[w2.heap.size]?=some (.cells (bC h (.slice pa aq.length pc) (.slice (some ⟨G,0,none⟩) S.length cap)) 24 (0,0)):=zJ.out.2.1;refine ax (fun u=>u.heap[w2.heap.size]?=some (.cells (bC h (.slice pa aq.length pc) (.slice (some ⟨G,0,none⟩) S.length cap)) 24 (0,0))) 99 ?_;refine ap [0,1,2,3,4,5,8,9] ?_
 iterate 8 (refine ay (v:=?_) (T:=?_) ?ht ?hy hS ?_;(case hy=>intro w hSw;have xP := aR hSw; go_simp;try with_reducible rfl);case ht=>go_simp;try with_reducible rfl)
 refine aj ?_;refine ag 6 fun K hK=>?_;go_simp;refine (hch _).mono ?_;rintro e w7 ⟨rfl,b7⟩;have b7':Below w6.heap.size w6 w7:=((aav _ w6).drew).trans b7;have zz7:=b7'.size;obtain⟨hl6,q6,B6,hgl,hpl⟩:=zJ.out;have q7:=(b7'.block w2.heap.size (by omega)).trans q6;have B7:=B6.trans (b7'.mono B6.size);have hl7:=hl6.later b7';have adV:∀j,j<(aN h aq ds).length+1->w7.cell? ⟨g,j,none⟩=some (.int .i64 ((iX 8 (aN h aq ds)).getD j 0)):=fun j hj=>(b7'.cell (p:=⟨g,j,none⟩) hgl).trans (hpl j hj);have HH7:Hid (_/\_/\_/\_/\_):=⟨hl7,q7,B7,aa3 hgl zz7,adV⟩
 refine hK _ _ (fun _=>q7) ?_;clear hK K hl6 q6 B6 hgl hpl b7 b7' q7 B7 hl7 adV zJ hch hS;obtain⟨hch,hrp,hb1,hb2,hb3,hb4⟩:=HC.out;have hcr:=Pm.cU h.kd h.dp;have hdr:=Pm.cK _ _ HH.out.2.2.2.1.hd.ch;have adp:=HH.out.2.2.2.2.2.1;have HRP:Hid (bJ h=_):=hrp;obtain⟨R,hR⟩:∃R,R=bJ h:=⟨_,rfl⟩
 generalize Pm.chan h.kd h.dp=ch at *;have m1:0<=h.wd*ch/\h.wd*ch<=80:=⟨acu (by omega) (by omega),by have:=acK hb2 hcr.2 hcr.1 (by omega);omega⟩
 have m2:0<=h.wd*ch*h.dp/\h.wd*ch*h.dp<=1280:=⟨acu m1.1 (by omega),by have:=acK m1.2 hdr.2 (by omega) (by omega);omega⟩
 have e1:IntKind.i64.wrap (h.wd*ch)=h.wd*ch:=aan _ (by omega);have e2:IntKind.i64.wrap (h.wd*ch*h.dp)=h.wd*ch*h.dp:=aan _ (by omega);have hRb:R<=22540:=by omega
 have ZN:1<=R:=by
  rw[hR,hrp];have:=acK hb3 (show (1:Int)<=1+(h.wd*ch*h.dp+7)/8 by omega) (by omega) (by omega);omega
 have e3:IntKind.i64.wrap (h.wd*ch*h.dp+7)=h.wd*ch*h.dp+7:=aan _ (by omega);have e4:IntKind.i64.wrap ((h.wd*ch*h.dp+7).tdiv 8)=(h.wd*ch*h.dp+7)/8:=by rw[Int.tdiv_eq_ediv_of_nonneg (by omega)];exact aan _ (by omega)
 have e5:IntKind.i64.wrap (1+(h.wd*ch*h.dp+7)/8)=1+(h.wd*ch*h.dp+7)/8:=aan _ (by omega);have e6:IntKind.i64.wrap (h.ht*(1+(h.wd*ch*h.dp+7)/8))=R:=by rw[<-hrp,<-hR];exact aan _ (by omega)
 have HR:Hid (R=bJ h):=hR;clear hR hrp;have hTr:w7.heap[w2.heap.size]?=some (.cells (bC h (.slice pa aq.length pc) (.slice (some ⟨G,0,none⟩) S.length cap)) 24 (0,0)):=HH7.out.2.1;refine ap [7,10,11,12,13,14,15] ?_
 iterate 7 (refine ay (v:=?_) (T:=?_) ?ht ?hy hTr ?_;(case hy=>intro w hSw;(try dsimp only at hSw); go_simp;try with_reducible rfl);case ht=>go_simp;try with_reducible rfl)
 refine aj ?_;refine am ?_;obtain⟨f1,f2,f3,f4,f5⟩:=HFF.out;have hde:=ZO b R w7 (by omega) tt fr HH7.out.1.tab;have hdec:=f4 R (Int.le_of_eq HR.out.symm);have hlen:=HH.out.2.2.2.2.2.2.1;clear hTr e1 e2 e3 e4 e5 e6 HRP m1 m2 hcr hdr adp hb1 hb2 hb3 hb4 hch HC f1 f2 f3 f4 f5;go_wp2_with fail;refine hde.mono ?_;intro e w8 he;cases he with
 | no h1 b8=>rw[hdec]at h1;cases h1
 | @ok _ Rr pv sv h1 lp ls _ b8 =>
  have eR:Rr=⟨h,aq,S⟩:=by rw[hdec]at h1;injection h1 with h1;exact h1.symm
  subst eR;obtain⟨pa',pc',rfl,p1,p2⟩:=lp.nums;obtain⟨sa',sc',rfl,s1,s2⟩:=ls.nums;obtain⟨hl7,q7,B7,hgl,hpl⟩:=HH7.out;have zz8:=b8.size;have q8:=(b8.block w2.heap.size (by omega)).trans q7;have B8:=B7.trans (b8.mono B7.size);have hl8:=hl7.later b8;have ka:=ae w8 (.cells (bC h (.slice pa' aq.length pc') (.slice sa' S.length sc')) 24);have qa:=ah w8 (.cells (bC h (.slice pa' aq.length pc') (.slice sa' S.length sc')) 24);have hl9:=hl8.later ka;have q9:=(ka.block w2.heap.size (by omega)).trans q8;have B9:=B8.trans (ka.mono B8.size);have z9:(w8.alloc (.cells (bC h (.slice pa' aq.length pc') (.slice sa' S.length sc')) 24)).heap.size=w8.heap.size+1:=by simp
  have adv:∀j,j<(aN h aq ds).length+1->(w8.alloc (.cells (bC h (.slice pa' aq.length pc') (.slice sa' S.length sc')) 24)).cell? ⟨g,j,none⟩=some (.int .i64 ((iX 8 (aN h aq ds)).getD j 0)):=fun j hj=>(ka.cell (p:=⟨g,j,none⟩) (aa3 hgl zz8)).trans ((b8.cell (p:=⟨g,j,none⟩) hgl).trans (hpl j hj));have hsa:=aeK h.wd h.ht h.kd h.dp h.ps pa' pa sa' (some ⟨G,0,none⟩) pc' pc sc' cap aq S _ (p1.below ka p2) hl9.hp (s1.below ka s2) hl9.hs (fun a e e2=>by have:=p2 a e e2;omega) hl9.hpa (fun a e e2=>by have:=s2 a e e2;omega) hl9.hsa (by omega) (by omega);obtain⟨y0,y1,y2,y3,y4,y5,y6⟩:=aR q9;obtain⟨x0,x1,x2,x3,x4,x5,x6⟩:=aR qa;have HF:Hid (_/\_/\_/\_/\_):=⟨B9,hl9,q9,adv,aa3 hgl (aba zz8 ka.size)⟩
  clear hl7 q7 B7 q8 B8 hl8 ka qa hl9 q9 B9 b8 lp ls p1 p2 s1 s2 h1 hde HH7 hgl hpl adv hdec;go_wp2_with fail;generalize w8.alloc (.cells (bC h (.slice pa' aq.length pc') (.slice sa' S.length sc')) 24)=w9 at *;refine hsa.mono ?_;rintro e M7 ⟨rfl,b10⟩;obtain⟨B9,hl9,q9,adv,hgl⟩:=HF.out;have alh:=b10.size;have q10:=(b10.block w2.heap.size (aac q9)).trans q9;have B10:=B9.trans (b10.mono B9.size);have adA:=hl9.later b10;have adr:∀j,j<(aN h aq ds).length+1->M7.cell? ⟨g,j,none⟩=some (.int .i64 ((iX 8 (aN h aq ds)).getD j 0)):=fun j hj=>(b10.cell (p:=⟨g,j,none⟩) hgl).trans (adv j hj);clear y0 y1 y2 y3 y4 y5 y6 x0 x1 x2 x3 x4 x5 x6 HF hsa b10 B9 hl9 q9 adv;have hhd:=HH.out.2.2.2.1.hd;obtain⟨f1,f2,f3,f4,f5⟩:=HFF.out;cases sp with
  | false =>
   have hde:=ZO b (R-1) M7 (by omega) tt fr adA.tab;have hdec:cJ b (R-1)=.error 7:=by rw[HR.out];exact UF hhd f1 (by omega) f3 f2
   have HB:Hid (_):=B10;have hw1:IntKind.i64.wrap (R-1)=R-1:=aan _ (by omega);clear f1 f2 f3 f4 adr q10 adA B10 hgl;go_wp2_with fail;refine hde.mono ?_;intro e w11 he;cases he with
   | ok h1=>rw[hdec]at h1;cases h1
   | @no _ c' h1 b11 =>
    have ec:c'=7:=by rw[hdec]at h1;injection h1 with h1;exact h1.symm
    subst ec;have B11:=HB.out.trans (b11.mono HB.out.size);have ka:=ae w11 (.cells bq 24);have HG:Hid (_):=B11.trans (ka.mono B11.size);clear b11 B11 ka h1 hde HB hdec;go_wp2
    go_ret
    exact⟨rfl,HG.out⟩
  | true =>
   have hne:1<=ds.length:=List.length_pos_iff.2 f2;obtain⟨m,hm⟩:∃m,M=m+2:=⟨M-2,by rw[HM.out,zx,Jd];omega⟩
   have hm1:2+(if h.kd=3 then 1 else 0)<=m/\m+1=(aN h aq ds).length:=by
    have e:=HM.out;rw[zx]at e;have e2:=Jd h aq ds;exact⟨by omega,by omega⟩
   have s1:=vM (A:=⟨aE bX,aT h⟩::rD h aq) (by omega) f3 (n8 (h:=h) (aq:=aq) (ds:=ds)).1;have s2:=vM (A:=⟨aE bX,aT h⟩::(rD h aq++eG ds)) (by omega) f3 (n8 (h:=h) (aq:=aq) (ds:=ds)).2
   have l2:(⟨aE bX,aT h⟩::(rD h aq++eG ds):List Ch).length=m:=by
    have e:=abY List.length (n8 (h:=h) (aq:=aq) (ds:=ds)).2;rw[aae]at e;have:(sQ).length=1:=rfl;omega
   have l1:(⟨aE bX,aT h⟩::rD h aq:List Ch).length=if h.kd=3 then 2 else 1:=by
    unfold rD;split<;>rfl
   have k1:=(Cn f1 (n8 (h:=h) (aq:=aq) (ds:=ds)).1).2.2;have k2:=(Cn f1 (n8 (h:=h) (aq:=aq) (ds:=ds)).2).2.2;have hsp:=UE f1;rw[l1]at s1;rw[l2]at s2;obtain⟨P1,hP1⟩:∃p,p=8+(aC (⟨aE bX,aT h⟩::rD h aq)).length:=⟨_,rfl⟩
   obtain⟨P2,hP2⟩:∃p,p=8+(aC (⟨aE bX,aT h⟩::(rD h aq++eG ds))).length:=⟨_,rfl⟩
   rw[<-hP1]at s1 k1 hsp;rw[<-hP2]at s2 k2 hsp;have c2:M7.cell? ⟨g,m,none⟩=some (.int .i64 (P2:Int)):=by rw[adr m (by omega),s2]
   obtain⟨V,hV⟩:∃V,V=(iX 8 (aN h aq ds)).getD 1 0:=⟨_,rfl⟩
   have c0:M7.cell? ⟨g,1,none⟩=some (.int .i64 V):=by rw[adr 1 (by omega),hV]
   have cA:h.kd=3->M7.cell? ⟨g,2,none⟩=some (.int .i64 (P1:Int)):=fun h3=>by rw[aai h3]at s1 hm1;rw[adr 2 (by omega),s1]
   have cB:¬h.kd=3->V=(P1:Int):=fun h3=>by rw[aag h3]at s1;rw[hV,s1]
   obtain⟨nC,hnC,eC⟩:=ady (aE cj++Za)
   have hD:(aE cj++Za)=(⟨#[73,68,65,84,255,255,255]⟩:ByteArray):=by
    apply ba_eq;rw[je];rfl
   rw[hD]at hsp eC;have ht3:=fun u=>afL 3 u (by omega);have htc:=fun u=>afL nC u hnC;have hcr:∀u,Calls Tryz.prog 13 #[.string (⟨#[73,68,65,84,255,255,255]⟩:ByteArray)] u fun e w'=>e=.returned (.int .i64 (nC:Int))/\w'=u:=fun u=>by rw[eC];exact afI _ u (by unfold maxLen;decide)
   rw[<-eC]at hsp;obtain⟨T3,hT3⟩:∃T:ByteArray,T=⟨(four ((3:Nat):Int)).toArray⟩:=⟨_,rfl⟩
   obtain⟨TC,hTC⟩:∃T:ByteArray,T=⟨(four (nC:Int)).toArray⟩:=⟨_,rfl⟩
   have z3:T3.size=4:=by rw[hT3];rfl
   have zc:TC.size=4:=by rw[hTC];rfl
   have z7:(⟨#[73,68,65,84,255,255,255]⟩:ByteArray).size=7:=rfl;rw[<-hT3]at ht3;rw[<-hTC]at htc hsp;have hsp2:(b.extract 0 P1++T3++(⟨#[73,68,65,84,255,255,255]⟩:ByteArray)++TC++b.extract P2 b.size).data.toList=dr h aq [Za]:=by rw[hT3];exact hsp
   have z1:(b.extract 0 P1).size<=b.size:=by rw[aaO];omega
   have z2:(b.extract P2 b.size).size<=b.size:=by rw[aaO];omega
   generalize (⟨#[73,68,65,84,255,255,255]⟩:ByteArray)=D at *;have HZ:Hid (_/\_/\_):=⟨z3,zc,z7⟩
   obtain⟨x0,x1,x2,x3,x4,x5,x6⟩:=aR q10;have j1:(P1:Int)<=(b.size:Int):=by omega
   have j2:(P2:Int)<=(b.size:Int):=by omega
   have HSP:Hid (_):=hsp2;have adC:Hid (_/\_):=⟨B10,adA⟩
   have j3:(1:Int)<(m:Int)+2:=by omega
   have hm9:m<=1000000:=by
    have h1:=zM _ (ip (h:=h) (aq:=aq) (ds:=ds) (by omega) f3);have h2:b.size=8+(aC (aN h aq ds)).length:=by rw[<-ba,f1,rL]
    omega
   have j5:IntKind.i64.wrap (m:Int)=(m:Int):=aan _ (by omega);have j6:(m:Int)<(m:Int)+2:=by omega
   subst hm;clear z3 zc z7 hsp hsp2 hT3 hTC hD eC hV l1 l2 s1 s2 hP1 hP2 adr f1 f2 f3 f4 B10 adA q10 hne hgl k1 k2;by_cases h3:h.kd=3
   case' pos =>
    have c1:=cA h3;have j4:(2:Int)<(m:Int)+2:=by rw[aai h3]at hm1;omega
    clear cA cB hm1;go_wp2_with fail
   case' neg =>
    have c1:=cB h3;clear cA cB hm1;subst c1;go_wp2_with fail
   all_goals
    have hS:M7.drew.cell? ⟨g,m,none⟩=some (.int .i64 (P2:Int)):=c2;refine ax (fun u=>u.cell? ⟨g,m,none⟩=some (.int .i64 (P2:Int))) 99 ?_;refine ap [0,1,2,5,7,11,12,13,14,15,16,17,18] ?_
    iterate 13 (refine ay (v:=?_) (T:=?_) ?ht ?hy hS ?_;(case hy=>intro w hSw;(try dsimp only at hSw); go_simp;try with_reducible rfl);case ht=>go_simp;try with_reducible rfl)
    refine aj ?_;generalize hX1:b.extract 0 P1=X1 at *;generalize hX2:b.extract P2 b.size=X2 at *;have HX:Hid (_/\_):=⟨z1,z2⟩
    clear hX1 hX2 z1 z2;refine ag 3 fun K hK=>?_;go_simp;refine (ht3 _).mono ?_;rintro e v1 ⟨rfl,b1⟩;have b1':Below M7.heap.size M7 v1:=((aav _ M7).drew).trans b1;have hS1:v1.cell? ⟨g,m,none⟩=some (.int .i64 (P2:Int)):=(b1'.cell (p:=⟨g,m,none⟩) (World.block_lt_of_cell? _ _ c2)).trans c2;refine hK _ _ (fun _=>hS1) ?_;clear hK K;obtain⟨z3,zc,z7⟩:=HZ.out;obtain⟨z1,z2⟩:=HX.out;have y1:¬9223372036854775807<X1.size+T3.size:=by omega
    obtain⟨Y1,HY1⟩:∃Y,Hid (Y=X1++T3):=⟨_,rfl⟩
    have w1:Y1.size=X1.size+T3.size:=by rw[HY1.out];exact ByteArray.size_append
    have y3:¬9223372036854775807<Y1.size+D.size:=by omega
    obtain⟨Y2,HY2⟩:∃Y,Hid (Y=Y1++D):=⟨_,rfl⟩
    have u2:Y2.size=Y1.size+D.size:=by rw[HY2.out];exact ByteArray.size_append
    have y5:¬9223372036854775807<Y2.size+TC.size:=by omega
    obtain⟨Y3,HY3⟩:∃Y,Hid (Y=Y2++TC):=⟨_,rfl⟩
    have w3:Y3.size=Y2.size+TC.size:=by rw[HY3.out];exact ByteArray.size_append
    have y7:¬9223372036854775807<Y3.size+X2.size:=by omega
    obtain⟨Y4,HY4⟩:∃Y,Hid (Y=Y3++X2):=⟨_,rfl⟩
    have y8:Y4.size<=5000000:=by rw[HY4.out,ByteArray.size_append];omega
    rw[<-HY1.out,<-HY2.out,<-HY3.out,<-HY4.out]at HSP;clear z1 z2 z3 zc z7 w1 u2 w3;refine ap [4] ?_
    iterate 1 (refine ay (v:=?_) (T:=?_) ?ht ?hy hS1 ?_;(case hy=>intro w hSw;(try dsimp only at hSw); go_simp;try with_reducible rfl);case ht=>go_simp;try with_reducible rfl)
    refine aj ?_;rw[<-HY1.out];refine ap [6] ?_
    iterate 1 (refine ay (v:=?_) (T:=?_) ?ht ?hy hS1 ?_;(case hy=>intro w hSw;(try dsimp only at hSw); go_simp;try with_reducible rfl);case ht=>go_simp;try with_reducible rfl)
    refine aj ?_;rw[<-HY2.out];refine ag 8 fun K hK=>?_;go_simp;refine (hcr _).mono ?_;rintro e v2 ⟨rfl,hv2⟩;subst hv2;refine hK _ _ (fun _=>hS1) ?_;clear hK K;refine ag 9 fun K hK=>?_;go_simp;refine (htc _).mono ?_;rintro e v3 ⟨rfl,b3⟩;have iQ:v3.cell? ⟨g,m,none⟩=some (.int .i64 (P2:Int)):=(b3.cell (p:=⟨g,m,none⟩) (World.block_lt_of_cell? _ _ hS1)).trans hS1;have Jq:Below M7.heap.size M7 v3:=b1'.trans (b3.mono b1'.size);refine hK _ _ (fun _=>iQ) ?_;clear hK K;refine ap [10] ?_
    iterate 1 (refine ay (v:=?_) (T:=?_) ?ht ?hy iQ ?_;(case hy=>intro w hSw;(try dsimp only at hSw); go_simp;try with_reducible rfl);case ht=>go_simp;try with_reducible rfl)
    refine aj ?_;rw[<-HY3.out];refine ap [19,20] ?_
    iterate 2 (refine ay (v:=?_) (T:=?_) ?ht ?hy iQ ?_;(case hy=>intro w hSw;(try dsimp only at hSw); go_simp;try with_reducible rfl);case ht=>go_simp;try with_reducible rfl)
    refine aj ?_;rw[<-HY4.out];refine am ?_;have hde:=ZO Y4 (R-1) v3 (by omega) tt fr (adC.out.2.later Jq).tab;have hdec:cJ Y4 (R-1)=.error 7:=by rw[HR.out];exact UF hhd HSP.out (by omega) (fun d hd=>by rw[abR.1 hd];decide) (List.cons_ne_nil _ _)
    have HB:Hid (_):=adC.out.1.trans (Jq.mono adC.out.1.size);have hw1:IntKind.i64.wrap (R-1)=R-1:=aan _ (by omega);clear b1 b1' b3 Jq hS hS1 iQ c0 c2 j1 j2 y1 y3 y5 y7 y8 ht3 htc hcr HSP adC;go_wp2_with fail;refine hde.mono ?_;intro e w11 he;cases he with
    | ok h1=>rw[hdec]at h1;cases h1
    | @no _ c' h1 b11 =>
     have ec:c'=7:=by rw[hdec]at h1;injection h1 with h1;exact h1.symm
     subst ec;have B11:=HB.out.trans (b11.mono HB.out.size);have ka:=ae w11 (.cells bq 24);have HG:Hid (_):=B11.trans (ka.mono B11.size);clear b11 B11 ka h1 hde HB hdec;go_wp2
     go_ret
     exact⟨rfl,HG.out⟩
end
section
open Go.ChangeShapes Go.WideShapes Go.ChangeAt Go.RowKit Go.Joins
open Go.ChangeMaps (open_string shut_string)
theorem ads (H:Type)(enc:TypeId×Value->H)(W:World)(base:Nat)(args:Array Value)(ds gs:List (DataW H))(before:List MemPlace)(hval:∀(j:Nat) t v,Tryz.f6.params[j]?=some t->args[j]?=some v->Value.okWide Tryz.prog W .any base t v)(hW:DataW.Whole enc Tryz.prog Tryz.f6.params.toList Rows.limitedSpec.vars false W args.toList ds gs before)(hL:laidMetH Tryz.prog Rows.limitedRow.laid W): Calls Tryz.prog 6 args W fun e W'=>∃v,e=.returned v/\Rows.limitedSpec.post enc Tryz.prog Tryz.f6 false true false false W args v W':=by
 have hW':=hW;obtain⟨p,q,hA0,hV,rfl,hfz,hnd⟩:=hW;have hA:DataW.TrodAll enc Tryz.prog W 0 (fun _=>true) true Tryz.f6.params.toList args.toList ds p:=hA0;rw[Tryz.params6]at hA hval;obtain⟨v0,vs0,d0,ds0,p0,q0,hargs,rfl,rfl,h0,r0⟩:=trodAll_cons hA;obtain⟨v1,vs1,d1,ds1,p1,q1,afZ,rfl,rfl,h1,r1⟩:=trodAll_cons r0;obtain⟨v2,vs2,d2,ds2,p2,q2,af2,rfl,rfl,h2,r2⟩:=trodAll_cons r1;obtain⟨v3,vs3,d3,ds3,p3,q3,af3,rfl,rfl,h3,r3⟩:=trodAll_cons r2;obtain⟨v4,vs4,d4,ds4,p4,q4,af4,rfl,rfl,h4,r4⟩:=trodAll_cons r3;obtain⟨v5,vs5,d5,ds5,p5,q5,af8,rfl,rfl,h5,r5⟩:=trodAll_cons r4;obtain⟨rfl,rfl,rfl⟩:=trodAll_nil r5;obtain rfl:args=#[v0,v1,v2,v3,v4,v5]:=by cases args;simp_all
 obtain⟨rfl,rfl⟩:=trodVars_none hV;obtain⟨x0,rfl,rfl,rfl,hm0⟩:=open_int Tryz.underlying3 (hval 0 3 v0 rfl rfl) h0;obtain⟨x1,rfl,rfl,rfl,hm1⟩:=open_int Tryz.underlying3 (hval 1 3 v1 rfl rfl) h1;obtain⟨x2,rfl,rfl,rfl,hm2⟩:=open_int Tryz.underlying3 (hval 2 3 v2 rfl rfl) h2;obtain⟨ra,rc,raw,rfl,i4,b4,m4,w4⟩:=Y8 (hval 3 22 v3 rfl rfl) h3;obtain⟨x4,rfl,rfl,rfl,hm4⟩:=open_int Tryz.underlying3 (hval 4 3 v4 rfl rfl) h4;obtain⟨x5,rfl,rfl,rfl⟩:=open_bool Tryz.underlying4 (hval 5 4 v5 rfl rfl) h5;obtain⟨tt,fr,hT⟩:=table hL;clear hA0;simp only[abm,aa9]at hW';refine (afK x0 x1 x2 ra rc raw x4 x5 W (Jc hm0) (Jc hm1) (Jc hm2) (Jc hm4) i4 b4 w4 (by unfold maxLen at m4;omega) tt fr hT).mono fun e W' ⟨he,hg⟩=>?_;subst he;have h4':=Below.trod Tryz.laidOut (by kernel_rfl) (of_decide_eq_true (by kernel_rfl)) h3 hg (fun x hx=>by simpa using hW'.lt x hx);refine⟨_,rfl,_,_,_,[],p3,[],hW',trodAll_cons_mk (shut_bool Tryz.underlying4 _) trodAll_mk0,?_,rfl,hg.frame _,fun h=>by cases h⟩;have hall:=trodAll_cons_mk (shut_int Tryz.underlying3 hm0) (trodAll_cons_mk (shut_int Tryz.underlying3 hm1) (trodAll_cons_mk (shut_int Tryz.underlying3 hm2) (trodAll_cons_mk h4' (trodAll_cons_mk (shut_int Tryz.underlying3 hm4) (trodAll_cons_mk (shut_bool Tryz.underlying4 x5) trodAll_mk0)))));simp only[abm,aa9]at hall;exact hall
noncomputable def dM (os:Os):World :=
 { World.holding Tryz.prog os ⟨#[],#[],[]⟩ with heap:=(World.holding Tryz.prog os ⟨#[],#[],[]⟩).heap.modify 0 fun
   | .cells _ t frozen=>.cells cY t frozen
   | o=>o }
def adq:Array Value:=#[.int .i64 0,.int .i64 0,.int .i64 0,.slice none 0 0,.int .i64 0,.bool false]
theorem adt (os:Os):laidMet Tryz.prog Rows.limitedRow.laid ((dM os).forCall (fun _ _=>0) ⟨#[],adq,[]⟩).memory :=
 laidMet_of_run' 8 (by kernel_rfl) (by kernel_rfl)
theorem adD (os:Os){H:Type}(enc:TypeId×Value->H):∃places,DataW.whole enc Tryz.prog ((dM os).forCall (fun _ _=>0) ⟨#[],adq,[]⟩).memory Tryz.f6.params.toList Rows.limitedSpec.vars false adq.toList 8=some ([.lit (.int .i64 0),.lit (.int .i64 0),.lit (.int .i64 0),.nil,.lit (.int .i64 0),.lit (.bool false)],[],places) :=
 ⟨[],by kernel_rfl⟩
theorem adw (os:Os)(started:os.Started)(H:Type)(enc:TypeId×Value->H)(F:Stop.Interp): ReturnsInHanded {} Tryz.checked os 6 .any ((OpenSpec.ofChange Rows.limitedSpec).preRow enc Tryz.prog Tryz.f6 Rows.limitedRow.domain false Rows.limitedRow.laid) (((OpenSpec.ofChange Rows.limitedSpec).at F).post enc Tryz.prog Tryz.f6 false true false false):=by
 obtain⟨places,hx⟩:=adD os enc
 refine returnsInHanded_of_row (C:=Tryz.checked) (s:=OpenSpec.ofChange Rows.limitedSpec) Tryz.own started (by kernel_rfl) Tryz.func6
  (witness_row_at (enc:=enc) (C:=Tryz.checked) false (dM os) adq rfl (by kernel_rfl) (by kernel_rfl) (by kernel_rfl)
   (OpenSpec.preRow_of_cond 8 hx (by kernel_rfl) (fun k hk=>by cases hk) (by kernel_rfl) (adt os))) ?_
 intro W base args ds gs before hval hW _ _ _ hL _ _;exact ads H enc W base args ds gs before hval hW hL
theorem adK:Rows.LimitedSaid :=
 OpenClaim.holds_of_cond 6 Tryz.f6 rfl rfl rfl rfl rfl rfl rfl ⟨rfl,rfl,rfl,rfl,rfl⟩ rfl rfl rfl rfl rfl (by kernel_rfl) Tryz.func6 (by kernel_rfl)
  (of_decide_eq_true (by kernel_rfl)) (by unfold Func.isWrapper;first|(rw[aai (by decide +kernel)];kernel_rfl)|(rw[aag (by decide +kernel)];exact⟨rfl,rfl⟩))
  (fun os started H enc _ F=>by rw[OpenClaim.pre_eq_preRow];exact adw os started H enc F)
theorem adE (f:FuncId)(fn:Func)(hf:Tryz.pinned.checked.prog.funcNamed "mosaic/mosaickeep.Limited"=some f)(hfn:Tryz.pinned.checked.prog.funcs[f]?=some fn): true=Tryz.pinned.checked.prog.looks []/\∀(j:Nat) t,fn.params[j]?=some t->Tryz.pinned.checked.prog.wantsStandIn t=false:=by
 obtain rfl:f=6:=aaN ((show Tryz.prog.funcNamed "mosaic/mosaickeep.Limited"=some 6 by kernel_rfl).symm.trans hf) |>.symm;obtain rfl:fn=Tryz.f6:=(aaN (Tryz.func6.symm.trans hfn)).symm;refine⟨by kernel_rfl,fun j t ht=>?_⟩;rw[Tryz.params6]at ht;have hm:=Array.mem_of_getElem? ht;simp only[List.mem_toArray,ab5,abC,or_false]at hm
 rcases hm with rfl|rfl|rfl|rfl|rfl|rfl <;>
  first
  | exact (show Tryz.prog.wantsStandIn 4=false by kernel_rfl)
  | exact (show Tryz.prog.wantsStandIn 3=false by kernel_rfl)
  | exact (show Tryz.prog.wantsStandIn 22=false by kernel_rfl)
theorem limited_card:Rows.LimitedCardSaid :=
 Claim7.holds_tied_plain_at .later [] _ _ _ _ adK (fun _ h=>by cases h) (by kernel_rfl) (fun _ h=>by cases h) limited_row_tie rfl ⟨rfl,rfl⟩ (by kernel_rfl) rfl adE (by kernel_rfl)
end
end Go.Proofs.YtmfijackgekioabGreatDoor
