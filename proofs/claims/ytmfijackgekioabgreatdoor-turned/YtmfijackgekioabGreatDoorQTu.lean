import Derived.Test.YtmfijackgekioabGreatDoorQ47
import Derived.Test.YtmfijackgekioabGreatDoorQ31
import Derived.JoinedCond
set_option maxHeartbeats 4000000
set_option maxRecDepth 100000
namespace Go.Proofs.YtmfijackgekioabGreatDoor
section
open Go.RowKit Go.Maps
theorem agy (kind width rK:Int)(ps:Bool)(ra:Option Addr)(rc:Nat)(raw:List Int)(level filter chunk at_ bit:Int)(w:World)(hk:I64 kind)(hw:I64 width)(hh:I64 rK)(hlv:I64 level)(hfl:I64 filter)(hck:I64 chunk)(hat:I64 at_)(hbt:I64 bit)(hraw:Ints w ra raw)(hra:∀a,ra=some a->raw≠[]->a.block<w.heap.size)(Vk:∀y∈raw,I64 y)(hrl:raw.length<=9223372036854775807)(tt:TypeId)(fr:Nat×Nat)(jX:w.heap[0]?=some (.cells cY tt fr)): Calls Tryz.prog 4 #[.int .i64 kind,.int .i64 width,.int .i64 rK,.bool ps,.slice ra raw.length rc,.int .i64 level,.int .i64 filter,.int .i64 chunk,.int .i64 at_,.int .i64 bit] w fun e w'=>e=.returned (.bool true)/\Below w.heap.size w w':=by
 have hpi:=Y0 kind width rK ps ra rc raw w hk hw hh hraw hra Vk hrl;have hse:=fun u=>YZ level filter chunk u hlv hfl hck;have hr3:=bH chunk (n:=300) (by omega);have hpk:=fun (n:Int) (u:World) (h1:0<n) (h2:n<=9223372036854775807)=>oO at_ n u hat.1 hat.2 h1 h2;have hpb:=fun (u:World)=>oO bit 8 u hbt.1 hbt.2 (by omega) (by omega);have hrb:=bH bit (n:=8) (by omega);obtain⟨kb,hkb⟩:∃k:Nat,cN bit 8=(k:Int):=⟨(cN bit 8).toNat,by omega⟩
 rw[hkb]at hpb hrb;have adQ:kb<8:=by omega
 have HPK:Hid (_):=hpk;have HPB:Hid (_):=hpb;have HTB:Hid (_):=jX;obtain⟨L,hL⟩:∃L,L=raw.length:=⟨_,rfl⟩
 rw[<-hL]at hpi ⊢;obtain⟨A,hA⟩:∃A,A=cN level 3:=⟨_,rfl⟩
 obtain⟨Fl,hFl⟩:∃Fl,Fl=cN filter 6:=⟨_,rfl⟩
 obtain⟨C,hC⟩:∃C,C=1+cN chunk 300:=⟨_,rfl⟩
 rw[<-hA,<-hFl,<-hC]at hse;have hCb:C<=300:=by omega
 clear hraw hra Vk hrl jX hL hA hFl hC hk hw hh hlv hfl hck hr3 hpk hat hbt hpb hrb hkb
 go_enter Tryz.func4,Tryz.ntmps4
 go_wp2_with fail;refine hpi.mono ?_;rintro e w2 ⟨h,aq,S,pa,pc,G,cap,rfl,hpf,hps,hsm,i1,i2,i3,hG,hcap,hlen,B2⟩;have ka:=ae w2 (.cells (bC h (.slice pa aq.length pc) (.slice (some ⟨G,0,none⟩) S.length cap)) 24);have q:=ah w2 (.cells (bC h (.slice pa aq.length pc) (.slice (some ⟨G,0,none⟩) S.length cap)) 24);have B3:=B2.trans (ka.mono B2.size);have Nc:Ii w2 pa aq (some ⟨G,0,none⟩) S tt fr:=⟨(B2.block _ (aac HTB.out)).trans HTB.out,i1,i2,by unfold maxLen;omega,i3,fun a ha _=>(by have e:=aaN ha;rw[<-e];exact hG),by unfold maxLen;omega⟩
 have hl3:=Nc.later ka;have dM:=EK h hpf.hd hsm.1 hsm.2;have z3:(w2.alloc (.cells (bC h (.slice pa aq.length pc) (.slice (some ⟨G,0,none⟩) S.length cap)) 24)).heap.size=w2.heap.size+1:=by simp
 obtain⟨x0,x1,x2,x3,x4,x5,x6⟩:=aR q;have HH:Hid (_/\_/\_/\_/\_/\_/\_/\_):=⟨hl3,q,B3,hpf,hcap,dM,hlen,hG⟩
 clear Nc hl3 B2 B3 hpf hps hsm i1 i2 i3 hpi ka hcap dM hlen;go_wp2_with fail;generalize hw4:w2.alloc (.cells (bC h (.slice pa aq.length pc) (.slice (some ⟨G,0,none⟩) S.length cap)) 24)=w4 at *;have hS:w4.drew.heap[w2.heap.size]?=some (.cells (bC h (.slice pa aq.length pc) (.slice (some ⟨G,0,none⟩) S.length cap)) 24 (0,0)):=q;clear q x0 x1 x2 x3 x4 x5 x6;refine ax (fun u=>u.heap[w2.heap.size]?=some (.cells (bC h (.slice pa aq.length pc) (.slice (some ⟨G,0,none⟩) S.length cap)) 24 (0,0))) 99 ?_;refine ap [0,1,2,3] ?_
 iterate 4 (refine ay (v:=?_) (T:=?_) ?ht ?hy hS ?_;(case hy=>intro w hSw;have xP := aR hSw; go_simp;try with_reducible rfl);case ht=>go_simp;try with_reducible rfl)
 refine aj ?_;refine ag 4 fun K hK=>?_;go_simp;refine (hse _).mono ?_;rintro e w5 ⟨rfl,hset,b5⟩;have IE:Below w4.heap.size w4 w5:=((aav _ w4).drew).trans b5;have zz5:=IE.size;have q5:=(IE.block _ (by omega)).trans HH.out.2.1;have B5:=HH.out.2.2.1.trans (IE.mono HH.out.2.2.1.size);have hl5:=HH.out.1.later IE;obtain⟨_,_,_,hpf,hcap,dM,hlen,hG⟩:=HH.out;have hfi:=afO h A Fl C aq S pa pc G cap w5 tt fr hl5 (by omega) hcap hpf hset hCb (by omega) hlen.1;have HH5:Hid (_/\_/\_):=⟨hl5,q5,B5⟩
 refine hK _ _ (fun _=>q5) ?_;clear hK K b5 IE hl5 q5 B5 hset hse hS hpf hcap dM hlen hG;refine ag 5 fun K hK=>?_;go_simp;refine hfi.mono ?_;rintro e w6 ⟨b,ds,B,ao,cp,rfl,own,hB,f1,f2,f3,f4,f5,b6⟩;obtain⟨hl5,q5,B5⟩:=HH5.out;have zz6:=b6.size;have q6:=(b6.block w2.heap.size (by omega)).trans q5;have B6:=B5.trans (b6.mono B5.size);have hl6:=hl5.later b6;have hlen:=HH.out.2.2.2.2.2.2.1;obtain⟨g,rfl,_,hgl,hpl⟩:=Ro own;have hsz:b.size=8+(aC (aN h aq ds)).length:=by rw[<-ba,f1,rL]
 have Q8:=ip (h:=h) (aq:=aq) (ds:=ds) (by omega) f3;have hpk:=fun u=>HPK.out (b.size:Int) u (by omega) (by omega);have hpr:=bH at_ (n:=(b.size:Int)) (by omega);obtain⟨i0,hk⟩:∃k:Nat,cN at_ (b.size:Int)=(k:Int):=⟨(cN at_ (b.size:Int)).toNat,by omega⟩
 rw[hk]at hpk hpr;have htr:=(Mq (aN h aq ds) 8 i0 Q8 (by omega)).1;obtain⟨I,hI⟩:∃I,I=xX (aN h aq ds) 8 i0:=⟨_,rfl⟩
 rw[<-hI,<-hsz]at htr;obtain⟨y,hy1,hy2⟩:=Vr (b:=b) (i:=I) (k:=kb) htr adQ;obtain⟨T,hT⟩:∃T:ByteArray,T=⟨(b.data.toList.set I y).toArray⟩:=⟨_,rfl⟩
 have hTs:T.size=b.size:=by rw[<-ba,hT];show (b.data.toList.set I y).length=_;rw[aaW,ba]
 have hdc:cJ T 4194304=.error (if I<8 then 10 else 11):=by
  rw[hI]at hy2 hT ⊢;exact Qa f1 (by omega) f3 (i0:=i0) (by omega) (by rw[hT]) hy2 4194304
 have hde:=fun u (hu:Below w6.heap.size w6 u)=>ZO T 4194304 u (by omega) tt fr (hl6.later hu).tab;have U6:Hid (_):=hde;obtain⟨LL,hLL⟩:∃LL,LL=aN h aq ds:=⟨_,rfl⟩
 have hM:(iX 8 (aN h aq ds)).length=LL.length+1:=by rw[zx,hLL]
 rw[hM];rw[<-hLL]at hpl Q8 hI hsz;have zJ:Hid (_/\_/\_):=⟨q6,B6,hdc⟩
 have Ct:Hid (_/\_/\_):=⟨hpl,Q8,hsz⟩
 have HI:Hid (I=xX LL 8 i0):=hI;have HY:Hid (_/\_):=⟨hy1,hT⟩
 refine hK _ _ (fun _=>q6) ?_;have hbs:b.size<=1000000:=f5;have hi0:i0<b.size:=by omega
 clear hK K hfi b6 hl5 q5 B5 own hB f1 f2 f3 f4 f5 hl6 q6 B6 hde HH5 hlen hk hM hLL hpl Q8 hI hdc hT hy1 hy2 hsz hTs hpr;have hTr:w6.heap[w2.heap.size]?=some (.cells (bC h (.slice pa aq.length pc) (.slice (some ⟨G,0,none⟩) S.length cap)) 24 (0,0)):=zJ.out.1;refine ap [6,7,8,9,10,11,12] ?_
 iterate 7 (refine ay (v:=?_) (T:=?_) ?ht ?hy hTr ?_;(case hy=>intro w hSw;(try dsimp only at hSw); go_simp;try with_reducible rfl);case ht=>go_simp;try with_reducible rfl)
 refine aj ?_;refine am ?_;clear hTr;have hk1:(i0:Int)<=(b.size:Int):=by omega
 go_wp2_with fail;refine (hpk _).mono ?_;rintro e w7 ⟨rfl,hw7⟩;rw[hw7];clear hw7 w7 hpk
 have hL9:LL.length<=1000000:=by
  have h1:=zM LL Ct.out.2.1;have h2:=Ct.out.2.2;omega
 obtain⟨cp2,N,W1,hcv,hrow,hN,hBW⟩:=UH b w6;have HW:Hid (_/\_):=⟨hrow,hBW⟩
 clear hrow hBW;go_wp2
 go_loop [25,26] (fun iv kv=>∃(A B:List Ch) (i:Nat),Hid (LL=A++B)/\iv=.int .i64 (i:Nat)/\kv=.int .i64 (A.length:Nat)/\Hid (xX B (8+(aC A).length) i=I)) (fun _ kv=>LL.length-(intOf kv).toNat)
 case atStart=>exact⟨[],LL,i0,rfl,rfl,rfl,HI.out.symm⟩
 case round =>
  obtain⟨A',B',i,HA,rfl,rfl,HT⟩:=hrel;have hiI:i<=I:=by rw[<-HT.out];exact Mp _ _ _
  have RV:A'.length+B'.length=LL.length:=by rw[HA.out,aae]
  obtain⟨n,hn⟩:∃n,n=A'.length:=⟨_,rfl⟩
  have HN:Hid (n=A'.length):=hn;rw[<-hn]at RV ⊢;clear hn;cases B' with
  | cons c r =>
   rw[aaw]at RV;have hq:(n:Int)+1<((LL.length+1:Nat):Int):=by omega
   have hq':(n:Int)<((LL.length+1:Nat):Int):=by omega
   obtain⟨p,hP⟩:∃p,p=8+(aC A').length:=⟨_,rfl⟩
   have Z5:∀x∈A',k8 x:=fun x hx=>Ct.out.2.1 x (by rw[HA.out];exact List.mem_append_left _ hx);have hc:k8 c:=Ct.out.2.1 c (by rw[HA.out];exact List.mem_append_right _ abo)
   have hcell:w6.cell? ⟨g,n,none⟩=some (.int .i64 (p:Int)):=by
    rw[Ct.out.1 n (by omega),HN.out,HA.out,Ub A' (c::r) 8 Z5,hP]
   have hpb:p<=1000000:=by
    have h2:=Ct.out.2.2;rw[HA.out,jG,aae]at h2;omega
   have HST:Hid (_):=Zb (A:=A') (B:=r) (i:=i) hc hP;rw[<-hP]at HT;have HR:Hid (LL=(A'++[c])++r):=by rw[aar];exact HA.out
   clear Z5 hc hP HA;by_cases c1:p<=i
   ·have c1':(i:Int)≥(p:Int):=by omega
    by_cases c2:i<p+4
    ·have c2':(i:Int)<(p:Int)+4:=by omega
     go_wp2
     go_round
     case rel=>exact⟨A'++[c],r,p+4,HR,by go_num,by rw[aae,<-HN.out];go_num,by show _=_;rw[<-HT.out,HST.out,aai ⟨c1,c2⟩]⟩
     case measure=>simp[intOf];omega
    ·have c2':¬(i:Int)<(p:Int)+4:=by omega
     go_wp2
     go_round
     case rel=>exact⟨A'++[c],r,i,HR,rfl,by rw[aae,<-HN.out];go_num,by show _=_;rw[<-HT.out,HST.out,aag (by omega)]⟩
     case measure=>simp[intOf];omega
   ·have c1':¬(i:Int)≥(p:Int):=by omega
    go_wp2
    go_round
    case rel=>exact⟨A'++[c],r,i,HR,rfl,by rw[aae,<-HN.out];go_num,by show _=_;rw[<-HT.out,HST.out,aag (by omega)]⟩
    case measure=>simp[intOf];omega
  | nil =>
   rw[acm]at RV;have hq:¬(n:Int)<(LL.length:Int):=by omega
   have hn9:n<=1000000:=by omega
   obtain rfl:i=I:=HT.out;clear HN HA HT RV hiI HI Ct;go_wp2_with fail;have hXi:=bytesRow_at (b:=b) (cap:=cp2) htr;obtain⟨X,hX⟩:∃X,X=af b i:=⟨_,rfl⟩
   have hX2:X<256:=by rw[hX];exact cu b i
   have aeq:bits .xor .u8 (X:Int) ((2:Int)^min kb 8%256)=(y.toNat:Int):=by
    have e2:(2:Int)^min kb 8%256=((2^kb:Nat):Int):=by
     have h2:2^kb<2^8:=Nat.pow_lt_pow_right (by omega) adQ;have e3:(2:Int)^kb=((2^kb:Nat):Int):=by simp
     have key:∀z:Nat,z<256->(z:Int)%256=(z:Int):=fun z hz=>by omega
     rw[Nat.min_eq_left (by omega),e3];exact key _ h2
    have h2:2^kb<2^8:=Nat.pow_lt_pow_right (by omega) adQ;rw[e2,u8_xor_nat X _ hX2 h2,HY.out.1,hX]
   rw[<-hX]at hXi;have HX:Hid (_):=hXi;have HKB:Hid (kb<8):=adQ;have hzz:W1.heap.size=W1.heap.size:=rfl;have hS:W1.drew.heap[w6.heap.size]?=some (.cells (bytesRow b cp2) 5 (N,N+1)):=HW.out.1;clear hX hX2 hXi adQ;refine ax (fun u=>u.heap[w6.heap.size]?=some (.cells (bytesRow b cp2) 5 (N,N+1))) 11 ?_;refine ap [0,1,2,3,4,5,6] ?_
   iterate 7 (refine ay (v:=?_) (T:=?_) ?ht ?hy hS ?_;(case hy=>intro w hSw;have xP : w.cell? ⟨w6.heap.size, i, none⟩ = some (.int .u8 (X : Int)) := (aas _ _ _ _ _ _ hSw).trans HX.out; go_simp;try with_reducible rfl);case ht=>go_simp;try with_reducible rfl)
   refine aj ?_;refine ag 7 fun K hK=>?_;go_simp;refine (HPB.out _).mono ?_;rintro e w8 ⟨rfl,hw8⟩;rw[hw8];refine hK _ _ (fun _=>hS) ?_;clear hK K hw8 w8;have hsc:¬(kb:Int)<0:=by omega
   refine ap [8,9,10] ?_
   iterate 3 (refine ay (v:=?_) (T:=?_) ?ht ?hy hS ?_;(case hy=>intro w hSw;(try dsimp only at hSw); go_simp;try with_reducible rfl);case ht=>go_simp;try with_reducible rfl)
   refine aj ?_;have hc0:W1.drew.cell? ⟨w6.heap.size,i,none⟩=some (.int .u8 (X:Int)):=(aas _ _ _ _ _ _ hS).trans HX.out
   have hz0:W1.drew.frozen? ⟨w6.heap.size,i,none⟩=false:=by
    unfold World.frozen?;rw[hS];simp;omega
   refine ag 11 fun K hK=>?_;go_simp
   (try rw[aeq])
   refine hK _ _ (fun h=>absurd rfl h) ?_;clear hK K;refine am ?_
   have hrow2:(W1.setCell ⟨w6.heap.size,i,none⟩ (.int .u8 (y.toNat:Nat))).drew.heap[w6.heap.size]?=some (.cells ((bytesRow b cp2).setIfInBounds i (.int .u8 (y.toNat:Nat))) 5 (N,N+1)):=by
    have h9:=HW.out.1;show (W1.setCell ⟨w6.heap.size,i,none⟩ (.int .u8 (y.toNat:Nat))).heap[w6.heap.size]?=_;rw[setCell_eq_setRow _ _ _ _ _ _ _ h9];exact setRow_heap _ _ _ _ _ _ h9
   have hbk:=Rp hrow2 htr;rw[<-HY.out.2]at hbk;have hB2:Below w6.heap.size w6 (W1.setCell ⟨w6.heap.size,i,none⟩ (.int .u8 (y.toNat:Nat))).drew:=(HW.out.2.setCell (p:=⟨w6.heap.size,i,none⟩) (aaf _) _).drew;have hde:=U6.out _ hB2;have HB2:Hid (_):=zJ.out.2.1.trans (hB2.mono zJ.out.2.1.size);clear hS hc0 hz0 hrow2 hB2 hcv U6 HW HX;go_wp2_with fail;refine hde.mono ?_;intro e w8 he;cases he with
   | ok h1=>rw[zJ.out.2.2]at h1;cases h1
   | @no _ c' h1 b8 =>
    have ec:c'=if i<8 then 10 else 11:=by rw[zJ.out.2.2]at h1;injection h1 with h1;exact h1.symm
    have B8:=HB2.out.trans (b8.mono HB2.out.size);have ka:=ae w8 (.cells bq 24);have qa:=ah w8 (.cells bq 24);obtain⟨x0,x1,x2,x3,x4,x5,x6⟩:=aR qa;have HF:Hid (_):=B8.trans (ka.mono B8.size);clear b8 B8 ka qa h1 hde HB2 aeq hbk;by_cases h8:i<8
    ·rw[aai h8]at ec;subst ec;have h8':(i:Int)<8:=by omega
     clear zJ;go_wp2
     go_ret
     exact⟨rfl,HF.out⟩
    ·rw[aag h8]at ec;subst ec;have h8':¬(i:Int)<8:=by omega
     clear zJ;go_wp2
     go_ret
     exact⟨rfl,HF.out⟩
end
section
open Go.ChangeShapes Go.WideShapes Go.ChangeAt Go.RowKit Go.Joins
open Go.ChangeMaps (open_string shut_string)
theorem adC (H:Type)(enc:TypeId×Value->H)(W:World)(base:Nat)(args:Array Value)(ds gs:List (DataW H))(before:List MemPlace)(hval:∀(j:Nat) t v,Tryz.f4.params[j]?=some t->args[j]?=some v->Value.okWide Tryz.prog W .any base t v)(hW:DataW.Whole enc Tryz.prog Tryz.f4.params.toList Rows.turnedSpec.vars false W args.toList ds gs before)(hL:laidMetH Tryz.prog Rows.turnedRow.laid W): Calls Tryz.prog 4 args W fun e W'=>∃v,e=.returned v/\Rows.turnedSpec.post enc Tryz.prog Tryz.f4 false true false false W args v W':=by
 have hW':=hW;obtain⟨p,q,hA0,hV,rfl,hfz,hnd⟩:=hW;have hA:DataW.TrodAll enc Tryz.prog W 0 (fun _=>true) true Tryz.f4.params.toList args.toList ds p:=hA0;rw[Tryz.params4]at hA hval;obtain⟨v0,vs0,d0,ds0,p0,q0,hargs,rfl,rfl,h0,r0⟩:=trodAll_cons hA;obtain⟨v1,vs1,d1,ds1,p1,q1,adI,rfl,rfl,h1,r1⟩:=trodAll_cons r0;obtain⟨v2,vs2,d2,ds2,p2,q2,adJ,rfl,rfl,h2,r2⟩:=trodAll_cons r1;obtain⟨v3,vs3,d3,ds3,p3,q3,adK,rfl,rfl,h3,r3⟩:=trodAll_cons r2;obtain⟨v4,vs4,d4,ds4,p4,q4,adL,rfl,rfl,h4,r4⟩:=trodAll_cons r3;obtain⟨v5,vs5,d5,ds5,p5,q5,adM,rfl,rfl,h5,r5⟩:=trodAll_cons r4;obtain⟨v6,vs6,d6,ds6,p6,q6,aea,rfl,rfl,h6,r6⟩:=trodAll_cons r5;obtain⟨v7,vs7,d7,ds7,p7,q7,aeb,rfl,rfl,h7,r7⟩:=trodAll_cons r6;obtain⟨v8,vs8,d8,ds8,p8,q8,aec,rfl,rfl,h8,r8⟩:=trodAll_cons r7;obtain⟨v9,vs9,d9,ds9,p9,q9,agG,rfl,rfl,h9,r9⟩:=trodAll_cons r8;obtain⟨rfl,rfl,rfl⟩:=trodAll_nil r9;obtain rfl:args=#[v0,v1,v2,v3,v4,v5,v6,v7,v8,v9]:=by cases args;simp_all
 obtain⟨rfl,rfl⟩:=trodVars_none hV;obtain⟨x0,rfl,rfl,rfl,hm0⟩:=open_int Tryz.underlying3 (hval 0 3 v0 rfl rfl) h0;obtain⟨x1,rfl,rfl,rfl,hm1⟩:=open_int Tryz.underlying3 (hval 1 3 v1 rfl rfl) h1;obtain⟨x2,rfl,rfl,rfl,hm2⟩:=open_int Tryz.underlying3 (hval 2 3 v2 rfl rfl) h2;obtain⟨x3,rfl,rfl,rfl⟩:=open_bool Tryz.underlying4 (hval 3 4 v3 rfl rfl) h3;obtain⟨ra,rc,raw,rfl,i4,b4,m4,w4⟩:=Y8 (hval 4 22 v4 rfl rfl) h4;obtain⟨x5,rfl,rfl,rfl,hm5⟩:=open_int Tryz.underlying3 (hval 5 3 v5 rfl rfl) h5;obtain⟨x6,rfl,rfl,rfl,hm6⟩:=open_int Tryz.underlying3 (hval 6 3 v6 rfl rfl) h6;obtain⟨x7,rfl,rfl,rfl,hm7⟩:=open_int Tryz.underlying3 (hval 7 3 v7 rfl rfl) h7;obtain⟨x8,rfl,rfl,rfl,hm8⟩:=open_int Tryz.underlying3 (hval 8 3 v8 rfl rfl) h8;obtain⟨x9,rfl,rfl,rfl,hm9⟩:=open_int Tryz.underlying3 (hval 9 3 v9 rfl rfl) h9;obtain⟨tt,fr,hT⟩:=table hL;clear hA0;simp only[abm,aa9]at hW';refine (agy x0 x1 x2 x3 ra rc raw x5 x6 x7 x8 x9 W (Jc hm0) (Jc hm1) (Jc hm2) (Jc hm5) (Jc hm6) (Jc hm7) (Jc hm8) (Jc hm9) i4 b4 w4 (by unfold maxLen at m4;omega) tt fr hT).mono fun e W' ⟨he,hg⟩=>?_;subst he;have h4':=Below.trod Tryz.laidOut (by kernel_rfl) (of_decide_eq_true (by kernel_rfl)) h4 hg (fun x hx=>by simpa using hW'.lt x hx);refine⟨_,rfl,_,_,_,[],p4,[],hW',trodAll_cons_mk (shut_bool Tryz.underlying4 _) trodAll_mk0,?_,rfl,hg.frame _,fun h=>by cases h⟩;have hall:=trodAll_cons_mk (shut_int Tryz.underlying3 hm0) (trodAll_cons_mk (shut_int Tryz.underlying3 hm1) (trodAll_cons_mk (shut_int Tryz.underlying3 hm2) (trodAll_cons_mk (shut_bool Tryz.underlying4 x3) (trodAll_cons_mk h4' (trodAll_cons_mk (shut_int Tryz.underlying3 hm5) (trodAll_cons_mk (shut_int Tryz.underlying3 hm6) (trodAll_cons_mk (shut_int Tryz.underlying3 hm7) (trodAll_cons_mk (shut_int Tryz.underlying3 hm8) (trodAll_cons_mk (shut_int Tryz.underlying3 hm9) trodAll_mk0)))))))));simp only[abm,aa9]at hall;exact hall
noncomputable def adr (os:Os):World :=
 { World.holding Tryz.prog os ⟨#[],#[],[]⟩ with heap:=(World.holding Tryz.prog os ⟨#[],#[],[]⟩).heap.modify 0 fun
   | .cells _ t frozen=>.cells cY t frozen
   | o=>o }
def adv:Array Value:=#[.int .i64 0,.int .i64 0,.int .i64 0,.bool false,.slice none 0 0,.int .i64 0,.int .i64 0,.int .i64 0,.int .i64 0,.int .i64 0]
theorem adD (os:Os):laidMet Tryz.prog Rows.turnedRow.laid ((adr os).forCall (fun _ _=>0) ⟨#[],adv,[]⟩).memory :=
 laidMet_of_run' 8 (by kernel_rfl) (by kernel_rfl)
theorem ad1 (os:Os){H:Type}(enc:TypeId×Value->H):∃places,DataW.whole enc Tryz.prog ((adr os).forCall (fun _ _=>0) ⟨#[],adv,[]⟩).memory Tryz.f4.params.toList Rows.turnedSpec.vars false adv.toList 8=some ([.lit (.int .i64 0),.lit (.int .i64 0),.lit (.int .i64 0),.lit (.bool false),.nil,.lit (.int .i64 0),.lit (.int .i64 0),.lit (.int .i64 0),.lit (.int .i64 0),.lit (.int .i64 0)],[],places) :=
 ⟨[],by kernel_rfl⟩
theorem adR (os:Os)(started:os.Started)(H:Type)(enc:TypeId×Value->H)(F:Stop.Interp): ReturnsInHanded {} Tryz.checked os 4 .any ((OpenSpec.ofChange Rows.turnedSpec).preRow enc Tryz.prog Tryz.f4 Rows.turnedRow.domain false Rows.turnedRow.laid) (((OpenSpec.ofChange Rows.turnedSpec).at F).post enc Tryz.prog Tryz.f4 false true false false):=by
 obtain⟨places,hx⟩:=ad1 os enc
 refine returnsInHanded_of_row (C:=Tryz.checked) (s:=OpenSpec.ofChange Rows.turnedSpec) Tryz.own started (by kernel_rfl) Tryz.func4
  (witness_row_at (enc:=enc) (C:=Tryz.checked) false (adr os) adv rfl (by kernel_rfl) (by kernel_rfl) (by kernel_rfl)
   (OpenSpec.preRow_of_cond 8 hx (by kernel_rfl) (fun k hk=>by cases hk) (by kernel_rfl) (adD os))) ?_
 intro W base args ds gs before hval hW _ _ _ hL _ _;exact adC H enc W base args ds gs before hval hW hL
theorem aeg:Rows.TurnedSaid :=
 OpenClaim.holds_of_cond 4 Tryz.f4 rfl rfl rfl rfl rfl rfl rfl ⟨rfl,rfl,rfl,rfl,rfl⟩ rfl rfl rfl rfl rfl (by kernel_rfl) Tryz.func4 (by kernel_rfl)
  (of_decide_eq_true (by kernel_rfl)) (by unfold Func.isWrapper;first|(rw[aai (by decide +kernel)];kernel_rfl)|(rw[aag (by decide +kernel)];exact⟨rfl,rfl⟩))
  (fun os started H enc _ F=>by rw[OpenClaim.pre_eq_preRow];exact adR os started H enc F)
theorem ad2 (f:FuncId)(fn:Func)(hf:Tryz.pinned.checked.prog.funcNamed "mosaic/mosaickeep.Turned"=some f)(hfn:Tryz.pinned.checked.prog.funcs[f]?=some fn): true=Tryz.pinned.checked.prog.looks []/\∀(j:Nat) t,fn.params[j]?=some t->Tryz.pinned.checked.prog.wantsStandIn t=false:=by
 obtain rfl:f=4:=aaN ((show Tryz.prog.funcNamed "mosaic/mosaickeep.Turned"=some 4 by kernel_rfl).symm.trans hf) |>.symm;obtain rfl:fn=Tryz.f4:=(aaN (Tryz.func4.symm.trans hfn)).symm;refine⟨by kernel_rfl,fun j t ht=>?_⟩;rw[Tryz.params4]at ht;have hm:=Array.mem_of_getElem? ht;simp only[List.mem_toArray,ab5,abC,or_false]at hm
 rcases hm with rfl|rfl|rfl|rfl|rfl|rfl|rfl|rfl|rfl|rfl <;>
  first
  | exact (show Tryz.prog.wantsStandIn 4=false by kernel_rfl)
  | exact (show Tryz.prog.wantsStandIn 3=false by kernel_rfl)
  | exact (show Tryz.prog.wantsStandIn 22=false by kernel_rfl)
theorem turned_card:Rows.TurnedCardSaid :=
 Claim7.holds_tied_plain_at .later [] _ _ _ _ aeg (fun _ h=>by cases h) (by kernel_rfl) (fun _ h=>by cases h) turned_row_tie rfl ⟨rfl,rfl⟩ (by kernel_rfl) rfl ad2 (by kernel_rfl)
end
end Go.Proofs.YtmfijackgekioabGreatDoor
