import Derived.Test.YtmfijackgekioaaGreatDoorQ33
import Derived.Test.YtmfijackgekioaaGreatDoorQ35
import Derived.Test.YtmfijackgekioaaGreatDoorQ47
import Derived.JoinedCond
set_option maxHeartbeats 4000000
set_option maxRecDepth 100000
namespace Go.Proofs.YtmfijackgekioaaGreatDoor
section
open Go.RowKit Go.Maps
inductive Nk (fc:Int) (h:Hd) (aK S:List Int) (lv fl ck:Int):ByteArray->Int->Prop
 | bad:fc≠0->Nk fc h aK S lv fl ck ⟨#[]⟩ fc
 | set:fc=0->dy lv fl ck=false->Nk fc h aK S lv fl ck ⟨#[]⟩ 5
 | ok {T X:ByteArray} {ds:List ByteArray} {b:ByteArray}:fc=0->fk h aK S->dy lv fl ck=true->(T.size:Int)=mM h->Pm.Written (gT h) S (ae T) fl.toNat h.ps->jV T X lv.toNat->Ec X X.size ck.toNat ds->b.data.toList=qY h aK ds->Nk fc h aK S lv fl ck b 0
theorem CC.u {h:Hd}{aK S:List Int}{lv fl ck:Int}{w:World}{e:Ending}{w':World}(H:CC h aK S lv fl ck w e w'){fc:Int}(hf:fc=Pm.check h.wd h.ht h.kd h.dp h.ps aK S):(∃b c,e=.returned (.tuple #[.string b,.int .i64 c])/\Nk fc h aK S lv fl ck b c)/\Below w.heap.size w w':=by
 refine⟨?_,H.2⟩;rcases H.1 with⟨h1,h2⟩|⟨h1,h2,h3⟩|⟨h1,h2,T,X,ds,b,h3,t1,t2,t3,t4,t5⟩
 ·exact⟨_,_,h2,by rw[<-hf]at h1 ⊢;exact .bad h1⟩
 ·exact⟨_,_,h3,.set (hf.trans ((uk h aK S).2 h1)) h2⟩
 ·exact⟨_,_,h3,.ok (hf.trans ((uk h aK S).2 h1)) h1 h2 t1 t2 t3 t4 t5⟩
theorem KC (wd ht kd dp:Int)(ps:Bool)(pa:Option Addr)(pc:Nat)(pz:List Int)(sa:Option Addr)(sc:Nat)(sz:List Int)(lv fl ck:Int)(w:World)(tt:TypeId)(fr:Nat×Nat)(hl:tM w pa pz sa sz tt fr)(h1:pz.length<=17592186044416)(h2:sz.length<=17592186044416): Calls Tryz.prog 4 #[img wd ht kd dp ps (.slice pa pz.length pc) (.slice sa sz.length sc),.agg #[.int .i64 lv,.int .i64 fl,.int .i64 ck]] w fun e w'=>e=.returned (.bool true)/\Below w.heap.size w w':=by
 obtain⟨k0,q0,q1⟩:=bO w (.cells #[.int .i64 wd,.int .i64 ht,.int .i64 kd,.int .i64 dp,.bool ps,.slice pa pz.length pc,.slice sa sz.length sc] 30) (.cells #[.int .i64 lv,.int .i64 fl,.int .i64 ck] 32);have hh:=MI wd ht kd dp ps pa pc pz sa sc sz _ tt fr (hl.later k0) h1 h2;obtain⟨x0,x1,x2,x3,x4,x5,x6⟩:=aI q0;obtain⟨y0,y1,y2⟩:=fm q1;have HQ:Hid (_/\_/\_/\_):=⟨hl.later k0,k0,q0,q1⟩
 have hst:=fun u g1 g2 l4 F1 F2=>Qo wd ht kd dp ps pa pc pz sa sc sz g1 g2 u tt fr l4 h1 h2 F1 F2;have HST:Hid (_):=hst;obtain⟨fc,hfc⟩:∃fc,fc=Pm.check wd ht kd dp ps pz sz:=⟨_,rfl⟩
 have HFC:Hid (_):=hfc;clear hl k0 q0 q1 hst hfc
 go_enter Tryz.func4,Tryz.ntmps4
 go_wp2_with fail;refine hh.mono ?_;rintro e w1 ⟨g1,g2,rfl,F1,F2,b1⟩;have kb:=ag w1 (.cells #[.int .i64 wd,.int .i64 ht,.int .i64 kd,.int .i64 dp,.bool ps,.slice (some ⟨g1,0,none⟩) pz.length (pz.length+2),.slice (some ⟨g2,0,none⟩) sz.length (sz.length+2)] 30);have qh:=ak w1 (.cells #[.int .i64 wd,.int .i64 ht,.int .i64 kd,.int .i64 dp,.bool ps,.slice (some ⟨g1,0,none⟩) pz.length (pz.length+2),.slice (some ⟨g2,0,none⟩) sz.length (sz.length+2)] 30);have q0:=(kb.block w.heap.size (aar (aab HQ.out.2.2.1) b1.size)).trans ((b1.block w.heap.size (aab HQ.out.2.2.1)).trans HQ.out.2.2.1);have q1:=(kb.block (w.heap.size+1) (aar (aab HQ.out.2.2.2) b1.size)).trans ((b1.block (w.heap.size+1) (aab HQ.out.2.2.2)).trans HQ.out.2.2.2);have l2:=(HQ.out.1.later b1).later kb;have B2:=HQ.out.2.1.trans ((b1.trans (kb.mono b1.size)).mono HQ.out.2.1.size);have G1:=F1.later kb (aab F1);have G2:=F2.later kb (aab F2)
 have lh:tM (w1.alloc (.cells #[.int .i64 wd,.int .i64 ht,.int .i64 kd,.int .i64 dp,.bool ps,.slice (some ⟨g1,0,none⟩) pz.length (pz.length+2),.slice (some ⟨g2,0,none⟩) sz.length (sz.length+2)] 30)) (some ⟨g1,0,none⟩) pz (some ⟨g2,0,none⟩) sz tt fr :=
  ⟨l2.tab,G1.ints,fun a e _=>by cases e;exact aab G1,l2.hpm,G2.ints,fun a e _=>by cases e;exact aab G2,l2.hsm⟩
 have hen:=(Ni ⟨wd,ht,kd,dp,ps⟩ lv fl ck pz sz (some ⟨g1,0,none⟩) (pz.length+2) g2 (sz.length+2) _ tt fr lh (aab G2) (by omega)).mono fun e w' h=>h.u HFC.out;obtain⟨z0,z1,z2,z3,z4,z5,z6⟩:=aI qh;obtain⟨u0,u1,u2⟩:=fm q1;have HW2:Hid (_/\_/\_/\_/\_/\_/\_):=⟨l2,B2,q0,q1,qh,G1,G2⟩
 have zz2:=aab q1;clear hh x0 x1 x2 x3 x4 x5 x6 y0 y1 y2 HQ b1 F1 F2 kb q0 q1 l2 B2 G1 G2 lh qh;go_wp2_with fail;refine hen.mono ?_;rintro e w3 ⟨⟨b,c,rfl,hu⟩,b3⟩;obtain⟨l2,B2,q0,q1,qh,G1,G2⟩:=HW2.out;have pI:=(b3.block w.heap.size (aab q0)).trans q0;have q1':=(b3.block (w.heap.size+1) (aab q1)).trans q1;have qh':=(b3.block w1.heap.size (aab qh)).trans qh;have l3:=l2.later b3;have B3:=B2.trans (b3.mono B2.size);have hst:=HST.out w3 g1 g2 l3 (G1.later b3 (aab G1)) (G2.later b3 (aab G2));clear z0 z1 z2 z3 z4 z5 z6 u0 u1 u2 zz2;obtain⟨z0,z1,z2,z3,z4,z5,z6⟩:=aI qh';obtain⟨x0,x1,x2,x3,x4,x5,x6⟩:=aI pI;have HW3:Hid (_/\_/\_/\_):=⟨l3,B3,pI,q1'⟩
 have HU:Hid (_):=hu;clear hen HW2 b3 hu l2 B2 q0 q1 qh G1 G2 pI q1' qh' l3 B3 HST;go_wp2_with fail;refine hst.mono ?_;rintro e w4 ⟨rfl,b4⟩;obtain⟨l3,B3,q0,q1⟩:=HW3.out;have pI:=(b4.block w.heap.size (aab q0)).trans q0;have q1':=(b4.block (w.heap.size+1) (aab q1)).trans q1;have l4:=l3.later b4;have B4:=B3.trans (b4.mono B3.size);have hck:=Qm wd ht kd dp ps pa pc pz sa sc sz w4 tt fr l4;rw[<-HFC.out]at hck;clear z0 z1 z2 z3 z4 z5 z6 x0 x1 x2 x3 x4 x5 x6;obtain⟨x0,x1,x2,x3,x4,x5,x6⟩:=aI pI;have JG:Hid (_/\_/\_/\_):=⟨l4,B4,pI,q1'⟩
 clear hst HW3 b4 l3 B3 q0 q1 pI q1' l4 B4;go_wp2_with fail;refine hck.mono ?_;rintro e w5 ⟨rfl,b5⟩;obtain⟨l4,B4,q0,q1⟩:=JG.out;have pI:=(b5.block w.heap.size (aab q0)).trans q0;have q1':=(b5.block (w.heap.size+1) (aab q1)).trans q1;have hse:=KA lv fl ck w5;clear x0 x1 x2 x3 x4 x5 x6;obtain⟨u0,u1,u2⟩:=fm q1';have Oc:Hid (_/\_/\_/\_):=⟨l4.later b5,B4.trans (b5.mono B4.size),pI,q1'⟩
 clear hck JG b5 q0 q1 pI q1' l4 B4;go_wp2_with fail;refine hse.mono ?_;rintro e w6 ⟨rfl,b6⟩;obtain⟨l5,B5,q0,q1⟩:=Oc.out;have nI:Hid (_/\_/\_/\_):=⟨l5.later b6,B5.trans (b6.mono B5.size),(b6.block w.heap.size (aab q0)).trans q0,(b6.block (w.heap.size+1) (aab q1)).trans q1⟩
 clear hse Oc b6 q0 q1 l5 B5 u0 u1 u2;obtain⟨st,hst⟩:∃st,st=dy lv fl ck:=⟨_,rfl⟩
 rw[<-hst];have hu:=HU.out;clear HU;cases hu with
 | bad h0 =>
  have e0:(fc==0)=false:=aam.2 h0;have e1:(fc != 0)=true:=by simp[h0]
  have e2:(fc != fc)=false:=by simp
  clear h0 hst;go_wp2
  go_ret
  exact⟨rfl,nI.out.2.1⟩
 | set h0 h5 =>
  rw[h5]at hst;subst h0 hst;clear h5;go_wp2
  go_ret
  exact⟨rfl,nI.out.2.1⟩
 | @ok T X ds b h0 hpf h5 t1 t2 t3 t4 t5 =>
  rw[h5]at hst;subst h0 hst;simp only[dy,aaJ,aaH]at h5;obtain⟨⟨a1,a2⟩,⟨a3,a4⟩,a5,a6⟩:=h5;obtain⟨Ow,rfl⟩:∃x:Nat,lv=(x:Int):=⟨lv.toNat,by omega⟩
  obtain⟨Ei,rfl⟩:∃x:Nat,fl=(x:Int):=⟨fl.toNat,by omega⟩
  obtain⟨Wk,rfl⟩:∃x:Nat,ck=(x:Int):=⟨ck.toNat,by omega⟩
  have hdd:=Pm.bp _ _ hpf.hd.ch;have hwd:=hpf.hd.wd;have hht:=hpf.hd.ht;dsimp only at hdd hwd hht;obtain⟨W,rfl⟩:∃W:Nat,wd=(W:Int):=⟨wd.toNat,by omega⟩
  obtain⟨H,rfl⟩:∃H:Nat,ht=(H:Int):=⟨ht.toNat,by omega⟩
  obtain⟨D,rfl⟩:∃D:Nat,dp=(D:Int):=⟨dp.toNat,by omega⟩
  obtain⟨n,hn⟩:∃n:Nat,Pm.chan kd D=(n:Int):=⟨(Pm.chan kd D).toNat,by have:=(Pm.cm kd D).1;omega⟩
  simp only[aa5]at t2 t3 t4;have hF:=CF rfl hn hpf t1 t2 t3 t4 (by omega) t5;have hpo:gT ⟨W,H,kd,D,ps⟩=⟨W,H,n,D⟩:=by unfold gT;dsimp only;rw[hn];simp
  have Uu:Hid (N9 W H n D Ei ps T):=fun h5 i hi hC j hj=>by
   rw[hpo]at t2;exact Kz t2 h5 i hi hC j hj
  have hlen:=qy ⟨W,H,kd,D,ps⟩ pz ds;have hdn:ds≠[]:=wy t4 (t3.size (by have:=hF.few;omega)).2;have hds:0<ds.length:=List.length_pos_iff.2 hdn;have Zg:1<=jC ⟨W,H,kd,D,ps⟩:=by unfold jC;split<;>omega
  have hah:jC ⟨W,H,kd,D,ps⟩=if kd=3 then 2 else 1:=rfl
  have hmid:=Gq ⟨W,H,kd,D,ps⟩ pz ds Wk (fun d hd=>(t4.few d hd).2);have MR:=Gp ⟨W,H,kd,D,ps⟩ pz ds;have hcz:=px hF.chunks;have V3:(b.extract 8 b.size).size<=60000000:=by rw[aa7];have:=hF.size;omega
  have hjs:=(tX hF.ord).1;dsimp only at hjs;obtain⟨P,Wb,ks,hX,p1,p2,p3,p4⟩:=t3;have hrt:=fun u=>Nj P T Ow Wb ks u (by omega) p1 p2 p3 p4 (by have:=hF.few;omega);have Wl:X.size=P.size+2+4:=by rw[hX,gB]
  have hex:X.extract 2 (P.size+2)=P:=by
   have h:=yj P T;rw[gB,show P.size+6-4=P.size+2 by omega,<-hX]at h;exact h
  have VB:=hF.dsz;dsimp only at VB
  have ae4:sz.length<=100000000:=by
   have h:=hpf.fits.len;rw[hpo]at h;rw[h];show W*H*n<=_;have:W*H*n<=5000*5000*4:=aaA (aaA hF.wd.2 hF.ht.2) hF.n4.2;omega
  have ae5:=hF.Uw;generalize bZ ⟨W,H,kd,D,ps⟩ pz ds=L at *;have hde:=MH b L _ W H D n kd ps pz sz T w6 hF
  have hraw:Pm.raw W H ((n*D:Nat):Int) ps=(T.size:Int):=by
   have h:=hF.raw;unfold mM at h;dsimp only at h;rw[hn]at h;rw[<-h];push_cast;rfl
  have hfi:=fun u=>JD W H n D Ei kd ps (.slice pa pz.length pc) (.slice sa sz.length sc) T u hraw (by have:=hF.few;omega) hn hF.n4 hF.wd hF.ht Uu.out;have HK:Hid (2<=L.length/\L.length<=6000000/\mH L<=60000000):=⟨by omega,by omega,by omega⟩
  have hna:=fun g cap u (hu:xT u g L)=>QU L g cap W H kd D ps (.slice pa pz.length pc) (.slice sa sz.length sc) Ow Ei Wk u hu HK.out.2.1 HK.out.1 _ hah MR (fun i i1 i2=>⟨(hmid i i1 i2).1,by have:=(hmid i i1 i2).2;omega⟩);have HNA:Hid (_):=hna;have NJ:Hid (_):=hfi;have HRT:Hid (_):=hrt;have HJS:Hid (cK aP L=X):=hjs;have Om:Hid (_/\_):=⟨Wl,hex⟩
  have hLz:=HK.out.2.1;clear hpf t1 t2 t4 t5 hF hpo Uu hlen hdn hds hah Zg hmid MR hcz V3 hjs hX p1 p2 p3 p4 hrt hna hfi hraw Wl hex hwd hht hdd hn a1 a2 a3 a4 a5 a6;go_wp2_with fail;refine hde.mono ?_;intro e w7 he;cases he with
  | @ok _ pa' pc' G g cap i1 i2 i3 i4 b7 =>
   have kb:=ag w7 (.cells #[.int .i64 (W:Nat),.int .i64 (H:Nat),.int .i64 kd,.int .i64 (D:Nat),.bool ps,.slice pa' pz.length pc',.slice (some ⟨G,0,none⟩) sz.length sz.length] 30);have qw:=ak w7 (.cells #[.int .i64 (W:Nat),.int .i64 (H:Nat),.int .i64 kd,.int .i64 (D:Nat),.bool ps,.slice pa' pz.length pc',.slice (some ⟨G,0,none⟩) sz.length sz.length] 30);obtain⟨l6,B6,q0,q1⟩:=nI.out;have b8:=b7.trans (kb.mono b7.size);have l8:=l6.later b8;have pI:=(b8.block w.heap.size (aab q0)).trans q0;have q1':=(b8.block (w.heap.size+1) (aab q1)).trans q1;have hsa:=Ur W H kd D ps pa' pa (some ⟨G,0,none⟩) sa pc' pc sz.length sc pz sz _ (i1.below kb i2) l8.hp ((aR.ints i3).below kb (fun a e _=>by cases e;exact aab i3)) l8.hs (fun a e e2=>aar (i2 a e e2) kb.size) l8.hpa (fun a e _=>by cases e;exact aar (aab i3) kb.size) l8.hsa (by omega) (by omega);obtain⟨z0,z1,z2,z3,z4,z5,z6⟩:=aI qw;obtain⟨x0,x1,x2,x3,x4,x5,x6⟩:=aI pI;have zz8:=aab q1';have HW8:Hid (_/\_/\_/\_):=⟨B6.trans (b8.mono B6.size),pI,q1',i4.below kb⟩
   clear hde nI l6 B6 q0 q1 b8 l8 pI q1' i1 i2 i3 i4 b7 kb qw;go_wp2_with fail;refine hsa.mono ?_;rintro e w9 ⟨rfl,b9⟩;clear hsa z0 z1 z2 z3 z4 z5 z6 x0 x1 x2 x3 x4 x5 x6;obtain⟨B8,q0,q1,C8⟩:=HW8.out;have pI:=(b9.block w.heap.size (aab q0)).trans q0;have q1':=(b9.block (w.heap.size+1) (aab q1)).trans q1;have hna:=HNA.out g cap w9 (C8.below b9);obtain⟨x0,x1,x2,x3,x4,x5,x6⟩:=aI pI;obtain⟨u0,u1,u2⟩:=fm q1';have HW9:Hid (_/\_/\_/\_):=⟨B8.trans (b9.mono B8.size),pI,q1',C8.below b9⟩
   clear HW8 B8 q0 q1 C8 pI q1' b9 zz8 HNA;go_wp2_with fail;refine hna.mono ?_;rintro e S8 ⟨rfl,b10⟩;clear hna x0 x1 x2 x3 x4 x5 x6 u0 u1 u2;obtain⟨B9,q0,q1,C9⟩:=HW9.out;have pI:=(b10.block w.heap.size (aab q0)).trans q0;have q1':=(b10.block (w.heap.size+1) (aab q1)).trans q1;have hfi:=NJ.out S8;obtain⟨x0,x1,x2,x3,x4,x5,x6⟩:=aI pI;have VC:Hid (_/\_/\_):=⟨B9.trans (b10.mono B9.size),q1',C9.below b10⟩
   clear HW9 B9 q0 q1 C9 pI q1' b10 NJ;go_wp2_with fail;refine hfi.mono ?_;rintro e w11 ⟨fa,fcp,zs,rfl,⟨f1,f2,f3,f4⟩,b11⟩;clear hfi x0 x1 x2 x3 x4 x5 x6 f2;obtain⟨Rq,q1,C10⟩:=VC.out;have q1':=(b11.block (w.heap.size+1) (aab q1)).trans q1;have Zh:Hid (_/\_):=⟨f1,f4⟩
   have QV:Hid (_/\_/\_):=⟨Rq.trans (b11.mono Rq.size),q1',C10.below b11⟩
   clear VC Rq q1 C10 q1' b11 f1 f4;go_wp2
   go_loopw [18] (fun ix wr=>∃k m:Nat,k<=zs.length/\ix=.int .i64 k/\wr=w11.drewN m) (fun ix _=>zs.length-(intOf ix).toNat)
   case atStart=>exact⟨0,0,aaj _,rfl,rfl⟩
   case round =>
    obtain⟨k,m,hk,rfl,hwr⟩:=hrel;by_cases hlt:k<zs.length
    ·have hlt':(k:Int)<(zs.length:Int):=by omega
     obtain⟨fb,fo,e1,fcl⟩:=Zh.out.1 k hlt;obtain⟨u0,u1,u2⟩:=fm QV.out.2.1;have HX:Hid (Ei≠5->zs[k]=(Ei:Int)):=fun h=>Zh.out.2 h _ (aaR hlt);generalize zs[k]=x at *;subst e1;have hS:wr.drew.cell? ⟨fb,fo+k,none⟩=some (.int .i64 x)/\wr.drew.cell? ⟨w.heap.size+1,1,none⟩=some (.int .i64 (Ei:Nat)):=by rw[hwr];exact⟨fcl,u1⟩
     have GI:Hid (_):=hwr;clear hwr fcl u0 u1 u2;by_cases h5:Ei=5
     ·have h5':((Ei:Int) != 5)=false:=by rw[h5];rfl
      clear h5 HX;go_wp2;refine aE (fun u=>u.cell? ⟨fb,fo+k,none⟩=some (.int .i64 x)/\u.cell? ⟨w.heap.size+1,1,none⟩=some (.int .i64 (Ei:Nat))) 99 ?_;refine am [0,1,2,3] ?_
      iterate 4 refine au hS ?_
      refine aj ?_;refine aq (i := 4) (t := 83) (T := ?_) ?ht rfl rfl (by kernel_rfl) (by kernel_rfl) (by kernel_rfl) (by kernel_rfl) (fun _ _ _ h => h) (by kernel_rfl) hS ?_
      case ht => go_simp; try with_reducible rfl
      refine aq (i := 5) (t := 84) (T := ?_) ?ht rfl rfl (by kernel_rfl) (by kernel_rfl) (by kernel_rfl) (by kernel_rfl) (fun _ _ _ h => h) (by kernel_rfl) hS ?_
      case ht => go_simp; try with_reducible rfl
      refine aq (i := 6) (t := 85) (T := ?_) ?ht rfl rfl (by kernel_rfl) (by kernel_rfl) (by kernel_rfl) (by kernel_rfl) (fun _ _ _ h => h) (by kernel_rfl) hS ?_
      case ht => go_simp; try with_reducible rfl
      refine aq (i := 7) (t := 86) (T := ?_) ?ht rfl rfl (by kernel_rfl) (by kernel_rfl) (by kernel_rfl) (by kernel_rfl) (fun _ _ _ h => h) (by kernel_rfl) hS ?_
      case ht => go_simp; try with_reducible rfl
      refine aq (i := 8) (t := 87) (T := ?_) ?ht rfl rfl (by kernel_rfl) (by kernel_rfl) (by kernel_rfl) (by kernel_rfl) (fun _ _ _ h => h) (by kernel_rfl) hS ?_
      case ht => go_simp; try with_reducible rfl
      refine aq (i := 9) (t := 88) (T := ?_) ?ht rfl rfl (by kernel_rfl) (by kernel_rfl) (by kernel_rfl) (by kernel_rfl) (fun _ _ _ h => h) (by kernel_rfl) hS ?_
      case ht => go_simp; try with_reducible rfl
      refine aq (i := 10) (t := 89) (T := ?_) ?ht rfl rfl (by kernel_rfl) (by kernel_rfl) (by kernel_rfl) (by kernel_rfl) (fun _ _ _ h => h) (by kernel_rfl) hS ?_
      case ht => go_simp; try with_reducible rfl
      refine am [11] ?_
      iterate 1 refine au hS ?_
      refine aj ?_;refine ar ?_;go_wp2
      go_roundw
      case rel=>exact⟨k+1,m+1,by omega,by go_num,by rw[GI.out];simp⟩
      case measure=>simp[intOf];omega
     ·have h5':((Ei:Int) != 5)=true:=by simp;omega
      have hx:(x != (Ei:Int))=false:=by rw[HX.out h5];simp
      clear h5 HX;go_wp2;refine aE (fun u=>u.cell? ⟨fb,fo+k,none⟩=some (.int .i64 x)/\u.cell? ⟨w.heap.size+1,1,none⟩=some (.int .i64 (Ei:Nat))) 99 ?_;refine am [0,1,2,3,4,5,6,7,8,9,10,11] ?_
      iterate 12 refine au hS ?_
      refine aj ?_;refine ar ?_;go_wp2
      go_roundw
      case rel=>exact⟨k+1,m+1,by omega,by go_num,by rw[GI.out];simp⟩
      case measure=>simp[intOf];omega
    ·have hnlt:¬(k:Int)<(zs.length:Int):=by omega
     have Gr:Hid (Below w.heap.size w wr/\wr.cell? ⟨w.heap.size+1,0,none⟩=some (.int .i64 (Ow:Nat))/\xT wr g L):=by
      obtain⟨B11,q1,C11⟩:=QV.out;obtain⟨u0,u1,u2⟩:=fm q1;rw[hwr];exact⟨aap B11 m,u0,C11.below (aap (aak _ _) m)⟩
     clear hwr QV Zh;go_wp2
     go_loop [19,20] (fun dv ix=>∃k:Nat,k<=L.length/\ix=.int .i64 k/\dv=.string (cK aP (L.take k))) (fun _ ix=>L.length-(intOf ix).toNat)
     case atStart=>exact⟨0,aaj _,rfl,rfl⟩
     case round =>
      obtain⟨j,hj,rfl,rfl⟩:=hrel;by_cases ub:j<L.length
      ·have N7:(j:Int)<(L.length:Int):=by omega
       obtain⟨c1,c2⟩:=Gr.out.2.2.at_ j ub;have HJ:=kI aP (L.take j) (dg L j);rw[<-DT L j ub]at HJ;have z1:=aaz (iR aP (L.take (j+1))) (aaz (nE L (j+1)) HK.out.2.2);have z2:=aaz (iR aP (L.take j)) (aaz (nE L j) HK.out.2.2);obtain⟨bb,hb⟩:∃b,b=eK (dg L j).name aP:=⟨_,rfl⟩
       rw[<-hb]at HJ;have hbb:((dg L j).name.toList==[73,68,65,84])=bb:=by rw[hb];rfl
       obtain⟨J',hJ'⟩:∃J',J'=cK aP (L.take (j+1)):=⟨_,rfl⟩
       rw[<-hJ']at HJ z1;have P9:Hid (J'=cK aP (L.take (j+1))):=hJ';clear hJ';generalize cK aP (L.take j)=J at *;generalize (dg L j).name=nme at *;generalize (dg L j).data=dat at *;cases bb
       ·have HF:Hid (J'=J):=by show _=_;rw[HJ];rfl
        clear HJ hb z1;go_wp2
        go_round
        case rel=>exact⟨j+1,by omega,by go_num,by rw[<-P9.out,HF.out]⟩
        case measure=>simp[intOf];omega
       ·have HF:Hid (J'=J++dat):=by show _=_;rw[HJ];rfl
        have hjd:J.size+dat.size<=60000000:=by
         rw[HF.out,ByteArray.size_append]at z1;omega
        clear HJ hb z1;go_wp2
        go_round
        case rel=>exact⟨j+1,by omega,by go_num,by rw[<-P9.out,HF.out]⟩
        case measure=>simp[intOf];omega
      ·have abZ:¬(j:Int)<(L.length:Int):=by omega
       rw[aav (by omega),HJS.out];obtain⟨Wl,hex⟩:=Om.out;obtain⟨mm,hm⟩:∃mm,P.size+2=mm:=⟨_,rfl⟩
       rw[hm]at Wl hex;have hm2:2<=mm:=by omega
       have hmb:mm<=5000000:=by omega
       have wmm:IntKind.i64.wrap (mm:Int)=(mm:Int):=aah _ (by omega);have afc:(2:Int)<=(mm:Int):=by omega
       have hm4:(0:Int)<=(mm:Int)/\(mm:Int)<=(mm:Int)+4:=by omega
       have hS:wr.drew.cell? ⟨w.heap.size+1,0,none⟩=some (.int .i64 (Ow:Nat)):=Gr.out.2.1;clear hm Om;go_wp2;refine aE (fun u=>u.cell? ⟨w.heap.size+1,0,none⟩=some (.int .i64 (Ow:Nat))) 99 ?_;refine am [0,1,2,3,4,5,6,7] ?_
       iterate 8 refine au hS ?_
       refine aj ?_;refine ai 8 fun K hK=>?_;go_simp;refine (HRT.out _).mono ?_;rintro e w13 ⟨rfl,b13⟩;have QW:Below wr.heap.size wr w13:=(aak _ wr).drew.trans b13;have HF:Hid (_):=Gr.out.1.trans (QW.mono Gr.out.1.size);have hS2:w13.cell? ⟨w.heap.size+1,0,none⟩=some (.int .i64 (Ow:Nat)):=(QW.cell (p:=⟨w.heap.size+1,0,none⟩) (World.block_lt_of_cell? wr ⟨w.heap.size+1,0,none⟩ Gr.out.2.1)).trans Gr.out.2.1;refine hK _ _ (fun _=>hS2) ?_;clear hK K b13 QW;refine am [9] ?_
       iterate 1 refine au hS2 ?_
       refine aj ?_;refine ar ?_;go_wp2
       go_ret
       exact⟨rfl,HF.out⟩
end
section
open Go.ChangeShapes Go.WideShapes Go.ChangeAt Go.RowKit Go.Joins
theorem Gs:Tryz.prog.cellsOf 30=7:=by kernel_rfl
theorem CG:Tryz.prog.cellsOf 24=1:=by kernel_rfl
theorem CI:Tryz.prog.cellsOf 4=1:=by kernel_rfl
theorem Gt:Tryz.prog.bytesOf 3=8:=by kernel_rfl
theorem Zi {α:Type}{cs:Array α}(h:cs.size=7):∃a b c d e f g,cs=#[a,b,c,d,e,f,g]:=by
 obtain⟨l⟩:=cs;obtain⟨a,b,c,d,e,f,g,rfl⟩:=Jb (l:=l) (by simpa using h);exact⟨a,b,c,d,e,f,g,rfl⟩
theorem Gu:Tryz.prog.cellsOf 32=3:=by kernel_rfl
theorem Ox {α:Type}:∀{l:List α},l.length=3->∃a b c,l=[a,b,c]
 | [a,b,c],_=>⟨a,b,c,rfl⟩
theorem Zj {α:Type}{cs:Array α}(h:cs.size=3):∃a b c,cs=#[a,b,c]:=by
 obtain⟨l⟩:=cs;obtain⟨a,b,c,rfl⟩:=Ox (l:=l) (by simpa using h);exact⟨a,b,c,rfl⟩
section
variable {H:Type} {enc:TypeId×Value->H} {W:World}
theorem KD {base:Nat}{v:Value}{d:DataW H}{p:List MemPlace}(hv:Value.okWide Tryz.prog W .any base 30 v)(h:DataW.Trod enc Tryz.prog W 0 (fun _=>true) true 30 v d p): ∃(wd ht kd dp:Int) (ps:Bool) (c5 c6:Value) (y5 y6:DataW H×List MemPlace) (m:Nat),v=img wd ht kd dp ps c5 c6 /\ d=.agg [.lit (.int .i64 wd),.lit (.int .i64 ht),.lit (.int .i64 kd),.lit (.int .i64 dp),.lit (.bool ps),y5.1,y6.1] /\ DataW.trod enc Tryz.prog W 0 (fun _=>true) true m 24 [c5]=some y5/\DataW.trod enc Tryz.prog W 0 (fun _=>true) true m 24 [c6]=some y6:=by
 obtain⟨cs,rfl,hsz⟩:=okWide_struct Tryz.underlying30 hv;obtain⟨c0,c1,c2,c3,c4,c5,c6,rfl⟩:=Zi (hsz.trans Gs);obtain⟨fuel,hf⟩:=h;obtain⟨xs,m,_,hx,hl,hlen,hfs⟩:=DataW.trod_struct Tryz.underlying30 hf;obtain⟨y0,y1,y2,y3,y4,y5,y6,rfl⟩:=Jb (hlen.trans rfl);have g0:DataW.trod enc Tryz.prog W 0 (fun _=>true) true m 3 (List.take (Tryz.prog.cellsOf 3) (List.drop 0 [c0,c1,c2,c3,c4,c5,c6]))=some y0:=hfs 0 _ rfl;have g1:DataW.trod enc Tryz.prog W 0 (fun _=>true) true m 3 (List.take (Tryz.prog.cellsOf 3) (List.drop 1 [c0,c1,c2,c3,c4,c5,c6]))=some y1:=hfs 1 _ rfl;have g2:DataW.trod enc Tryz.prog W 0 (fun _=>true) true m 3 (List.take (Tryz.prog.cellsOf 3) (List.drop 2 [c0,c1,c2,c3,c4,c5,c6]))=some y2:=hfs 2 _ rfl;have g3:DataW.trod enc Tryz.prog W 0 (fun _=>true) true m 3 (List.take (Tryz.prog.cellsOf 3) (List.drop 3 [c0,c1,c2,c3,c4,c5,c6]))=some y3:=hfs 3 _ rfl;have g4:DataW.trod enc Tryz.prog W 0 (fun _=>true) true m 4 (List.take (Tryz.prog.cellsOf 4) (List.drop 4 [c0,c1,c2,c3,c4,c5,c6]))=some y4:=hfs 4 _ rfl;have g5:DataW.trod enc Tryz.prog W 0 (fun _=>true) true m 24 (List.take (Tryz.prog.cellsOf 24) (List.drop 5 [c0,c1,c2,c3,c4,c5,c6]))=some y5:=hfs 5 _ rfl;have g6:DataW.trod enc Tryz.prog W 0 (fun _=>true) true m 24 (List.take (Tryz.prog.cellsOf 24) (List.drop 6 [c0,c1,c2,c3,c4,c5,c6]))=some y6:=hfs 6 _ rfl;rw[nA]at g0 g1 g2 g3;rw[CI]at g4;rw[CG]at g5 g6;obtain⟨a0,e0,rfl,_⟩:=DataW.trod_int Tryz.underlying3 g0;obtain⟨a1,e1,rfl,_⟩:=DataW.trod_int Tryz.underlying3 g1;obtain⟨a2,e2,rfl,_⟩:=DataW.trod_int Tryz.underlying3 g2;obtain⟨a3,e3,rfl,_⟩:=DataW.trod_int Tryz.underlying3 g3;obtain⟨a4,e4,rfl⟩:=DataW.trod_bool Tryz.underlying4 g4;have Sl:c0=.int .i64 a0:=aaW e0;have Sm:c1=.int .i64 a1:=aaW e1;have e2':c2=.int .i64 a2:=aaW e2;have e3':c3=.int .i64 a3:=aaW e3;have e4':c4=.bool a4:=aaW e4;subst Sl Sm e2' e3' e4';have hd:=abq Prod.fst hx;exact⟨a0,a1,a2,a3,a4,c5,c6,y5,y6,m,rfl,hd,g5,g6⟩
theorem Ek {m:Nat}{c:Value}{y:DataW H×List MemPlace}(h:DataW.trod enc Tryz.prog W 0 (fun _=>true) true m 24 [c]=some y): ∃(ao:Option Addr) (cap:Nat) (zs:List Int),c=.slice ao zs.length cap/\Ints W ao zs/\(∀a,ao=some a->zs≠[]->a.block<W.heap.size)/\zs.length<=maxLen /\ (zs=[]\/∃elems spare,y.1=.slice elems spare/\zs.length<=elems.length+spare.length):=by
 rcases open_ints Tryz.underlying24 Tryz.underlying3 nA h with⟨hcs,hx⟩|⟨a,len,cap,zs,hcs,_,hl,hm,hz,hx,hcell,hwz⟩
 ·refine⟨none,0,[],aaW hcs,fun j hj=>absurd hj (abY _),fun a e _=>(by cases e),aaj _,.inl rfl⟩
 ·have hzl:zs.length=cap:=by simpa using hz
  have hlen:(zs.take len).length=len:=by rw[aaQ];omega
  refine⟨some a,cap,zs.take len,(aaW hcs).trans (by rw[hlen]),?_,?_,by rw[hlen];omega,.inr ⟨_,_,abq Prod.fst hx,?_⟩⟩
  ·intro j hj;rw[hlen]at hj;obtain⟨b,off,rfl,hc⟩:=ints_at hcell (by omega);refine⟨b,off,rfl,?_⟩;rw[hc j (by omega)];simp[List.getD,List.getElem?_eq_getElem (show j<zs.length by omega)]
  ·intro a' e hne;cases e
   have h0:0<zs.length:=by
    cases zs with
    | nil=>simp at hne
    | cons z r=>simp
   obtain⟨b,off,rfl,hc⟩:=ints_at hcell h0;exact World.block_lt_of_cell? W ⟨b,off+0,none⟩ (hc 0 h0)
  ·simp[lits]
theorem KE {base:Nat}{v:Value}{d:DataW H}{p:List MemPlace}(hv:Value.okWide Tryz.prog W .any base 32 v)(h:DataW.Trod enc Tryz.prog W 0 (fun _=>true) true 32 v d p): ∃lv fl ck:Int,v=.agg #[.int .i64 lv,.int .i64 fl,.int .i64 ck]:=by
 obtain⟨cs,rfl,hsz⟩:=okWide_struct Tryz.underlying32 hv;obtain⟨c0,c1,c2,rfl⟩:=Zj (hsz.trans Gu);obtain⟨fuel,hf⟩:=h;obtain⟨xs,m,_,hx,hl,hlen,hfs⟩:=DataW.trod_struct Tryz.underlying32 hf;obtain⟨y0,y1,y2,rfl⟩:=Ox (hlen.trans rfl);have g0:DataW.trod enc Tryz.prog W 0 (fun _=>true) true m 3 (List.take (Tryz.prog.cellsOf 3) (List.drop 0 [c0,c1,c2]))=some y0:=hfs 0 _ rfl;have g1:DataW.trod enc Tryz.prog W 0 (fun _=>true) true m 3 (List.take (Tryz.prog.cellsOf 3) (List.drop 1 [c0,c1,c2]))=some y1:=hfs 1 _ rfl;have g2:DataW.trod enc Tryz.prog W 0 (fun _=>true) true m 3 (List.take (Tryz.prog.cellsOf 3) (List.drop 2 [c0,c1,c2]))=some y2:=hfs 2 _ rfl;rw[nA]at g0 g1 g2;obtain⟨a0,e0,rfl,_⟩:=DataW.trod_int Tryz.underlying3 g0;obtain⟨a1,e1,rfl,_⟩:=DataW.trod_int Tryz.underlying3 g1;obtain⟨a2,e2,rfl,_⟩:=DataW.trod_int Tryz.underlying3 g2;have Sl:c0=.int .i64 a0:=aaW e0;have Sm:c1=.int .i64 a1:=aaW e1;have e2':c2=.int .i64 a2:=aaW e2;exact⟨a0,a1,a2,by rw[Sl,Sm,e2']⟩
end
theorem CJ (H:Type)(enc:TypeId×Value->H)(W:World)(base:Nat)(args:Array Value)(ds gs:List (DataW H))(before:List MemPlace)(hval:∀(j:Nat) t v,Tryz.f4.params[j]?=some t->args[j]?=some v->Value.okWide Tryz.prog W .any base t v)(hW:DataW.Whole enc Tryz.prog Tryz.f4.params.toList Rows.encodesSpec.vars false W args.toList ds gs before)(hsz:(DataW.weightsEach Tryz.prog (Tryz.f4.params.toList++Rows.encodesSpec.plain.varTypes Tryz.prog) (ds++gs)).all (·<=reachBytes)=true)(hL:laidMetH Tryz.prog Rows.encodesRow.laid W): Calls Tryz.prog 4 args W fun e W'=>∃v,e=.returned v/\Rows.encodesSpec.post enc Tryz.prog Tryz.f4 false true false false W args v W':=by
 have Wm:=hW;obtain⟨p,q,hA0,hV,rfl,hfz,hnd⟩:=hW;have hA:DataW.TrodAll enc Tryz.prog W 0 (fun _=>true) true Tryz.f4.params.toList args.toList ds p:=hA0;rw[Tryz.params4]at hA hval hsz;obtain⟨v0,vs0,d0,ds0,p0,q0,hargs,rfl,rfl,h0,r0⟩:=trodAll_cons hA;obtain⟨v1,vs1,d1,ds1,p1,q1,Zk,rfl,rfl,h1,r1⟩:=trodAll_cons r0;obtain⟨rfl,rfl,rfl⟩:=trodAll_nil r1;obtain rfl:args=#[v0,v1]:=by cases args;simp_all
 obtain⟨rfl,rfl⟩:=trodVars_none hV;obtain⟨wd,ht,kd,dp,ps,c5,c6,y5,y6,m,rfl,hd,g5,g6⟩:=KD (hval 0 30 v0 rfl rfl) h0;obtain⟨pa,pc,pz,rfl,i5,b5,m5,s5⟩:=Ek g5;obtain⟨sa,sc,sz,rfl,i6,b6,m6,s6⟩:=Ek g6;obtain⟨lv,fl,ck,rfl⟩:=KE (hval 1 32 v1 rfl rfl) h1;obtain⟨tt,fr,hT⟩:=table hL
 have hsz':(DataW.weightsEach Tryz.prog [3,3,3,3,4,24,24] [.lit (.int .i64 wd),.lit (.int .i64 ht),.lit (.int .i64 kd),.lit (.int .i64 dp),.lit (.bool ps),y5.1,y6.1]).all (·<=reachBytes)=true:=by
  rw[List.all_eq_true]at hsz ⊢;intro x hx;refine hsz x (DataW.weights_mem_each (j:=0) (t:=30) (d:=d0) rfl rfl x ?_);rw[hd];simpa[DataW.weights,Tryz.underlying30]using hx
 have bnd:∀(zs:List Int) (j:Nat) (y:DataW H),([3,3,3,3,4,24,24]:List TypeId)[j]?=some 24->([.lit (.int .i64 wd),.lit (.int .i64 ht),.lit (.int .i64 kd),.lit (.int .i64 dp),.lit (.bool ps),y5.1,y6.1]:List (DataW H))[j]?=some y ->
   (zs=[]\/∃elems spare,y=.slice elems spare/\zs.length<=elems.length+spare.length)->zs.length<=17592186044416:=by
  intro zs j y hj hy hs;rcases hs with rfl|⟨elems,spare,rfl,hle⟩
  ·simp
  ·have:=sized_slice hsz' hj hy Tryz.underlying24;rw[Gt]at this;simp only[reachBytes]at this;omega
 have n5:=bnd pz 5 y5.1 rfl rfl s5;have n6:=bnd sz 6 y6.1 rfl rfl s6;have hl:tM W pa pz sa sz tt fr:=⟨hT,i5,b5,m5,i6,b6,m6⟩
 clear hA0 hsz hsz' bnd;simp only[aa9]at Wm;refine (KC wd ht kd dp ps pa pc pz sa sc sz lv fl ck W tt fr hl n5 n6).mono fun e W' ⟨he,hg⟩=>?_;subst he;have h0':=Below.trod Tryz.laidOut (by kernel_rfl) (of_decide_eq_true (by kernel_rfl)) h0 hg (fun x hx=>by simpa using Wm.lt x (by simp[hx]));have h1':=Below.trod Tryz.laidOut (by kernel_rfl) (of_decide_eq_true (by kernel_rfl)) h1 hg (fun x hx=>by simpa using Wm.lt x (by simp[hx]));refine⟨_,rfl,_,_,_,[],p0++p1,[],Wm,trodAll_cons_mk (shut_bool Tryz.underlying4 _) trodAll_mk0,?_,rfl,hg.frame _,fun h=>by cases h⟩;have hall:=trodAll_cons_mk h0' (trodAll_cons_mk h1' trodAll_mk0);simp only[aa9]at hall;exact hall
def QX:Value:=.agg #[.int .i64 0,.int .i64 0,.int .i64 0,.int .i64 0,.bool false,.slice none 0 0,.slice none 0 0]
def ym:Array Value:=#[QX,.agg #[.int .i64 0,.int .i64 0,.int .i64 0]]
noncomputable def mV (os:Os):World :=
 { World.holding Tryz.prog os ⟨#[],#[],[]⟩ with heap:=(World.holding Tryz.prog os ⟨#[],#[],[]⟩).heap.modify 0 fun
   | .cells _ t frozen=>.cells dL t frozen
   | o=>o }
theorem CK (os:Os):laidMet Tryz.prog Rows.encodesRow.laid ((mV os).forCall (fun _ _=>0) ⟨#[],ym,[]⟩).memory :=
 laidMet_of_run' 8 (by kernel_rfl) (by kernel_rfl)
theorem Nl (os:Os){H:Type}(enc:TypeId×Value->H):∃places,DataW.whole enc Tryz.prog ((mV os).forCall (fun _ _=>0) ⟨#[],ym,[]⟩).memory Tryz.f4.params.toList Rows.encodesSpec.vars false ym.toList 8=some ([.agg [.lit (.int .i64 0),.lit (.int .i64 0),.lit (.int .i64 0),.lit (.int .i64 0),.lit (.bool false),.nil,.nil],.agg [.lit (.int .i64 0),.lit (.int .i64 0),.lit (.int .i64 0)]],[],places) :=
 ⟨[],by kernel_rfl⟩
theorem KG (os:Os)(started:os.Started)(H:Type)(enc:TypeId×Value->H)(F:Stop.Interp): ReturnsInHanded {} Tryz.checked os 4 .any ((OpenSpec.ofChange Rows.encodesSpec).preRow enc Tryz.prog Tryz.f4 Rows.encodesRow.domain false Rows.encodesRow.laid) (((OpenSpec.ofChange Rows.encodesSpec).at F).post enc Tryz.prog Tryz.f4 false true false false):=by
 obtain⟨places,hx⟩:=Nl os enc
 refine returnsInHanded_of_row (C:=Tryz.checked) (s:=OpenSpec.ofChange Rows.encodesSpec) Tryz.own started (by kernel_rfl) Tryz.func4
  (witness_row_at (enc:=enc) (C:=Tryz.checked) false (mV os) ym rfl (by kernel_rfl) (by kernel_rfl) (by kernel_rfl)
   (OpenSpec.preRow_of_cond 8 hx (by kernel_rfl) (fun k hk=>by cases hk) (by kernel_rfl) (CK os))) ?_
 intro W base args ds gs before hval hW _ _ hsz hL _ _;exact CJ H enc W base args ds gs before hval hW hsz hL
theorem QY:Rows.EncodesSaid :=
 OpenClaim.holds_of_cond 4 Tryz.f4 rfl rfl rfl rfl rfl rfl rfl ⟨rfl,rfl,rfl,rfl,rfl⟩ rfl rfl rfl rfl rfl (by kernel_rfl) Tryz.func4 (by kernel_rfl)
  (of_decide_eq_true (by kernel_rfl)) (by unfold Func.isWrapper;first|(rw[aaf (by decide +kernel)];kernel_rfl)|(rw[aae (by decide +kernel)];exact⟨rfl,rfl⟩))
  (fun os started H enc _ F=>by rw[OpenClaim.pre_eq_preRow];exact KG os started H enc F)
theorem Nm (f:FuncId)(fn:Func)(hf:Tryz.pinned.checked.prog.funcNamed "mosaic/mosaiclaw.Encodes"=some f)(hfn:Tryz.pinned.checked.prog.funcs[f]?=some fn): true=Tryz.pinned.checked.prog.looks []/\∀(j:Nat) t,fn.params[j]?=some t->Tryz.pinned.checked.prog.wantsStandIn t=false:=by
 obtain rfl:f=4:=aay ((show Tryz.prog.funcNamed "mosaic/mosaiclaw.Encodes"=some 4 by kernel_rfl).symm.trans hf) |>.symm;obtain rfl:fn=Tryz.f4:=(aay (Tryz.func4.symm.trans hfn)).symm;refine⟨by kernel_rfl,fun j t ht=>?_⟩;rw[Tryz.params4]at ht;have h:t=30\/t=32:=by simpa using Array.mem_of_getElem? ht
 rcases h with rfl|rfl
 ·exact (show Tryz.prog.wantsStandIn 30=false by kernel_rfl)
 ·exact (show Tryz.prog.wantsStandIn 32=false by kernel_rfl)
theorem encodes_card:Rows.EncodesCardSaid :=
 Claim7.holds_tied_plain_at .later [] _ _ _ _ QY (fun _ h=>by cases h) (by kernel_rfl) (fun _ h=>by cases h) encodes_row_tie rfl ⟨rfl,rfl⟩ (by kernel_rfl) rfl Nm (by kernel_rfl)
end
end Go.Proofs.YtmfijackgekioaaGreatDoor
