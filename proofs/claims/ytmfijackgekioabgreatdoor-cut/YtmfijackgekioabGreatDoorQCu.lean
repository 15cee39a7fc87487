import Derived.Test.YtmfijackgekioabGreatDoorQ47
import Derived.Test.YtmfijackgekioabGreatDoorQ31
import Derived.JoinedCond
set_option maxHeartbeats 1000000
set_option maxRecDepth 100000
namespace Go.Proofs.YtmfijackgekioabGreatDoor
section
open Go.RowKit Go.Maps
theorem agh (kind width rK:Int)(ps:Bool)(ra:Option Addr)(rc:Nat)(raw:List Int)(level filter chunk at_:Int)(w:World)(hk:I64 kind)(hw:I64 width)(hh:I64 rK)(hlv:I64 level)(hfl:I64 filter)(hck:I64 chunk)(hat:I64 at_)(hraw:Ints w ra raw)(hra:∀a,ra=some a->raw≠[]->a.block<w.heap.size)(Vk:∀y∈raw,I64 y)(hrl:raw.length<=9223372036854775807)(tt:TypeId)(fr:Nat×Nat)(jX:w.heap[0]?=some (.cells cY tt fr)): Calls Tryz.prog 3 #[.int .i64 kind,.int .i64 width,.int .i64 rK,.bool ps,.slice ra raw.length rc,.int .i64 level,.int .i64 filter,.int .i64 chunk,.int .i64 at_] w fun e w'=>e=.returned (.bool true)/\Below w.heap.size w w':=by
 have hpi:=Y0 kind width rK ps ra rc raw w hk hw hh hraw hra Vk hrl;have hse:=fun u=>YZ level filter chunk u hlv hfl hck;have hr3:=bH chunk (n:=300) (by omega);have hpk:=fun (n:Int) (u:World) (h1:0<n) (h2:n<=9223372036854775807)=>oO at_ n u hat.1 hat.2 h1 h2;have HPK:Hid (_):=hpk;have HTB:Hid (_):=jX;obtain⟨L,hL⟩:∃L,L=raw.length:=⟨_,rfl⟩
 rw[<-hL]at hpi ⊢;obtain⟨A,hA⟩:∃A,A=cN level 3:=⟨_,rfl⟩
 obtain⟨Fl,hFl⟩:∃Fl,Fl=cN filter 6:=⟨_,rfl⟩
 obtain⟨C,hC⟩:∃C,C=1+cN chunk 300:=⟨_,rfl⟩
 rw[<-hA,<-hFl,<-hC]at hse;have hCb:C<=300:=by omega
 clear hraw hra Vk hrl jX hL hA hFl hC hk hw hh hlv hfl hck hr3 hpk hat
 go_enter Tryz.func3,Tryz.ntmps3
 go_wp2_with fail;refine hpi.mono ?_;rintro e w2 ⟨h,aq,S,pa,pc,G,cap,rfl,hpf,hps,hsm,i1,i2,i3,hG,hcap,hlen,B2⟩;have ka:=ae w2 (.cells (bC h (.slice pa aq.length pc) (.slice (some ⟨G,0,none⟩) S.length cap)) 24);have q:=ah w2 (.cells (bC h (.slice pa aq.length pc) (.slice (some ⟨G,0,none⟩) S.length cap)) 24);have B3:=B2.trans (ka.mono B2.size);have Nc:Ii w2 pa aq (some ⟨G,0,none⟩) S tt fr:=⟨(B2.block _ (aac HTB.out)).trans HTB.out,i1,i2,by unfold maxLen;omega,i3,fun a ha _=>(by have e:=aaN ha;rw[<-e];exact hG),by unfold maxLen;omega⟩
 have hl3:=Nc.later ka;have dM:=EK h hpf.hd hsm.1 hsm.2;have z3:(w2.alloc (.cells (bC h (.slice pa aq.length pc) (.slice (some ⟨G,0,none⟩) S.length cap)) 24)).heap.size=w2.heap.size+1:=by simp
 obtain⟨x0,x1,x2,x3,x4,x5,x6⟩:=aR q;have HH:Hid (_/\_/\_/\_/\_/\_/\_/\_):=⟨hl3,q,B3,hpf,hcap,dM,hlen,hG⟩
 clear Nc hl3 B2 B3 hpf hps hsm i1 i2 i3 hpi ka hcap dM hlen;go_wp2_with fail;generalize hw4:w2.alloc (.cells (bC h (.slice pa aq.length pc) (.slice (some ⟨G,0,none⟩) S.length cap)) 24)=w4 at *;have hS:w4.drew.heap[w2.heap.size]?=some (.cells (bC h (.slice pa aq.length pc) (.slice (some ⟨G,0,none⟩) S.length cap)) 24 (0,0)):=q;clear q x0 x1 x2 x3 x4 x5 x6;refine ax (fun u=>u.heap[w2.heap.size]?=some (.cells (bC h (.slice pa aq.length pc) (.slice (some ⟨G,0,none⟩) S.length cap)) 24 (0,0))) 99 ?_;refine ap [0,1,2,3] ?_
 iterate 4 (refine ay (v:=?_) (T:=?_) ?ht ?hy hS ?_;(case hy=>intro w hSw;have xP := aR hSw; go_simp;try with_reducible rfl);case ht=>go_simp;try with_reducible rfl)
 refine aj ?_;refine ag 4 fun K hK=>?_;go_simp;refine (hse _).mono ?_;rintro e w5 ⟨rfl,hset,b5⟩;have IE:Below w4.heap.size w4 w5:=((aav _ w4).drew).trans b5;have zz5:=IE.size;have q5:=(IE.block _ (by omega)).trans HH.out.2.1;have B5:=HH.out.2.2.1.trans (IE.mono HH.out.2.2.1.size);have hl5:=HH.out.1.later IE;obtain⟨_,_,_,hpf,hcap,dM,hlen,hG⟩:=HH.out;have hfi:=afO h A Fl C aq S pa pc G cap w5 tt fr hl5 (by omega) hcap hpf hset hCb (by omega) hlen.1;have HH5:Hid (_/\_/\_):=⟨hl5,q5,B5⟩
 refine hK _ _ (fun _=>q5) ?_;clear hK K b5 IE hl5 q5 B5 hset hse hS hpf hcap dM hlen hG;refine ag 5 fun K hK=>?_;go_simp;refine hfi.mono ?_;rintro e w6 ⟨b,ds,B,ao,cp,rfl,own,hB,f1,f2,f3,f4,f5,b6⟩;obtain⟨hl5,q5,B5⟩:=HH5.out;have zz6:=b6.size;have q6:=(b6.block w2.heap.size (by omega)).trans q5;have B6:=B5.trans (b6.mono B5.size);have hl6:=hl5.later b6;have hlen:=HH.out.2.2.2.2.2.2.1;have CI:8<=b.size:=by rw[<-ba,f1,rL];omega
 have hpk:=fun u=>HPK.out (b.size:Int) u (by omega) (by omega);have hpr:=bH at_ (n:=(b.size:Int)) (by omega);obtain⟨k,hk⟩:∃k:Nat,cN at_ (b.size:Int)=(k:Int):=⟨(cN at_ (b.size:Int)).toNat,by omega⟩
 rw[hk]at hpk hpr;obtain⟨c,hc0,hcut⟩:=Yj (b:=b.extract 0 k) (k:=k) (h:=h) (aq:=aq) (ds:=ds) (by omega) f3 (by rw[<-f1,ba];omega) (by rw[cF,f1,ac6]) 4194304;have hxs:(b.extract 0 k).size=k:=by rw[aaO];omega
 have hde:=fun u (hu:Below w6.heap.size w6 u)=>ZO (b.extract 0 k) 4194304 u (by omega) tt fr (hl6.later hu).tab;have U6:Hid (_):=hde;have zJ:Hid (_/\_/\_):=⟨q6,B6,hcut⟩
 obtain⟨M,hM⟩:∃M,M=(iX 8 (aN h aq ds)).length:=⟨_,rfl⟩
 rw[<-hM];refine hK _ _ (fun _=>q6) ?_;clear hK K hfi b6 hl5 q5 B5 own hB f1 f2 f3 f4 hl6 q6 B6 hcut hde HH5 hlen hk hM hxs;have hTr:w6.heap[w2.heap.size]?=some (.cells (bC h (.slice pa aq.length pc) (.slice (some ⟨G,0,none⟩) S.length cap)) 24 (0,0)):=zJ.out.1;refine ap [6,7,8,9,10,11,12] ?_
 iterate 7 (refine ay (v:=?_) (T:=?_) ?ht ?hy hTr ?_;(case hy=>intro w hSw;(try dsimp only at hSw); go_simp;try with_reducible rfl);case ht=>go_simp;try with_reducible rfl)
 refine aj ?_;refine am ?_;clear hTr;have hk1:(k:Int)<=(b.size:Int):=by omega
 go_wp2_with fail;refine (hpk _).mono ?_;rintro e w7 ⟨rfl,hw7⟩;rw[hw7];clear hw7 w7 hpk;have hde:=U6.out w6 (aav _ _);clear U6;go_wp2_with fail;refine hde.mono ?_;intro e w8 he;cases he with
 | ok h1=>rw[zJ.out.2.2]at h1;cases h1
 | @no _ c' h1 b8 =>
  have ec:c'=c:=by rw[zJ.out.2.2]at h1;injection h1 with h1;exact h1.symm
  subst ec;have B8:=zJ.out.2.1.trans (b8.mono zJ.out.2.1.size);have ka:=ae w8 (.cells bq 24);have qa:=ah w8 (.cells bq 24);obtain⟨x0,x1,x2,x3,x4,x5,x6⟩:=aR qa;have HF:Hid (_):=B8.trans (ka.mono B8.size);clear b8 B8 ka qa h1 hde zJ;go_wp2
  go_ret
  exact⟨aO (bne_iff_ne.2 hc0),HF.out⟩
end
section
open Go.ChangeShapes Go.WideShapes Go.ChangeAt Go.RowKit Go.Joins
open Go.ChangeMaps (open_string shut_string)
theorem adx (H:Type)(enc:TypeId×Value->H)(W:World)(base:Nat)(args:Array Value)(ds gs:List (DataW H))(before:List MemPlace)(hval:∀(j:Nat) t v,Tryz.f3.params[j]?=some t->args[j]?=some v->Value.okWide Tryz.prog W .any base t v)(hW:DataW.Whole enc Tryz.prog Tryz.f3.params.toList Rows.cutSpec.vars false W args.toList ds gs before)(hL:laidMetH Tryz.prog Rows.cutRow.laid W): Calls Tryz.prog 3 args W fun e W'=>∃v,e=.returned v/\Rows.cutSpec.post enc Tryz.prog Tryz.f3 false true false false W args v W':=by
 have hW':=hW;obtain⟨p,q,hA0,hV,rfl,hfz,hnd⟩:=hW;have hA:DataW.TrodAll enc Tryz.prog W 0 (fun _=>true) true Tryz.f3.params.toList args.toList ds p:=hA0;rw[Tryz.params3]at hA hval;obtain⟨v0,vs0,d0,ds0,p0,q0,hargs,rfl,rfl,h0,r0⟩:=trodAll_cons hA;obtain⟨v1,vs1,d1,ds1,p1,q1,adI,rfl,rfl,h1,r1⟩:=trodAll_cons r0;obtain⟨v2,vs2,d2,ds2,p2,q2,adJ,rfl,rfl,h2,r2⟩:=trodAll_cons r1;obtain⟨v3,vs3,d3,ds3,p3,q3,adK,rfl,rfl,h3,r3⟩:=trodAll_cons r2;obtain⟨v4,vs4,d4,ds4,p4,q4,adL,rfl,rfl,h4,r4⟩:=trodAll_cons r3;obtain⟨v5,vs5,d5,ds5,p5,q5,adM,rfl,rfl,h5,r5⟩:=trodAll_cons r4;obtain⟨v6,vs6,d6,ds6,p6,q6,aea,rfl,rfl,h6,r6⟩:=trodAll_cons r5;obtain⟨v7,vs7,d7,ds7,p7,q7,aeb,rfl,rfl,h7,r7⟩:=trodAll_cons r6;obtain⟨v8,vs8,d8,ds8,p8,q8,aec,rfl,rfl,h8,r8⟩:=trodAll_cons r7;obtain⟨rfl,rfl,rfl⟩:=trodAll_nil r8;obtain rfl:args=#[v0,v1,v2,v3,v4,v5,v6,v7,v8]:=by cases args;simp_all
 obtain⟨rfl,rfl⟩:=trodVars_none hV;obtain⟨x0,rfl,rfl,rfl,hm0⟩:=open_int Tryz.underlying3 (hval 0 3 v0 rfl rfl) h0;obtain⟨x1,rfl,rfl,rfl,hm1⟩:=open_int Tryz.underlying3 (hval 1 3 v1 rfl rfl) h1;obtain⟨x2,rfl,rfl,rfl,hm2⟩:=open_int Tryz.underlying3 (hval 2 3 v2 rfl rfl) h2;obtain⟨x3,rfl,rfl,rfl⟩:=open_bool Tryz.underlying4 (hval 3 4 v3 rfl rfl) h3;obtain⟨ra,rc,raw,rfl,i4,b4,m4,w4⟩:=Y8 (hval 4 22 v4 rfl rfl) h4;obtain⟨x5,rfl,rfl,rfl,hm5⟩:=open_int Tryz.underlying3 (hval 5 3 v5 rfl rfl) h5;obtain⟨x6,rfl,rfl,rfl,hm6⟩:=open_int Tryz.underlying3 (hval 6 3 v6 rfl rfl) h6;obtain⟨x7,rfl,rfl,rfl,hm7⟩:=open_int Tryz.underlying3 (hval 7 3 v7 rfl rfl) h7;obtain⟨x8,rfl,rfl,rfl,hm8⟩:=open_int Tryz.underlying3 (hval 8 3 v8 rfl rfl) h8;obtain⟨tt,fr,hT⟩:=table hL;clear hA0;simp only[abm,aa9]at hW';refine (agh x0 x1 x2 x3 ra rc raw x5 x6 x7 x8 W (Jc hm0) (Jc hm1) (Jc hm2) (Jc hm5) (Jc hm6) (Jc hm7) (Jc hm8) i4 b4 w4 (by unfold maxLen at m4;omega) tt fr hT).mono fun e W' ⟨he,hg⟩=>?_;subst he;have h4':=Below.trod Tryz.laidOut (by kernel_rfl) (of_decide_eq_true (by kernel_rfl)) h4 hg (fun x hx=>by simpa using hW'.lt x hx);refine⟨_,rfl,_,_,_,[],p4,[],hW',trodAll_cons_mk (shut_bool Tryz.underlying4 _) trodAll_mk0,?_,rfl,hg.frame _,fun h=>by cases h⟩;have hall:=trodAll_cons_mk (shut_int Tryz.underlying3 hm0) (trodAll_cons_mk (shut_int Tryz.underlying3 hm1) (trodAll_cons_mk (shut_int Tryz.underlying3 hm2) (trodAll_cons_mk (shut_bool Tryz.underlying4 x3) (trodAll_cons_mk h4' (trodAll_cons_mk (shut_int Tryz.underlying3 hm5) (trodAll_cons_mk (shut_int Tryz.underlying3 hm6) (trodAll_cons_mk (shut_int Tryz.underlying3 hm7) (trodAll_cons_mk (shut_int Tryz.underlying3 hm8) trodAll_mk0))))))));simp only[abm,aa9]at hall;exact hall
noncomputable def adp (os:Os):World :=
 { World.holding Tryz.prog os ⟨#[],#[],[]⟩ with heap:=(World.holding Tryz.prog os ⟨#[],#[],[]⟩).heap.modify 0 fun
   | .cells _ t frozen=>.cells cY t frozen
   | o=>o }
def adt:Array Value:=#[.int .i64 0,.int .i64 0,.int .i64 0,.bool false,.slice none 0 0,.int .i64 0,.int .i64 0,.int .i64 0,.int .i64 0]
theorem ady (os:Os):laidMet Tryz.prog Rows.cutRow.laid ((adp os).forCall (fun _ _=>0) ⟨#[],adt,[]⟩).memory :=
 laidMet_of_run' 8 (by kernel_rfl) (by kernel_rfl)
theorem adU (os:Os){H:Type}(enc:TypeId×Value->H):∃places,DataW.whole enc Tryz.prog ((adp os).forCall (fun _ _=>0) ⟨#[],adt,[]⟩).memory Tryz.f3.params.toList Rows.cutSpec.vars false adt.toList 8=some ([.lit (.int .i64 0),.lit (.int .i64 0),.lit (.int .i64 0),.lit (.bool false),.nil,.lit (.int .i64 0),.lit (.int .i64 0),.lit (.int .i64 0),.lit (.int .i64 0)],[],places) :=
 ⟨[],by kernel_rfl⟩
theorem adN (os:Os)(started:os.Started)(H:Type)(enc:TypeId×Value->H)(F:Stop.Interp): ReturnsInHanded {} Tryz.checked os 3 .any ((OpenSpec.ofChange Rows.cutSpec).preRow enc Tryz.prog Tryz.f3 Rows.cutRow.domain false Rows.cutRow.laid) (((OpenSpec.ofChange Rows.cutSpec).at F).post enc Tryz.prog Tryz.f3 false true false false):=by
 obtain⟨places,hx⟩:=adU os enc
 refine returnsInHanded_of_row (C:=Tryz.checked) (s:=OpenSpec.ofChange Rows.cutSpec) Tryz.own started (by kernel_rfl) Tryz.func3
  (witness_row_at (enc:=enc) (C:=Tryz.checked) false (adp os) adt rfl (by kernel_rfl) (by kernel_rfl) (by kernel_rfl)
   (OpenSpec.preRow_of_cond 8 hx (by kernel_rfl) (fun k hk=>by cases hk) (by kernel_rfl) (ady os))) ?_
 intro W base args ds gs before hval hW _ _ _ hL _ _;exact adx H enc W base args ds gs before hval hW hL
theorem aed:Rows.CutSaid :=
 OpenClaim.holds_of_cond 3 Tryz.f3 rfl rfl rfl rfl rfl rfl rfl ⟨rfl,rfl,rfl,rfl,rfl⟩ rfl rfl rfl rfl rfl (by kernel_rfl) Tryz.func3 (by kernel_rfl)
  (of_decide_eq_true (by kernel_rfl)) (by unfold Func.isWrapper;first|(rw[aai (by decide +kernel)];kernel_rfl)|(rw[aag (by decide +kernel)];exact⟨rfl,rfl⟩))
  (fun os started H enc _ F=>by rw[OpenClaim.pre_eq_preRow];exact adN os started H enc F)
theorem adV (f:FuncId)(fn:Func)(hf:Tryz.pinned.checked.prog.funcNamed "mosaic/mosaickeep.Cut"=some f)(hfn:Tryz.pinned.checked.prog.funcs[f]?=some fn): true=Tryz.pinned.checked.prog.looks []/\∀(j:Nat) t,fn.params[j]?=some t->Tryz.pinned.checked.prog.wantsStandIn t=false:=by
 obtain rfl:f=3:=aaN ((show Tryz.prog.funcNamed "mosaic/mosaickeep.Cut"=some 3 by kernel_rfl).symm.trans hf) |>.symm;obtain rfl:fn=Tryz.f3:=(aaN (Tryz.func3.symm.trans hfn)).symm;refine⟨by kernel_rfl,fun j t ht=>?_⟩;rw[Tryz.params3]at ht;have hm:=Array.mem_of_getElem? ht;simp only[List.mem_toArray,ab5,abC,or_false]at hm
 rcases hm with rfl|rfl|rfl|rfl|rfl|rfl|rfl|rfl|rfl <;>
  first
  | exact (show Tryz.prog.wantsStandIn 4=false by kernel_rfl)
  | exact (show Tryz.prog.wantsStandIn 3=false by kernel_rfl)
  | exact (show Tryz.prog.wantsStandIn 22=false by kernel_rfl)
theorem cut_card:Rows.CutCardSaid :=
 Claim7.holds_tied_plain_at .later [] _ _ _ _ aed (fun _ h=>by cases h) (by kernel_rfl) (fun _ h=>by cases h) cut_row_tie rfl ⟨rfl,rfl⟩ (by kernel_rfl) rfl adV (by kernel_rfl)
end
end Go.Proofs.YtmfijackgekioabGreatDoor
