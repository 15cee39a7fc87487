import Derived.Test.YtmfijackgekioaaGreatDoorQ50
import Derived.JoinedCond
set_option maxRecDepth 100000
namespace Go.Proofs.YtmfijackgekioaaGreatDoor
open Go.ChangeShapes Go.WideShapes Go.ChangeAt Go.RowKit Go.Joins
theorem gW {n:Int}(h:(Lit.int .i64 n).wf=true):OO n:=by
 have h9:=h;simp[Lit.wf,IntKind.min,IntKind.max,IntKind.bits,IntKind.signed]at h9;exact⟨by omega,by omega⟩
section
variable {H:Type} {enc:TypeId×Value->H} {W:World}
theorem L9 {base:Nat}{v:Value}{d:DataW H}{p:List MemPlace}(hv:Value.okWide Tryz.prog W .any base 24 v)(h:DataW.Trod enc Tryz.prog W 0 (fun _=>true) true 24 v d p): ∃(ao:Option Addr) (cap:Nat) (zs:List Int),v=.slice ao zs.length cap/\Ints W ao zs/\(∀a,ao=some a->zs≠[]->a.block<W.heap.size)/\zs.length<=maxLen/\(∀y∈zs,OO y):=by
 obtain⟨a0,n0,c0,rfl⟩:=okWide_slice Tryz.underlying24 hv;obtain⟨fuel,hf⟩:=h;rcases open_ints Tryz.underlying24 Tryz.underlying3 wL hf with⟨hcs,hx⟩|⟨a,len,cap,zs,hcs,_,hl,hm,hz,hx,hcell,hwz⟩
 ·have e:(Value.slice a0 n0 c0)=.slice none 0 0:=List.head_eq_of_cons_eq hcs;exact⟨none,0,[],e,fun j hj=>absurd hj (Nat.not_lt_zero _),fun a e _=>(by cases e),Nat.zero_le _,fun y hy=>absurd hy (List.not_mem_nil)⟩
 ·have e:(Value.slice a0 n0 c0)=.slice (some a) len cap:=List.head_eq_of_cons_eq hcs;have hzl:zs.length=cap:=by simpa using hz
  have hlen:(zs.take len).length=len:=by rw[List.length_take];omega
  refine⟨some a,cap,zs.take len,e.trans (by rw[hlen]),?_,?_,by rw[hlen];omega,fun y hy=>gW (hwz y (List.mem_of_mem_take hy))⟩
  ·intro j hj;rw[hlen]at hj;obtain⟨b,off,rfl,hc⟩:=ints_at hcell (by omega);refine⟨b,off,rfl,?_⟩;rw[hc j (by omega)];simp[List.getD,List.getElem?_eq_getElem (show j<zs.length by omega)]
  ·intro a' e hne;cases e
   have h0:0<zs.length:=by
    cases zs with
    | nil=>simp at hne
    | cons z r=>simp
   obtain⟨b,off,rfl,hc⟩:=ints_at hcell h0;exact World.block_lt_of_cell? W ⟨b,off+0,none⟩ (hc 0 h0)
end
theorem DI (H:Type)(enc:TypeId×Value->H)(W:World)(base:Nat)(args:Array Value)(ds gs:List (DataW H))(before:List MemPlace)(hval:∀(j:Nat) t v,Tryz.f5.params[j]?=some t->args[j]?=some v->Value.okWide Tryz.prog W .any base t v)(hW:DataW.Whole enc Tryz.prog Tryz.f5.params.toList Rows.keptSpec.vars false W args.toList ds gs before)(hL:laidMetH Tryz.prog Rows.keptRow.laid W): Calls Tryz.prog 5 args W fun e W'=>∃v,e=.returned v/\Rows.keptSpec.post enc Tryz.prog Tryz.f5 false true false false W args v W':=by
 have hW':=hW;obtain⟨p,q,hA0,hV,rfl,hfz,hnd⟩:=hW;have hA:DataW.TrodAll enc Tryz.prog W 0 (fun _=>true) true Tryz.f5.params.toList args.toList ds p:=hA0;rw[Tryz.params5]at hA hval;obtain⟨v0,vs0,d0,ds0,p0,q0,hargs,rfl,rfl,h0,r0⟩:=trodAll_cons hA;obtain⟨v1,vs1,d1,ds1,p1,q1,abT,rfl,rfl,h1,r1⟩:=trodAll_cons r0;obtain⟨v2,vs2,d2,ds2,p2,q2,abU,rfl,rfl,h2,r2⟩:=trodAll_cons r1;obtain⟨v3,vs3,d3,ds3,p3,q3,abV,rfl,rfl,h3,r3⟩:=trodAll_cons r2;obtain⟨v4,vs4,d4,ds4,p4,q4,abW,rfl,rfl,h4,r4⟩:=trodAll_cons r3;obtain⟨v5,vs5,d5,ds5,p5,q5,abX,rfl,rfl,h5,r5⟩:=trodAll_cons r4;obtain⟨v6,vs6,d6,ds6,p6,q6,abY,rfl,rfl,h6,r6⟩:=trodAll_cons r5;obtain⟨v7,vs7,d7,ds7,p7,q7,abZ,rfl,rfl,h7,r7⟩:=trodAll_cons r6;obtain⟨rfl,rfl,rfl⟩:=trodAll_nil r7;obtain rfl:args=#[v0,v1,v2,v3,v4,v5,v6,v7]:=by cases args;simp_all
 obtain⟨rfl,rfl⟩:=trodVars_none hV;obtain⟨x0,rfl,rfl,rfl,hm0⟩:=open_int Tryz.underlying3 (hval 0 3 v0 rfl rfl) h0;obtain⟨x1,rfl,rfl,rfl,hm1⟩:=open_int Tryz.underlying3 (hval 1 3 v1 rfl rfl) h1;obtain⟨x2,rfl,rfl,rfl,hm2⟩:=open_int Tryz.underlying3 (hval 2 3 v2 rfl rfl) h2;obtain⟨x3,rfl,rfl,rfl⟩:=open_bool Tryz.underlying4 (hval 3 4 v3 rfl rfl) h3;obtain⟨ra,rc,raw,rfl,i4,b4,m4,w4⟩:=L9 (hval 4 24 v4 rfl rfl) h4;obtain⟨x5,rfl,rfl,rfl,hm5⟩:=open_int Tryz.underlying3 (hval 5 3 v5 rfl rfl) h5;obtain⟨x6,rfl,rfl,rfl,hm6⟩:=open_int Tryz.underlying3 (hval 6 3 v6 rfl rfl) h6;obtain⟨x7,rfl,rfl,rfl,hm7⟩:=open_int Tryz.underlying3 (hval 7 3 v7 rfl rfl) h7;obtain⟨tt,fr,hT⟩:=table hL;clear hA0;simp only[List.append_nil,List.nil_append]at hW';refine (XZ x0 x1 x2 x3 ra rc raw x5 x6 x7 W (gW hm0) (gW hm1) (gW hm2) (gW hm5) (gW hm6) (gW hm7) i4 b4 w4 (by unfold maxLen at m4;omega) tt fr hT).mono fun e W' ⟨he,hg⟩=>?_;subst he;have h4':=Below.trod Tryz.laidOut (by kernel_rfl) (of_decide_eq_true (by kernel_rfl)) h4 hg (fun x hx=>by simpa using hW'.lt x hx);refine⟨_,rfl,_,_,_,[],p4,[],hW',trodAll_cons_mk (shut_bool Tryz.underlying4 _) trodAll_mk0,?_,rfl,hg.frame _,fun h=>by cases h⟩;have hall:=trodAll_cons_mk (shut_int Tryz.underlying3 hm0) (trodAll_cons_mk (shut_int Tryz.underlying3 hm1) (trodAll_cons_mk (shut_int Tryz.underlying3 hm2) (trodAll_cons_mk (shut_bool Tryz.underlying4 x3) (trodAll_cons_mk h4' (trodAll_cons_mk (shut_int Tryz.underlying3 hm5) (trodAll_cons_mk (shut_int Tryz.underlying3 hm6) (trodAll_cons_mk (shut_int Tryz.underlying3 hm7) trodAll_mk0)))))));simp only[List.append_nil,List.nil_append]at hall;exact hall
noncomputable def nC (os:Os):World :=
 { World.holding Tryz.prog os ⟨#[],#[],[]⟩ with heap:=(World.holding Tryz.prog os ⟨#[],#[],[]⟩).heap.modify 0 fun
   | .cells _ t frozen=>.cells cA t frozen
   | o=>o }
def yJ:Array Value:=#[.int .i64 0,.int .i64 0,.int .i64 0,.bool false,.slice none 0 0,.int .i64 0,.int .i64 0,.int .i64 0]
theorem DJ (os:Os):laidMet Tryz.prog Rows.keptRow.laid ((nC os).forCall (fun _ _=>0) ⟨#[],yJ,[]⟩).memory :=
 laidMet_of_run' 8 (by kernel_rfl) (by kernel_rfl)
theorem OP (os:Os){H:Type}(enc:TypeId×Value->H):∃places,DataW.whole enc Tryz.prog ((nC os).forCall (fun _ _=>0) ⟨#[],yJ,[]⟩).memory Tryz.f5.params.toList Rows.keptSpec.vars false yJ.toList 8=some ([.lit (.int .i64 0),.lit (.int .i64 0),.lit (.int .i64 0),.lit (.bool false),.nil,.lit (.int .i64 0),.lit (.int .i64 0),.lit (.int .i64 0)],[],places) :=
 ⟨[],by kernel_rfl⟩
theorem Ma (os:Os)(started:os.Started)(H:Type)(enc:TypeId×Value->H)(F:Stop.Interp): ReturnsInHanded {} Tryz.checked os 5 .any ((OpenSpec.ofChange Rows.keptSpec).preRow enc Tryz.prog Tryz.f5 Rows.keptRow.domain false Rows.keptRow.laid) (((OpenSpec.ofChange Rows.keptSpec).at F).post enc Tryz.prog Tryz.f5 false true false false):=by
 obtain⟨places,hx⟩:=OP os enc
 refine returnsInHanded_of_row (C:=Tryz.checked) (s:=OpenSpec.ofChange Rows.keptSpec) Tryz.own started (by kernel_rfl) Tryz.func5
  (witness_row_at (enc:=enc) (C:=Tryz.checked) false (nC os) yJ rfl (by kernel_rfl) (by kernel_rfl) (by kernel_rfl)
   (OpenSpec.preRow_of_cond 8 hx (by kernel_rfl) (fun k hk=>by cases hk) (by kernel_rfl) (DJ os))) ?_
 intro W base args ds gs before hval hW _ _ _ hL _ _;exact DI H enc W base args ds gs before hval hW hL
theorem Ty:Rows.KeptSaid :=
 OpenClaim.holds_of_cond 5 Tryz.f5 rfl rfl rfl rfl rfl rfl rfl ⟨rfl,rfl,rfl,rfl,rfl⟩ rfl rfl rfl rfl rfl (by kernel_rfl) Tryz.func5 (by kernel_rfl)
  (of_decide_eq_true (by kernel_rfl)) (by unfold Func.isWrapper;first|(rw[if_pos (by decide +kernel)];kernel_rfl)|(rw[if_neg (by decide +kernel)];exact⟨rfl,rfl⟩))
  (fun os started H enc _ F=>by rw[OpenClaim.pre_eq_preRow];exact Ma os started H enc F)
theorem OQ (f:FuncId)(fn:Func)(hf:Tryz.pinned.checked.prog.funcNamed "mosaic/mosaickeep.Kept"=some f)(hfn:Tryz.pinned.checked.prog.funcs[f]?=some fn): true=Tryz.pinned.checked.prog.looks []/\∀(j:Nat) t,fn.params[j]?=some t->Tryz.pinned.checked.prog.wantsStandIn t=false:=by
 obtain rfl:f=5:=Option.some.inj ((show Tryz.prog.funcNamed "mosaic/mosaickeep.Kept"=some 5 by kernel_rfl).symm.trans hf) |>.symm;obtain rfl:fn=Tryz.f5:=(Option.some.inj (Tryz.func5.symm.trans hfn)).symm;refine⟨by kernel_rfl,fun j t ht=>?_⟩;rw[Tryz.params5]at ht;have hm:=Array.mem_of_getElem? ht;simp only[List.mem_toArray,List.mem_cons,List.not_mem_nil,or_false]at hm
 rcases hm with rfl|rfl|rfl|rfl|rfl|rfl|rfl|rfl <;>
  first
  | exact (show Tryz.prog.wantsStandIn 3=false by kernel_rfl)
  | exact (show Tryz.prog.wantsStandIn 4=false by kernel_rfl)
  | exact (show Tryz.prog.wantsStandIn 24=false by kernel_rfl)
theorem kept_card:Rows.KeptCardSaid :=
 Claim7.holds_tied_plain_at .later [] _ _ _ _ Ty (fun _ h=>by cases h) (by kernel_rfl) (fun _ h=>by cases h) kept_row_tie rfl ⟨rfl,rfl⟩ (by kernel_rfl) rfl OQ (by kernel_rfl)
end Go.Proofs.YtmfijackgekioaaGreatDoor
