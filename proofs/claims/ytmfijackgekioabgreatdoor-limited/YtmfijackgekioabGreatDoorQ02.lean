import Derived.Test.YtmfijackgekioabGreatDoorQA
import Derived.OrdersHeld
import Derived.Deep.RegionHeld
import Derived.Test.YtmfijackgekioabGreatDoorRows
import Derived.WalkKit
import Derived.WalkSpells
import Derived.WalkLawsBesides
import Derived.BigQuiet
import Derived.Deep.QuietTactic
import Derived.Laws.CopyOwn
namespace Go.Proofs.YtmfijackgekioabGreatDoor
section
variable {P:Program} {ops:Array Oper} {Q:Exit->Act->World->Prop} {md:Region.Mode} {S:World->Prop} {z:Nat}
def gw (P:Program)(md:Region.Mode)(ops:Array Oper)(Q:Exit->Act->World->Prop)(S:World->Prop)(z:Nat)(fuel:Nat)(listed:Array Bool)(a:Act)(w:World):Prop :=
 match fuel with
 | 0=>Region.ready md ops listed=[]/\Q .normal a w
 | fuel+1=>(Region.ready md ops listed=[]->Q .normal a w)/\∀i,i∈Region.ready md ops listed->wpOp P ops Q i (fun a' w'=>(i≠z->S w')/\gw P md ops Q S z fuel (listed.setIfInBounds i true) a' w') a w
theorem Jw (fuel:Nat):∀(listed:Array Bool) (a:Act) (w:World),gw P md ops Q S z fuel listed a w->wpAny P md ops Q fuel listed a w:=by
 induction fuel with
 | zero=>intro _ _ _ h;exact h
 | succ fuel ih =>
  intro listed a w h;obtain⟨h0,h1⟩:=h;exact⟨h0,fun i hi=>wpOp_mono (fun a' w' hh=>ih _ a' w' hh.2) (h1 i hi)⟩
theorem CF {i:Nat}{oi:Oper}{v:Value}(hi:ops[i]?=some oi)(hs:Region.noSelect ops=true)(hQ:∀c a w,Q (.panic c) (a.put oi.dst v) w->Q (.panic c) a w)(hz:∀oz,ops[z]?=some oz->∃e,e∈oz.after/\Region.binds md e=true/\e.on=i)(fuel:Nat): ∀(listed:Array Bool) (a:Act) (w:World),(∀j oj,ops[j]?=some oj->j≠i->listed.getD j true=false->(∀e∈oj.after,Region.binds md e=true->e.on≠i)->oi.apart ops oj=true) -> i∈Region.ready md ops listed->YieldsIf P ops S oi v a->S w->gw P md ops Q S z fuel (listed.setIfInBounds i true) (a.put oi.dst v) w->gw P md ops Q S z (fuel+1) listed a w:=by
 have hsel:=Region.noSelect_spec hs
 induction fuel with
 | zero =>
  intro listed a w _ hr hy hS H;refine⟨fun e=>absurd hr (by rw[e];exact abC),fun j hj=>?_⟩;by_cases e:j=i
  ·rw[e];exact hy.wpOp hi hS ⟨fun _=>hS,H⟩
  ·exact absurd (ready_mono hj e) (by rw[H.1];exact abC)
 | succ fuel ih =>
  intro listed a w hfree hr hy hS H;refine⟨fun e=>absurd hr (by rw[e];exact abC),fun j hj=>?_⟩;by_cases e:j=i
  ·rw[e];exact hy.wpOp hi hS ⟨fun _=>hS,H⟩
  ·obtain⟨hun,oj,hoj,hall⟩:=mem_ready.1 hj
   have hno:∀x∈oj.after,Region.binds md x=true->x.on≠i:=by
    intro x hx hb hxi;have q1:=hall x hx hb;have q0:=(mem_ready.1 hr).1;rw[hxi]at q1;by_cases hlt:i<listed.size
    ·simp[hlt]at q0 q1;rw[q0]at q1;cases q1
    ·simp[Array.getElem?_eq_none (Nat.le_of_not_lt hlt)]at q1
   have hjz:j≠z:=by
    rintro rfl;obtain⟨x,hx,hb,hxi⟩:=hz oj hoj;exact hno x hx hb hxi
   have step:=wpOp_putIf hoj (hfree j oj hoj e hun hno) (fun cs b=>hsel i oi cs b hi) (fun cs b=>hsel j oj cs b hoj) hQ hy (H.2 j (ready_mono hj e));refine wpOp_mono (fun a' w' hh=>⟨fun _=>hh.2.1 hjz,ih (listed.setIfInBounds j true) a' w' ?_ (ready_mono hr (ac0 e)) hh.1 (hh.2.1 hjz) ?_⟩) step
   ·intro k ok hk hki Vu aab;refine hfree k ok hk hki ?_ aab;by_cases ejk:j=k
    ·rw[<-ejk];exact hun
    ·rw[getD_set_ne true ejk]at Vu;exact Vu
   ·rw[Array.setIfInBounds_comm _ _ e];exact hh.2.2
def waits (md:Region.Mode)(ops:Array Oper)(z i:Nat):Bool:=match ops[z]? with
 | some oz=>oz.after.any fun e=>Region.binds md e&&e.on==i
 | none=>true
theorem CG {i:Nat}(h:waits md ops z i=true)(oz:Oper)(ho:ops[z]?=some oz):∃e,e∈oz.after/\Region.binds md e=true/\e.on=i:=by
 unfold waits at h;rw[ho]at h;simp only[Array.any_eq_true',aaQ,beq_iff_eq]at h;obtain⟨e,h1,h2,h3⟩:=h;exact⟨e,h1,h2,h3⟩
theorem wE {i:Nat}{oi:Oper}{v:Value}{fuel:Nat}{listed:Array Bool}{a:Act}{w:World}(hi:ops[i]?=some oi)(hs:Region.noSelect ops=true)(hf:Region.free md ops listed i=true)(hr:(Region.ready md ops listed).contains i=true)(hz:waits md ops z i=true)(hQ:∀c a w,Q (.panic c) (a.put oi.dst v) w->Q (.panic c) a w)(hw:Region.wanted oi (yielded ops a.tmps)=true)(hy:∀w,S w->(execOp a.eval oi).run P w=.ok (.value v) w)(hS:S w)(h:gw P md ops Q S z fuel (listed.setIfInBounds i true) (a.put oi.dst v) w):gw P md ops Q S z (fuel+1) listed a w :=
 CF hi hs hQ (CG hz) fuel listed a w (Region.free_spec hi hf) (by simpa using hr) (.inl ⟨hw,hy⟩) hS h
theorem Jx {i:Nat}{o:Oper}{fuel:Nat}{listed:Array Bool}{a:Act}{w:World}(hr:Region.ready md ops listed=[i])(ho:ops[i]?=some o)(h:∀K':Act->World->Prop,(∀a w,(i≠z->S w)->gw P md ops Q S z fuel (listed.setIfInBounds i true) a w->K' a w)->if Region.wanted o (yielded ops a.tmps)=true then Oper.wp P o a w K' Q else K' (a.put o.dst undef) w): gw P md ops Q S z (fuel+1) listed a w:=by
 refine⟨fun e=>?_,fun j hj=>?_⟩
 ·rw[hr]at e;cases e
 ·rw[hr]at hj;have e:j=i:=by simpa using hj
  subst e;exact wpOp_step ho (fun K' hK=>h K' (fun a w hS hW=>hK a w ⟨hS,hW⟩))
theorem Gq {listed:Array Bool}{a:Act}{w:World}(hr:Region.ready md ops listed=[])(h:Q .normal a w):∀fuel,gw P md ops Q S z fuel listed a w
 | 0=>⟨hr,h⟩
 | _+1=>⟨fun _=>h,by rw[hr];simp⟩
theorem Ni {id:Nat}{a:Act}{w:World}(hm:P.follows .mixedOrders=true)(S:World->Prop)(z:Nat)(h:gw P .any ops Q S z ops.size (Array.replicate ops.size false) a w.drew):(Code.region id ops true).wp P Q a w:=wp_region_any hm (Jw _ _ _ _ h)
end
def UJ (_:List Nat)(G:Prop):Prop:=G
theorem ap {G:Prop}(l:List Nat)(h:UJ l G):G:=h
theorem aj {G:Prop}(h:G):UJ [] G:=h
section
variable {P:Program} {ops:Array Oper} {Q:Exit->Act->World->Prop} {md:Region.Mode} {S:World->Prop}
def z9 (md:Region.Mode)(ops:Array Oper)(listed:Array Bool)(z i:Nat)(oi:Oper)(X:Array Value):Bool :=
 Region.noSelect ops&&(Region.free md ops listed i&&((Region.ready md ops listed).contains i&&(waits md ops z i&&Region.wanted oi (yielded ops X))))
theorem aD {z:Nat}(i:Nat){oi:Oper}{v:Value}{fuel:Nat}{listed:Array Bool}{a:Act}{w:World}(hy:∀w,S w->(execOp a.eval oi).run P w=.ok (.value v) w)(hS:S w)(h:gw P md ops Q S z fuel (listed.setIfInBounds i true) (a.put oi.dst v) w)(hi:ops[i]?=some oi:=by rfl)(hk:z9 md ops listed z i oi a.tmps=true:=by kernel_rfl)(hQ:∀c a w,Q (.panic c) (a.put oi.dst v) w->Q (.panic c) a w:=by exact fun _ _ _ h=>h):gw P md ops Q S z (fuel+1) listed a w:=by
 unfold z9 at hk;simp only[aaQ]at hk;exact wE hi hk.1 hk.2.1 hk.2.2.1 hk.2.2.2.1 hQ hk.2.2.2.2 hy hS h
theorem au {z i:Nat}{is:List Nat}{oi:Oper}{v:Value}{fuel:Nat}{listed:Array Bool}{a:Act}{w:World}(hy:∀w,S w->(execOp a.eval oi).run P w=.ok (.value v) w)(hS:S w)(h:UJ is (gw P md ops Q S z fuel (listed.setIfInBounds i true) (a.put oi.dst v) w))(hi:ops[i]?=some oi:=by rfl)(hk:z9 md ops listed z i oi a.tmps=true:=by kernel_rfl)(hQ:∀c a w,Q (.panic c) (a.put oi.dst v) w->Q (.panic c) a w:=by exact fun _ _ _ h=>h):UJ (i::is) (gw P md ops Q S z (fuel+1) listed a w):=aD i hy hS h hi hk hQ
theorem ag {z:Nat}(i:Nat){o:Oper}{fuel:Nat}{listed:Array Bool}{a:Act}{w:World}(h:∀K':Act->World->Prop,(∀a w,(i≠z->S w)->gw P md ops Q S z fuel (listed.setIfInBounds i true) a w->K' a w)->if Region.wanted o (yielded ops a.tmps)=true then Oper.wp P o a w K' Q else K' (a.put o.dst undef) w)(hr:Region.ready md ops listed=[i]:=by kernel_rfl)(ho:ops[i]?=some o:=by rfl):gw P md ops Q S z (fuel+1) listed a w:=Jx hr ho h
theorem am {z fuel:Nat}{listed:Array Bool}{a:Act}{w:World}(h:Q .normal a w)(hr:Region.ready md ops listed=[]:=by kernel_rfl):gw P md ops Q S z fuel listed a w:=Gq hr h fuel
theorem ax {id:Nat}{a:Act}{w:World}(S:World->Prop)(z:Nat)(h:gw P .any ops Q S z ops.size (Array.replicate ops.size false) a w.drew)(hm:P.follows .mixedOrders=true:=by kernel_rfl):(Code.region id ops true).wp P Q a w:=Ni hm S z h
end
section
open Go.RowKit
structure Kp (S:Nat->Prop) (w w':World):Prop where
 os:w'.os=w.os
 tape:w'.tape=w.tape
 output:w'.output=w.output
 size:w.heap.size<=w'.heap.size
 block:∀k,k<w.heap.size->¬S k->w'.heap[k]?=w.heap[k]?
theorem Kp.refl (S:Nat->Prop)(w:World):Kp S w w:=⟨rfl,rfl,rfl,aaf _,fun _ _ _=>rfl⟩
theorem Kp.trans {S:Nat->Prop}{a b c:World}(h:Kp S a b)(k:Kp S b c):Kp S a c :=
 ⟨k.os.trans h.os,k.tape.trans h.tape,k.output.trans h.output,aba h.size k.size,fun i hi hs=>(k.block i (aa3 hi h.size) hs).trans (h.block i hi hs)⟩
theorem Kp.mono {S T:Nat->Prop}{w w':World}(h:Kp S w w')(hT:∀k,k<w.heap.size->S k->T k):Kp T w w' :=
 ⟨h.os,h.tape,h.output,h.size,fun k hk hs=>h.block k hk (fun hs'=>hs (hT k hk hs'))⟩
theorem Kp.then {S T:Nat->Prop}{a b c:World}(h:Kp S a b)(k:Kp T b c)(hT:∀i,i<a.heap.size->T i->S i):Kp S a c :=
 ⟨k.os.trans h.os,k.tape.trans h.tape,k.output.trans h.output,aba h.size k.size,fun i hi hs=>(k.block i (aa3 hi h.size) (fun ht=>hs (hT i hi ht))).trans (h.block i hi hs)⟩
theorem Kp.drew {S:Nat->Prop}{a w:World}(h:Kp S a w):Kp S a w.drew:=⟨h.os,h.tape,h.output,h.size,h.block⟩
theorem Kp.drewN {S:Nat->Prop}{a w:World}(h:Kp S a w)(n:Nat):Kp S a (w.drewN n):=⟨h.os,h.tape,h.output,h.size,h.block⟩
theorem Kp.alloc {S:Nat->Prop}{a w:World}(h:Kp S a w)(o:Obj):Kp S a (w.alloc o) :=
 h.trans ⟨rfl,rfl,rfl,by simp,fun k hk _=>abV _ _ _ hk⟩
theorem Kp.setCell {S:Nat->Prop}{a w:World}(h:Kp S a w){p:Addr}(hp:S p.block\/a.heap.size<=p.block)(u:Value):Kp S a (w.setCell p u) :=
 ⟨h.os,h.tape,h.output,by have:=h.size;simpa[World.setCell]using this,fun k hk hs=>(aam _ _ _ _ (fun e=>by subst e;rcases hp with hp|hp;exact hs hp;omega)).trans (h.block k hk hs)⟩
theorem Kp.grown {S:Nat->Prop}{a w w':World}{row:Option Nat}(h:Kp S a w)(hg:w.grownBy w' row)(hr:∀k,row=some k->S k\/a.heap.size<=k):Kp S a w' :=
 ⟨hg.os.trans h.os,hg.tape.trans h.tape,hg.output.trans h.output,aba h.size hg.size,fun k hk hs=>(hg.block k (aa3 hk h.size) (fun e=>by rcases hr k e.symm with hp|hp;exact hs hp;omega)).trans (h.block k hk hs)⟩
theorem Kp.cell {S:Nat->Prop}{w w':World}(h:Kp S w w'){p:Addr}(hp:p.block<w.heap.size)(hs:¬S p.block):w'.cell? p=w.cell? p:=World.cell?_of_block (w:=w) (h.block p.block hp hs)
theorem Kp.below {S:Nat->Prop}{w w':World}(h:Kp S w w'){B:Nat}(hB:B<=w.heap.size)(hS:∀k,k<w.heap.size->S k->B<=k):Below B w w' :=
 ⟨h.os,h.tape,h.output,h.size,fun k hk=>h.block k (by omega) (fun hs=>by have:=hS k (by omega) hs;omega)⟩
theorem Kp.aH {S:Nat->Prop}{w w':World}(h:Below w.heap.size w w'):Kp S w w':=⟨h.os,h.tape,h.output,h.size,fun k hk _=>h.block k hk⟩
theorem Kp.toBelow {w w':World}(h:Kp (fun _=>False) w w'):Below w.heap.size w w':=h.below (aaf _) (fun _ _ hf=>hf.elim)
theorem ah (w:World)(o:Obj):(w.alloc o).heap[w.heap.size]?=some o:=heap_alloc_new w o
theorem ak {w:World}{k:Nat}{o':Obj}(h:w.heap[k]?=some o')(o:Obj):(w.alloc o).heap[k]?=some o':=by
 rw[abV _ _ _ (aac h)];exact h
theorem aK {k:IntKind}{a b:Int}(h:a=b):Ending.returned (.int k a)=.returned (.int k b):=by rw[h]
theorem aO {a b:Bool}(h:a=b):Ending.returned (.bool a)=.returned (.bool b):=by rw[h]
def Ints (w:World)(ao:Option Addr)(zs:List Int):Prop :=
 ∀j,(h:j<zs.length)->∃b off,ao=some ⟨b,off,none⟩/\w.cell? ⟨b,off+j,none⟩=some (.int .i64 zs[j])
theorem ne_of_lt {α:Type}{zs:List α}{k:Nat}(h:k<zs.length):zs≠[]:=by intro e;rw[e]at h;exact absurd h (adk _)
theorem Ints.below {w w':World}{ao:Option Addr}{zs:List Int}{B:Nat}(h:Ints w ao zs)(hb:Below B w w')(ha:∀a,ao=some a->zs≠[]->a.block<B):Ints w' ao zs:=by
 intro j hj;obtain⟨b,off,e,hc⟩:=h j hj;exact⟨b,off,e,(hb.cell (p:=⟨b,off+j,none⟩) (ha ⟨b,off,none⟩ e (ne_of_lt hj))).trans hc⟩
theorem aV {w:World}{base e n:Nat}{v:Value}{xs:List Value}(h:w.ownsRow base e 1 v n xs): ∃ao cap,v=.slice ao n cap:=by
 rcases h.2 with⟨rfl,rfl⟩|⟨g,cap,cur,rfl,hb,hg,hnc,hcm,hcs,htake⟩
 ·exact⟨_,_,rfl⟩
 ·exact⟨_,_,rfl⟩
theorem Tryz.info3:(Tryz.prog.info? 3).map (fun i=>(i.zero,i.size,i.bytes))=some (some (.int .i64 0),1,8):=by kernel_rfl
abbrev vals (zs:List Int):List Value:=zs.map (Value.int .i64)
end
section
variable {P:Program} {ops:Array Oper} {Q:Exit->Act->World->Prop} {md:Region.Mode} {S:World->Prop} {z:Nat}
theorem fw {i j:Nat}{o p:Oper}{fuel:Nat}{listed:Array Bool}{a:Act}{w:World}(hr:Region.ready md ops listed=[i,j])(ho:ops[i]?=some o)(hp:ops[j]?=some p)(h1:∀K':Act->World->Prop,(∀a w,(i≠z->S w)->gw P md ops Q S z fuel (listed.setIfInBounds i true) a w->K' a w)->if Region.wanted o (yielded ops a.tmps)=true then Oper.wp P o a w K' Q else K' (a.put o.dst undef) w)(h2:∀K':Act->World->Prop,(∀a w,(j≠z->S w)->gw P md ops Q S z fuel (listed.setIfInBounds j true) a w->K' a w)->if Region.wanted p (yielded ops a.tmps)=true then Oper.wp P p a w K' Q else K' (a.put p.dst undef) w): gw P md ops Q S z (fuel+1) listed a w:=by
 refine⟨fun e=>?_,fun k hk=>?_⟩
 ·rw[hr]at e;cases e
 ·rw[hr]at hk;have e:k=i\/k=j:=by simpa using hk
  rcases e with e|e
  ·subst e;exact wpOp_step ho (fun K' hK=>h1 K' (fun a w hS hW=>hK a w ⟨hS,hW⟩))
  ·subst e;exact wpOp_step hp (fun K' hK=>h2 K' (fun a w hS hW=>hK a w ⟨hS,hW⟩))
end
end Go.Proofs.YtmfijackgekioabGreatDoor
