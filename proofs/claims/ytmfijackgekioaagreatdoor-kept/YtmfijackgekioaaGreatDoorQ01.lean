import Derived.OrdersHeld
import Derived.Deep.RegionHeld
import Derived.Test.YtmfijackgekioaaGreatDoorRows
import Derived.WalkKit
import Derived.WalkSpells
import Derived.WalkLawsBesides
import Derived.BigQuiet
import Derived.Deep.QuietTactic
import Derived.Laws.CopyOwn
namespace Go.Proofs.YtmfijackgekioaaGreatDoor
section
variable {P:Program} {ops:Array Oper} {Q:Exit->Act->World->Prop} {md:Region.Mode} {S:World->Prop} {z:Nat}
def iJ (P:Program)(md:Region.Mode)(ops:Array Oper)(Q:Exit->Act->World->Prop)(S:World->Prop)(z:Nat)(fuel:Nat)(listed:Array Bool)(a:Act)(w:World):Prop :=
 match fuel with
 | 0=>Region.ready md ops listed=[]/\Q .normal a w
 | fuel+1=>(Region.ready md ops listed=[]->Q .normal a w)/\∀i,i∈Region.ready md ops listed->wpOp P ops Q i (fun a' w'=>(i≠z->S w')/\iJ P md ops Q S z fuel (listed.setIfInBounds i true) a' w') a w
theorem Iu (fuel:Nat):∀(listed:Array Bool) (a:Act) (w:World),iJ P md ops Q S z fuel listed a w->wpAny P md ops Q fuel listed a w:=by
 induction fuel with
 | zero=>intro _ _ _ h;exact h
 | succ fuel ih =>
  intro listed a w h;obtain⟨h0,h1⟩:=h;exact⟨h0,fun i hi=>wpOp_mono (fun a' w' hh=>ih _ a' w' hh.2) (h1 i hi)⟩
theorem Bs {i:Nat}{oi:Oper}{v:Value}(hi:ops[i]?=some oi)(hs:Region.noSelect ops=true)(hQ:∀c a w,Q (.panic c) (a.put oi.dst v) w->Q (.panic c) a w)(hz:∀oz,ops[z]?=some oz->∃e,e∈oz.after/\Region.binds md e=true/\e.on=i)(fuel:Nat): ∀(listed:Array Bool) (a:Act) (w:World),(∀j oj,ops[j]?=some oj->j≠i->listed.getD j true=false->(∀e∈oj.after,Region.binds md e=true->e.on≠i)->oi.apart ops oj=true) -> i∈Region.ready md ops listed->YieldsIf P ops S oi v a->S w->iJ P md ops Q S z fuel (listed.setIfInBounds i true) (a.put oi.dst v) w->iJ P md ops Q S z (fuel+1) listed a w:=by
 have hsel:=Region.noSelect_spec hs
 induction fuel with
 | zero =>
  intro listed a w _ hr hy hS H;refine⟨fun e=>absurd hr (by rw[e];exact List.not_mem_nil),fun j hj=>?_⟩;by_cases e:j=i
  ·rw[e];exact hy.wpOp hi hS ⟨fun _=>hS,H⟩
  ·exact absurd (ready_mono hj e) (by rw[H.1];exact List.not_mem_nil)
 | succ fuel ih =>
  intro listed a w hfree hr hy hS H;refine⟨fun e=>absurd hr (by rw[e];exact List.not_mem_nil),fun j hj=>?_⟩;by_cases e:j=i
  ·rw[e];exact hy.wpOp hi hS ⟨fun _=>hS,H⟩
  ·obtain⟨hun,oj,hoj,hall⟩:=mem_ready.1 hj
   have hno:∀x∈oj.after,Region.binds md x=true->x.on≠i:=by
    intro x hx hb hxi;have q1:=hall x hx hb;have q0:=(mem_ready.1 hr).1;rw[hxi]at q1;by_cases hlt:i<listed.size
    ·simp[hlt]at q0 q1;rw[q0]at q1;cases q1
    ·simp[Array.getElem?_eq_none (Nat.le_of_not_lt hlt)]at q1
   have hjz:j≠z:=by
    rintro rfl;obtain⟨x,hx,hb,hxi⟩:=hz oj hoj;exact hno x hx hb hxi
   have step:=wpOp_putIf hoj (hfree j oj hoj e hun hno) (fun cs b=>hsel i oi cs b hi) (fun cs b=>hsel j oj cs b hoj) hQ hy (H.2 j (ready_mono hj e));refine wpOp_mono (fun a' w' hh=>⟨fun _=>hh.2.1 hjz,ih (listed.setIfInBounds j true) a' w' ?_ (ready_mono hr (Ne.symm e)) hh.1 (hh.2.1 hjz) ?_⟩) step
   ·intro k ok hk hki Ur YY;refine hfree k ok hk hki ?_ YY;by_cases ejk:j=k
    ·rw[<-ejk];exact hun
    ·rw[getD_set_ne true ejk]at Ur;exact Ur
   ·rw[Array.setIfInBounds_comm _ _ e];exact hh.2.2
def waits (md:Region.Mode)(ops:Array Oper)(z i:Nat):Bool:=match ops[z]? with
 | some oz=>oz.after.any fun e=>Region.binds md e&&e.on==i
 | none=>true
theorem Bt {i:Nat}(h:waits md ops z i=true)(oz:Oper)(ho:ops[z]?=some oz):∃e,e∈oz.after/\Region.binds md e=true/\e.on=i:=by
 unfold waits at h;rw[ho]at h;simp only[Array.any_eq_true',Bool.and_eq_true,beq_iff_eq]at h;obtain⟨e,h1,h2,h3⟩:=h;exact⟨e,h1,h2,h3⟩
theorem aw {i:Nat}{oi:Oper}{v:Value}{fuel:Nat}{listed:Array Bool}{a:Act}{w:World}(hi:ops[i]?=some oi)(hs:Region.noSelect ops=true)(hf:Region.free md ops listed i=true)(hr:(Region.ready md ops listed).contains i=true)(hz:waits md ops z i=true)(hQ:∀c a w,Q (.panic c) (a.put oi.dst v) w->Q (.panic c) a w)(hw:Region.wanted oi (yielded ops a.tmps)=true)(hy:∀w,S w->(execOp a.eval oi).run P w=.ok (.value v) w)(hS:S w)(h:iJ P md ops Q S z fuel (listed.setIfInBounds i true) (a.put oi.dst v) w):iJ P md ops Q S z (fuel+1) listed a w :=
 Bs hi hs hQ (Bt hz) fuel listed a w (Region.free_spec hi hf) (by simpa using hr) (.inl ⟨hw,hy⟩) hS h
theorem af {i:Nat}{o:Oper}{fuel:Nat}{listed:Array Bool}{a:Act}{w:World}(hr:Region.ready md ops listed=[i])(ho:ops[i]?=some o)(h:∀K':Act->World->Prop,(∀a w,(i≠z->S w)->iJ P md ops Q S z fuel (listed.setIfInBounds i true) a w->K' a w)->if Region.wanted o (yielded ops a.tmps)=true then Oper.wp P o a w K' Q else K' (a.put o.dst undef) w): iJ P md ops Q S z (fuel+1) listed a w:=by
 refine⟨fun e=>?_,fun j hj=>?_⟩
 ·rw[hr]at e;cases e
 ·rw[hr]at hj;have e:j=i:=by simpa using hj
  subst e;exact wpOp_step ho (fun K' hK=>h K' (fun a w hS hW=>hK a w ⟨hS,hW⟩))
theorem ak {listed:Array Bool}{a:Act}{w:World}(hr:Region.ready md ops listed=[])(h:Q .normal a w):∀fuel,iJ P md ops Q S z fuel listed a w
 | 0=>⟨hr,h⟩
 | _+1=>⟨fun _=>h,by rw[hr];simp⟩
theorem ax {id:Nat}{a:Act}{w:World}(hm:P.follows .mixedOrders=true)(S:World->Prop)(z:Nat)(h:iJ P .any ops Q S z ops.size (Array.replicate ops.size false) a w.drew):(Code.region id ops true).wp P Q a w:=wp_region_any hm (Iu _ _ _ _ h)
end
section
open Go.RowKit
structure Kp (S:Nat->Prop) (w w':World):Prop where
 os:w'.os=w.os
 tape:w'.tape=w.tape
 output:w'.output=w.output
 size:w.heap.size<=w'.heap.size
 block:∀k,k<w.heap.size->¬S k->w'.heap[k]?=w.heap[k]?
theorem Kp.refl (S:Nat->Prop)(w:World):Kp S w w:=⟨rfl,rfl,rfl,Nat.le_refl _,fun _ _ _=>rfl⟩
theorem Kp.trans {S:Nat->Prop}{a b c:World}(h:Kp S a b)(k:Kp S b c):Kp S a c :=
 ⟨k.os.trans h.os,k.tape.trans h.tape,k.output.trans h.output,Nat.le_trans h.size k.size,fun i hi hs=>(k.block i (Nat.lt_of_lt_of_le hi h.size) hs).trans (h.block i hi hs)⟩
theorem Kp.mono {S T:Nat->Prop}{w w':World}(h:Kp S w w')(hT:∀k,k<w.heap.size->S k->T k):Kp T w w' :=
 ⟨h.os,h.tape,h.output,h.size,fun k hk hs=>h.block k hk (fun hs'=>hs (hT k hk hs'))⟩
theorem Kp.then {S T:Nat->Prop}{a b c:World}(h:Kp S a b)(k:Kp T b c)(hT:∀i,i<a.heap.size->T i->S i):Kp S a c :=
 ⟨k.os.trans h.os,k.tape.trans h.tape,k.output.trans h.output,Nat.le_trans h.size k.size,fun i hi hs=>(k.block i (Nat.lt_of_lt_of_le hi h.size) (fun ht=>hs (hT i hi ht))).trans (h.block i hi hs)⟩
theorem Kp.drew {S:Nat->Prop}{a w:World}(h:Kp S a w):Kp S a w.drew:=⟨h.os,h.tape,h.output,h.size,h.block⟩
theorem Kp.drewN {S:Nat->Prop}{a w:World}(h:Kp S a w)(n:Nat):Kp S a (w.drewN n):=⟨h.os,h.tape,h.output,h.size,h.block⟩
theorem Kp.alloc {S:Nat->Prop}{a w:World}(h:Kp S a w)(o:Obj):Kp S a (w.alloc o) :=
 h.trans ⟨rfl,rfl,rfl,by simp,fun k hk _=>Below.heap_alloc _ _ _ hk⟩
theorem Kp.setCell {S:Nat->Prop}{a w:World}(h:Kp S a w){p:Addr}(hp:S p.block\/a.heap.size<=p.block)(u:Value):Kp S a (w.setCell p u) :=
 ⟨h.os,h.tape,h.output,by have:=h.size;simpa[World.setCell]using this,fun k hk hs=>(Below.heap_setCell _ _ _ _ (fun e=>by subst e;rcases hp with hp|hp;exact hs hp;omega)).trans (h.block k hk hs)⟩
theorem Kp.grown {S:Nat->Prop}{a w w':World}{row:Option Nat}(h:Kp S a w)(hg:w.grownBy w' row)(hr:∀k,row=some k->S k\/a.heap.size<=k):Kp S a w' :=
 ⟨hg.os.trans h.os,hg.tape.trans h.tape,hg.output.trans h.output,Nat.le_trans h.size hg.size,fun k hk hs=>(hg.block k (Nat.lt_of_lt_of_le hk h.size) (fun e=>by rcases hr k e.symm with hp|hp;exact hs hp;omega)).trans (h.block k hk hs)⟩
theorem Kp.cell {S:Nat->Prop}{w w':World}(h:Kp S w w'){p:Addr}(hp:p.block<w.heap.size)(hs:¬S p.block):w'.cell? p=w.cell? p:=World.cell?_of_block (w:=w) (h.block p.block hp hs)
theorem Kp.below {S:Nat->Prop}{w w':World}(h:Kp S w w'){B:Nat}(hB:B<=w.heap.size)(hS:∀k,k<w.heap.size->S k->B<=k):Below B w w' :=
 ⟨h.os,h.tape,h.output,h.size,fun k hk=>h.block k (by omega) (fun hs=>by have:=hS k (by omega) hs;omega)⟩
theorem Kp.aG {S:Nat->Prop}{w w':World}(h:Below w.heap.size w w'):Kp S w w':=⟨h.os,h.tape,h.output,h.size,fun k hk _=>h.block k hk⟩
theorem Kp.toBelow {w w':World}(h:Kp (fun _=>False) w w'):Below w.heap.size w w':=h.below (Nat.le_refl _) (fun _ _ hf=>hf.elim)
theorem ah (w:World)(o:Obj):(w.alloc o).heap[w.heap.size]?=some o:=heap_alloc_new w o
theorem am {w:World}{k:Nat}{o':Obj}(h:w.heap[k]?=some o')(o:Obj):(w.alloc o).heap[k]?=some o':=by
 rw[Below.heap_alloc _ _ _ (lt_of_block h)];exact h
theorem aH {k:IntKind}{a b:Int}(h:a=b):Ending.returned (.int k a)=.returned (.int k b):=by rw[h]
theorem aK {a b:Bool}(h:a=b):Ending.returned (.bool a)=.returned (.bool b):=by rw[h]
def Ints (w:World)(ao:Option Addr)(zs:List Int):Prop :=
 ∀j,(h:j<zs.length)->∃b off,ao=some ⟨b,off,none⟩/\w.cell? ⟨b,off+j,none⟩=some (.int .i64 zs[j])
theorem ne_of_lt {α:Type}{zs:List α}{k:Nat}(h:k<zs.length):zs≠[]:=by intro e;rw[e]at h;exact absurd h (Nat.not_lt_zero _)
theorem Ints.below {w w':World}{ao:Option Addr}{zs:List Int}{B:Nat}(h:Ints w ao zs)(hb:Below B w w')(ha:∀a,ao=some a->zs≠[]->a.block<B):Ints w' ao zs:=by
 intro j hj;obtain⟨b,off,e,hc⟩:=h j hj;exact⟨b,off,e,(hb.cell (p:=⟨b,off+j,none⟩) (ha ⟨b,off,none⟩ e (ne_of_lt hj))).trans hc⟩
theorem aQ {w:World}{base e n:Nat}{v:Value}{xs:List Value}(h:w.ownsRow base e 1 v n xs): ∃ao cap,v=.slice ao n cap:=by
 rcases h.2 with⟨rfl,rfl⟩|⟨g,cap,cur,rfl,hb,hg,hnc,hcm,hcs,htake⟩
 ·exact⟨_,_,rfl⟩
 ·exact⟨_,_,rfl⟩
theorem Tryz.info3:(Tryz.prog.info? 3).map (fun i=>(i.zero,i.size,i.bytes))=some (some (.int .i64 0),1,8):=by kernel_rfl
abbrev vals (zs:List Int):List Value:=zs.map (Value.int .i64)
end
end Go.Proofs.YtmfijackgekioaaGreatDoor
namespace Go.Proofs.YtmfijackgekioaaGreatDoor.Rf
structure St where
 pos:Nat
 bad:Bool
 full:Bool
 out:List UInt8
 kinds:List Int
def bv (L:List Int)(p:Nat):Nat->Int
 | 0=>0
 | k+1=>bv L p k+L.getD (p+k) 0*2^k
def Bits (L:List Int):Prop:=∀j,L.getD j 0=0\/L.getD j 0=1
theorem sH {L:List Int}(h:Bits L)(p k:Nat):0<=bv L p k/\bv L p k<2^k:=by
 induction k with
 | zero=>simp[bv]
 | succ k ih =>
  simp only[bv];have e:(2:Int)^(k+1)=2*2^k:=by rw[Int.pow_succ];omega
  rw[e];rcases h (p+k) with h|h<;>rw[h]<;>omega
def take (L:List Int)(st:St)(n:Nat):Int×St :=
 if L.length<st.pos+n then (0,{ st with bad:=true }) else (bv L st.pos n,{ st with pos:=st.pos+n })
def room (limit:Int)(st:St)(n:Nat):Bool×St :=
 if 0<n/\limit<(st.out.length:Int)+n then (false,{ st with full:=true }) else (true,st)
structure Cs where
 next:Nat
 last:Nat
 out:List Int
def Bh (ls:List Int)(n:Nat)(c:Cs):Nat->Cs
 | 0=>c
 | i+1 =>
  let d:=Bh ls n c i
  if ls.getD i 0=n then { next:=d.next*2^(n-d.last)+1,last:=n,out:=d.out.set i (d.next*2^(n-d.last):Nat) } else d
def cOut (ls:List Int):Nat->Cs
 | 0=>{ next:=0,last:=0,out:=List.replicate ls.length 0 }
 | n+1=>Bh ls (n+1) (cOut ls n) ls.length
def codes (ls:List Int):List Int:=(cOut ls 15).out
theorem sI (ls:List Int)(n:Nat)(c:Cs)(i:Nat):(Bh ls n c i).out.length=c.out.length:=by
 induction i with
 | zero=>rfl
 | succ i ih=>simp only[Bh];split<;>simp[ih]
theorem yQ (ls:List Int)(n:Nat):(cOut ls n).out.length=ls.length:=by
 induction n with
 | zero=>simp[cOut]
 | succ n ih=>simp only[cOut,sI,ih]
def fg (ls code:List Int)(n v:Int):Nat->Nat->Option Nat
 | 0,_=>none
 | f+1,i=>if ls.getD i 0=n/\code.getD i 0=v then some i else fg ls code n v f (i+1)
def find (ls code:List Int)(n v:Int):Option Nat:=fg ls code n v ls.length 0
def dV (L ls code:List Int):Nat->Nat->Int->St->Int×St
 | 0,_,_,st=>(0,{ st with bad:=true })
 | f+1,n,v,st =>
  let r:=take L st 1
  if r.2.bad then (0,r.2) else
  match find ls code ((n:Int)+1) (2*v+r.1) with
  | some i=>((i:Int),r.2)
  | none=>dV L ls code f (n+1) (2*v+r.1) r.2
def symbol (L ls code:List Int)(st:St):Int×St:=dV L ls code 15 0 0 st
def uV (L:List Int):Nat->St->St
 | 0,st=>st
 | f+1,st=>if st.bad then st else
  let r:=take L st 8
  uV L f { r.2 with out:=r.2.out++[UInt8.ofNat r.1.toNat] }
def plain (L:List Int)(limit:Int)(st:St):St :=
 let st1:={ st with pos:=(st.pos+7)/8*8 }
 let a:=take L st1 16
 let b:=take L a.2 16
 let du:=if a.1+b.1=65535 then b.2 else { b.2 with bad:=true }
 if du.bad then du else
 let r:=room limit du a.1.toNat
 if r.1 then uV L a.1.toNat r.2 else r.2
theorem take_one {L:List Int}(h:Bits L)(st:St):0<=(take L st 1).1/\(take L st 1).1<=1:=by
 unfold take;split
 ·simp
 ·have:=sH h st.pos 1;simp only;omega
theorem cy (L:List Int)(st:St)(n:Nat)(h:st.pos<=L.length):(take L st n).2.pos<=L.length:=by
 unfold take;split
 ·exact h
 ·show st.pos+n<=_;omega
theorem take_range {L:List Int}(h:Bits L)(st:St)(n:Nat):0<=(take L st n).1/\(take L st n).1<2^n:=by
 unfold take;split
 ·have h1:(1:Nat)<=2^n:=Nat.one_le_two_pow;have e:((2:Int)^n)=((2^n:Nat):Int):=by simp
  rw[e];simp only;omega
 ·exact sH h st.pos n
theorem aX (L:List Int)(st:St)(n:Nat):(take L st n).2.out=st.out/\(take L st n).2.kinds=st.kinds/\(take L st n).2.full=st.full:=by
 unfold take;split<;>simp
theorem sJ (limit:Int)(st:St)(n:Nat):(room limit st n).2.out=st.out/\(room limit st n).2.kinds=st.kinds/\(room limit st n).2.pos=st.pos/\(room limit st n).2.bad=st.bad:=by
 unfold room;split<;>simp
def fs (ls:List Int):Nat->Nat
 | 0=>0
 | k+1=>fs ls k+if 0<ls.getD k 0 then 32768/2^(ls.getD k 0).toNat else 0
theorem Us (ls:List Int)(k:Nat):fs ls k<=32768*k:=by
 induction k with
 | zero=>simp[fs]
 | succ k ih =>
  simp only[fs];split
  ·have:=Nat.div_le_self 32768 (2^(ls.getD k 0).toNat);omega
  ·omega
def full (ls:List Int):Bool:=decide (fs ls ls.length=32768)
def Bu (i:Nat):Int:=if i<144 then 8 else if i<256 then 9 else if i<280 then 7 else 8
def bH:List Int:=(List.range 288).map Bu
def fV:List Int:=(List.range 32).map fun _=>5
def mc (L ls cd:List Int)(n:Nat):Nat->List Int->St->List Int×St
 | 0,out,st=>(out,st)
 | f+1,out,st =>
  if n<=out.length\/st.bad=true then (out,st) else
  let r:=symbol L ls cd st
  if r.2.bad=true then ([],r.2)
  else if r.1<16 then mc L ls cd n f (out++[r.1]) r.2
  else if r.1=16 then
   (if out=[] then ([],{ (take L r.2 2).2 with bad:=true }) else mc L ls cd n f (out++List.replicate (3+(take L r.2 2).1.toNat) (out.getD (out.length-1) 0)) (take L r.2 2).2)
  else if r.1=17 then mc L ls cd n f (out++List.replicate (3+(take L r.2 3).1.toNat) 0) (take L r.2 3).2
  else mc L ls cd n f (out++List.replicate (11+(take L r.2 7).1.toNat) 0) (take L r.2 7).2
def listed (L ls:List Int)(n:Nat)(st:St):List Int×St :=
 let r:=mc L ls (codes ls) n (n+1) [] st
 if r.1.length=n then r else (r.1,{ r.2 with bad:=true })
theorem qU (ls cd:List Int)(n v:Int):∀(f i j:Nat),fg ls cd n v f i=some j->j<i+f
 | 0,_,_,h=>by simp[fg]at h
 | f+1,i,j,h=>by
  rw[fg]at h;split at h
  ·cases h;omega
  ·have:=qU ls cd n v f (i+1) j h;omega
theorem sK (L ls cd:List Int):∀(f n:Nat) (v:Int) (st:St),0<=(dV L ls cd f n v st).1/\((dV L ls cd f n v st).2.bad=false->(dV L ls cd f n v st).1<ls.length)
 | 0,_,_,st=>by simp[dV]
 | f+1,n,v,st=>by
  rw[dV];split
  ·rename_i h;simp only;exact⟨Int.le_refl _,fun h2=>by rw[h]at h2;cases h2⟩
  ·split
   ·rename_i i hi;have:=qU ls cd _ _ _ _ _ hi;exact⟨by simp only;omega,fun _=>by simp only;omega⟩
   ·exact sK L ls cd f (n+1) _ _
theorem fY (L ls cd:List Int)(st:St):0<=(symbol L ls cd st).1/\((symbol L ls cd st).2.bad=false->(symbol L ls cd st).1<ls.length):=sK L ls cd 15 0 0 st
def lenOf (L:List Int)(i:Nat)(st:St):Nat×St :=
 if i=28 then (258,st) else if 8<=i then ((4+i%4)*2^(i/4-1)+3+(take L st (i/4-1)).1.toNat,(take L st (i/4-1)).2) else (i+3,st)
def bO (L:List Int)(j:Nat)(st:St):Nat×St :=
 if 4<=j then ((2+j%2)*2^(j/2-1)+1+(take L st (j/2-1)).1.toNat,(take L st (j/2-1)).2) else (j+1,st)
def yR (d:Nat):Nat->List UInt8->List UInt8
 | 0,o=>o
 | k+1,o=>yR d k (o++[o.getD (o.length-d) 0])
def copied (L:List Int)(limit:Int)(i:Nat)(far code:List Int)(st:St):St :=
 if (lenOf L i st).2.bad=true then (lenOf L i st).2 else
 if (symbol L far code (lenOf L i st).2).2.bad=true\/29<(symbol L far code (lenOf L i st).2).1 then { (symbol L far code (lenOf L i st).2).2 with bad:=true } else
 if (bO L (symbol L far code (lenOf L i st).2).1.toNat (symbol L far code (lenOf L i st).2).2).2.bad=true \/
   (bO L (symbol L far code (lenOf L i st).2).1.toNat (symbol L far code (lenOf L i st).2).2).2.out.length<(bO L (symbol L far code (lenOf L i st).2).1.toNat (symbol L far code (lenOf L i st).2).2).1 then
  { (bO L (symbol L far code (lenOf L i st).2).1.toNat (symbol L far code (lenOf L i st).2).2).2 with bad:=true } else
 if (room limit (bO L (symbol L far code (lenOf L i st).2).1.toNat (symbol L far code (lenOf L i st).2).2).2 (lenOf L i st).1).1=true then
  { (room limit (bO L (symbol L far code (lenOf L i st).2).1.toNat (symbol L far code (lenOf L i st).2).2).2 (lenOf L i st).1).2 with
   out:=yR (bO L (symbol L far code (lenOf L i st).2).1.toNat (symbol L far code (lenOf L i st).2).2).1 (lenOf L i st).1 (room limit (bO L (symbol L far code (lenOf L i st).2).1.toNat (symbol L far code (lenOf L i st).2).2).2 (lenOf L i st).1).2.out }
 else (room limit (bO L (symbol L far code (lenOf L i st).2).1.toNat (symbol L far code (lenOf L i st).2).2).2 (lenOf L i st).1).2
theorem yS (L ls cd:List Int):∀(f n:Nat) (v:Int) (st:St),(dV L ls cd f n v st).2.out=st.out/\(dV L ls cd f n v st).2.kinds=st.kinds/\(dV L ls cd f n v st).2.full=st.full
 | 0,_,_,st=>by simp[dV]
 | f+1,n,v,st=>by
  have h:=aX L st 1;rw[dV];split
  ·exact h
  ·split
   ·exact h
   ·have h2:=yS L ls cd f (n+1) (2*v+(take L st 1).1) (take L st 1).2;exact⟨h2.1.trans h.1,h2.2.1.trans h.2.1,h2.2.2.trans h.2.2⟩
theorem fF (L ls cd:List Int)(st:St):(symbol L ls cd st).2.out=st.out/\(symbol L ls cd st).2.kinds=st.kinds/\(symbol L ls cd st).2.full=st.full:=yS L ls cd 15 0 0 st
def dW (L:List Int)(limit:Int)(ls cd far vy:List Int):Nat->St->St
 | 0,st=>st
 | f+1,st =>
  if (st.bad||st.full)=true then st else
  if (symbol L ls cd st).2.bad=true\/(symbol L ls cd st).1=256 then (symbol L ls cd st).2
  else if (symbol L ls cd st).1<256 then
   dW L limit ls cd far vy f (if (room limit (symbol L ls cd st).2 1).1=true then { (room limit (symbol L ls cd st).2 1).2 with out:=(room limit (symbol L ls cd st).2 1).2.out++[UInt8.ofNat (symbol L ls cd st).1.toNat] } else (room limit (symbol L ls cd st).2 1).2)
  else if 285<(symbol L ls cd st).1 then dW L limit ls cd far vy f { (symbol L ls cd st).2 with bad:=true }
  else dW L limit ls cd far vy f (copied L limit ((symbol L ls cd st).1-257).toNat far vy (symbol L ls cd st).2)
def symbols (L:List Int)(limit:Int)(ls far:List Int)(st:St):St:=dW L limit ls (codes ls) far (codes far) (L.length+2) st
theorem eL (L:List Int)(st:St)(n:Nat):st.pos<=(take L st n).2.pos:=by
 unfold take;split
 ·exact Nat.le_refl _
 ·show st.pos<=st.pos+n;omega
theorem ew (L:List Int)(st:St)(n:Nat)(h:(take L st n).2.bad=false):(take L st n).2.pos=st.pos+n/\st.bad=false:=by
 unfold take at *;split at h
 ·cases h
 ·rename_i hn;rw[if_neg hn];exact⟨rfl,h⟩
theorem p8 (L ls cd:List Int):∀(f n:Nat) (v:Int) (st:St),st.pos<=(dV L ls cd f n v st).2.pos
 | 0,_,_,st=>by simp[dV]
 | f+1,n,v,st=>by
  have h:=eL L st 1;rw[dV];split
  ·exact h
  ·split
   ·exact h
   ·exact Nat.le_trans h (p8 L ls cd f _ _ _)
theorem Iv (L ls cd:List Int):∀(f n:Nat) (v:Int) (st:St),(dV L ls cd f n v st).2.bad=false->st.pos<(dV L ls cd f n v st).2.pos
 | 0,_,_,st=>by simp[dV]
 | f+1,n,v,st=>by
  rw[dV];split
  ·rename_i h;intro h2;simp only at h2;rw[h]at h2;cases h2
  ·rename_i h;have hb:=ew L st 1 (by simpa using h);split
   ·intro _;simp only;omega
   ·intro _;have:=p8 L ls cd f (n+1) (2*v+(take L st 1).1) (take L st 1).2;omega
theorem sL (L ls cd:List Int)(st:St)(h:(symbol L ls cd st).2.bad=false):st.pos<(symbol L ls cd st).2.pos:=Iv L ls cd 15 0 0 st h
theorem jt (L ls cd:List Int)(st:St):st.pos<=(symbol L ls cd st).2.pos:=p8 L ls cd 15 0 0 st
theorem o7 (L ls cd:List Int):∀(f n:Nat) (v:Int) (st:St),st.pos<=L.length->(dV L ls cd f n v st).2.pos<=L.length
 | 0,_,_,st,h=>by simpa[dV]using h
 | f+1,n,v,st,h=>by
  have h1:=cy L st 1 h;rw[dV];split
  ·exact h1
  ·split
   ·exact h1
   ·exact o7 L ls cd f _ _ _ h1
theorem ol (d:Nat):∀(k:Nat) (o:List UInt8),(yR d k o).length=o.length+k
 | 0,o=>rfl
 | k+1,o=>by rw[yR,ol d k];simp;omega
theorem yT {L:List Int}(hb:Bits L)(i:Nat)(hi:i<=28)(st:St):(lenOf L i st).1<=258/\st.pos<=(lenOf L i st).2.pos/\(lenOf L i st).2.out=st.out:=by
 unfold lenOf;split
 ·simp
 ·split
  ·rename_i h1 h2;have ht:=take_range hb st (i/4-1);have hs:∀i:Nat,i<28->8<=i->(4+i%4)*2^(i/4-1)+2^(i/4-1)<=256:=by decide +kernel
   have hs:=hs i (by omega) h2;have e:((2:Int)^(i/4-1))=((2^(i/4-1):Nat):Int):=by simp
   rw[e]at ht;refine⟨?_,eL L st _,(aX L st _).1⟩;simp only;omega
  ·simp;omega
theorem vA (L:List Int)(j:Nat)(st:St):st.pos<=(bO L j st).2.pos/\(bO L j st).2.out=st.out:=by
 unfold bO;split
 ·exact⟨eL L st _,(aX L st _).1⟩
 ·simp
theorem Fe {L:List Int}(hb:Bits L)(limit:Int)(i:Nat)(hi:i<=28)(far code:List Int)(st:St): st.pos<=(copied L limit i far code st).pos/\(copied L limit i far code st).out.length<=st.out.length+258:=by
 have h1:=yT hb i hi st;unfold copied;generalize lenOf L i st=A at *;have h2:=jt L far code A.2;have h3:=(fF L far code A.2).1;generalize symbol L far code A.2=S at *;have h4:=vA L S.1.toNat S.2;generalize bO L S.1.toNat S.2=D at *;have h5:=sJ limit D.2 A.1;generalize room limit D.2 A.1=R at *
 repeat' split
 ·exact⟨h1.2.1,by rw[h1.2.2];omega⟩
 ·exact⟨by simp only;omega,by simp only;rw[h3,h1.2.2];omega⟩
 ·exact⟨by simp only;omega,by simp only;rw[h4.2,h3,h1.2.2];omega⟩
 ·exact⟨by simp only;rw[h5.2.2.1];omega,by simp only;rw[ol,h5.1,h4.2,h3,h1.2.2];omega⟩
 ·exact⟨by rw[h5.2.2.1];omega,by rw[h5.1,h4.2,h3,h1.2.2];omega⟩
def order:List Nat:=[16,17,18,0,8,7,9,6,10,5,11,4,12,3,13,2,14,1,15]
def ia (L:List Int):Nat->Nat->List Int->St->List Int×St
 | 0,_,ls,st=>(ls,st)
 | f+1,i,ls,st=>if st.bad=true then (ls,st) else ia L f (i+1) (ls.set (order.getD i 0) (take L st 3).1) (take L st 3).2
def eQ (far:List Int):Nat->Int
 | 0=>0
 | k+1=>eQ far k+far.getD k 0
def my (far:List Int):Nat->Nat
 | 0=>0
 | k+1=>my far k+if far.getD k 0=1 then 1 else 0
def iX (l far:List Int):Bool :=
 decide (l.getD 256 0=0)||!full l||(!full far&&(decide (eQ far far.length≠0)&&(decide (eQ far far.length≠1)||decide (my far far.length≠1))))
def own (L:List Int)(limit:Int)(st:St):St :=
 let h:=take L st 5
 let d:=take L h.2 5
 let k:=take L d.2 4
 let q:=ia L (k.1.toNat+4) 0 (List.replicate 19 0) k.2
 if q.2.bad=true\/29<h.1\/29<d.1\/full q.1=false then { q.2 with bad:=true } else
 let a:=listed L q.1 (h.1+d.1+258).toNat q.2
 if a.2.bad=true then a.2 else
 if iX (a.1.take (h.1.toNat+257)) (a.1.drop (h.1.toNat+257))=true then { a.2 with bad:=true } else
 symbols L limit (a.1.take (h.1.toNat+257)) (a.1.drop (h.1.toNat+257)) a.2
theorem o8:∀i,order.getD i 0<19:=by
 intro i;by_cases h:i<19
 ·exact (show ∀i,i<19->order.getD i 0<19 by decide) i h
 ·have e:order.getD i 0=0:=by
   have hl:order.length<=i:=by simp[order];omega
   simp[List.getD,List.getElem?_eq_none hl]
  omega
def dE (ls:List Int)(b:Int):Prop:=∀j,0<=ls.getD j 0/\ls.getD j 0<=b
theorem p9 (n:Nat)(b:Int)(hb:0<=b):dE (List.replicate n 0) b:=by
 intro j;have:(List.replicate n (0:Int)).getD j 0=0:=by simp[List.getD,List.getElem?_replicate];split<;>rfl
 omega
theorem Bv {ls:List Int}{b:Int}(h:dE ls b)(i:Nat)(x:Int)(hx:0<=x/\x<=b):dE (ls.set i x) b:=by
 intro j;have:=h j;simp only[List.getD,List.getElem?_set]at *;split
 ·split
  ·simpa using hx
  ·simp;omega
 ·exact this
theorem gX {a c:List Int}{b:Int}(h1:dE a b)(h2:dE c b):dE (a++c) b:=by
 intro j;by_cases hj:j<a.length
 ·have:=h1 j;simpa[List.getD,List.getElem?_append_left hj]using this
 ·have:=h2 (j-a.length);simpa[List.getD,List.getElem?_append_right (show a.length<=j by omega)]using this
theorem kG (n:Nat)(x b:Int)(hx:0<=x/\x<=b):dE (List.replicate n x) b:=by
 intro j;simp only[List.getD,List.getElem?_replicate];split
 ·simpa using hx
 ·simp;omega
theorem yU {ls:List Int}{b:Int}(h:dE ls b)(n:Nat)(hb:0<=b):dE (ls.take n) b:=by
 intro j;simp only[List.getD,List.getElem?_take];split
 ·exact h j
 ·simp;omega
theorem yV {ls:List Int}{b:Int}(h:dE ls b)(n:Nat):dE (ls.drop n) b:=by
 intro j;have:=h (n+j);simpa[List.getD,List.getElem?_drop]using this
theorem qV (L:List Int):∀(f i:Nat) (ls:List Int) (st:St),(ia L f i ls st).1.length=ls.length
 | 0,_,_,_=>rfl
 | f+1,i,ls,st=>by
  rw[ia];split
  ·rfl
  ·rw[qV L f];simp
theorem iY {L:List Int}(hb:Bits L)(ls cd:List Int)(hl:ls.length=19)(n:Nat):∀(f:Nat) (out:List Int) (st:St),dE out 15->dE (mc L ls cd n f out st).1 15
 | 0,_,_,h=>h
 | f+1,out,st,h=>by
  have hs:=fY L ls cd st;have h0:dE [] 15:=fun j=>by simp
  simp only[mc];split
  ·exact h
  ·split
   ·exact h0
   ·rename_i hbad;split
    ·rename_i h16;refine iY hb ls cd hl n f _ _ (gX h ?_);exact kG 1 _ 15 ⟨hs.1,by omega⟩
    ·split
     ·split
      ·exact h0
      ·exact iY hb ls cd hl n f _ _ (gX h (kG _ _ 15 (h _)))
     ·split
      ·exact iY hb ls cd hl n f _ _ (gX h (kG _ _ 15 (by omega)))
      ·exact iY hb ls cd hl n f _ _ (gX h (kG _ _ 15 (by omega)))
theorem uX {L:List Int}(hb:Bits L)(ls:List Int)(hl:ls.length=19)(n:Nat)(st:St):dE (listed L ls n st).1 15:=by
 have h:=iY hb ls (codes ls) hl n (n+1) [] st (fun j=>by simp);unfold listed;simp only;split
 ·exact h
 ·exact h
end Go.Proofs.YtmfijackgekioaaGreatDoor.Rf
namespace Go.Proofs.YtmfijackgekioaaGreatDoor.Mx
def ad:List UInt8->Int×Int->Int×Int
 | [],p=>p
 | c::r,p=>ad r ((p.1+c.toNat)%65521,(p.2+(p.1+c.toNat)%65521)%65521)
theorem DL (l:List UInt8)(c:UInt8)(p:Int×Int): ad (l++[c]) p=(((ad l p).1+c.toNat)%65521,((ad l p).2+((ad l p).1+c.toNat)%65521)%65521):=by
 induction l generalizing p with
 | nil=>rfl
 | cons x r ih=>exact ih _
def Ie (l:List UInt8):Int:=(ad l (1,0)).1
def Mj (l:List UInt8):Int:=(ad l (1,0)).2
theorem jU (l:List UInt8)(p:Int×Int)(h1:0<=p.1/\p.1<=65520)(h2:0<=p.2/\p.2<=65520): (0<=(ad l p).1/\(ad l p).1<=65520)/\(0<=(ad l p).2/\(ad l p).2<=65520):=by
 induction l generalizing p with
 | nil=>exact⟨h1,h2⟩
 | cons x r ih=>exact ih _ (by simp only;omega) (by simp only;omega)
theorem qc (l:List UInt8):0<=Ie l/\Ie l<=65520:=(jU l (1,0) (by simp) (by simp)).1
theorem qd (l:List UInt8):0<=Mj l/\Mj l<=65520:=(jU l (1,0) (by simp) (by simp)).2
theorem Iw (l:List UInt8)(c:UInt8):Ie (l++[c])=(Ie l+c.toNat)%65521:=by simp only[Ie,DL]
theorem Ix (l:List UInt8)(c:UInt8):Mj (l++[c])=(Mj l+(Ie l+c.toNat)%65521)%65521:=by simp only[Ie,Mj,DL]
def eg (l:List UInt8):Int:=65536*Mj l+Ie l
theorem qe (s:ByteArray)(k:Nat)(h:k<s.size):s.data.toList.take (k+1)=s.data.toList.take k++[s[k]]:=by
 rw[List.take_succ_eq_append_getElem (by simpa using h)];rfl
def Ut (x:Nat):Nat:=(x/2)^^^(3988292384*(x%2))
def Bw:Nat->Nat->Nat
 | 0,x=>x
 | k+1,x=>Ut (Bw k x)
theorem Qn (x:Nat)(h:x<4294967296):Ut x<4294967296:=by
 unfold Ut;have:x%2<=1:=by omega
 exact Nat.xor_lt_two_pow (n:=32) (by omega) (by omega)
theorem DM (k x:Nat)(h:x<4294967296):Bw k x<4294967296:=by
 induction k with
 | zero=>exact h
 | succ k ih=>exact Qn _ ih
def reg:List UInt8->Nat->Nat
 | [],r=>r
 | c::l,r=>reg l (Bw 8 (r^^^c.toNat))
theorem Iy (l:List UInt8)(c:UInt8)(r:Nat):reg (l++[c]) r=Bw 8 (reg l r^^^c.toNat):=by
 induction l generalizing r with
 | nil=>rfl
 | cons x l ih=>exact ih _
def o9 (l:List UInt8):Nat:=reg l 4294967295
theorem Iz (a b:Nat)(ha:a<4294967296)(hb:b<4294967296):a^^^b<4294967296:=Nat.xor_lt_two_pow (n:=32) ha hb
theorem Qo (l:List UInt8)(r:Nat)(h:r<4294967296):reg l r<4294967296:=by
 induction l generalizing r with
 | nil=>exact h
 | cons c l ih=>exact ih _ (DM _ _ (Iz _ _ h (by have:=c.toNat_lt;omega)))
theorem DQ (l:List UInt8):o9 l<4294967296:=Qo l _ (by omega)
theorem Ff (l:List UInt8)(c:UInt8):o9 (l++[c])=Bw 8 (o9 l^^^c.toNat):=Iy l c _
def num:List UInt8->Nat
 | []=>0
 | c::l=>c.toNat+256*num l
def some (c:UInt8)(j:Nat):List Int:=(List.range j).map fun t=>((c.toNat/2^t%2:Nat):Int)
theorem ju (c:UInt8)(j:Nat):(some c j).length=j:=by simp[some]
def low:List UInt8->List Int
 | []=>[]
 | c::l=>some c 8++low l
theorem om (l:List UInt8):(low l).length=8*l.length:=by
 induction l with
 | nil=>rfl
 | cons x l ih=>simp only[low,List.length_append,ju,ih,List.length_cons];omega
end Go.Proofs.YtmfijackgekioaaGreatDoor.Mx
namespace Go.Proofs.YtmfijackgekioaaGreatDoor
section
variable {P:Program} {ops:Array Oper} {Q:Exit->Act->World->Prop} {md:Region.Mode} {S:World->Prop} {z:Nat}
theorem fh {i j:Nat}{o p:Oper}{fuel:Nat}{listed:Array Bool}{a:Act}{w:World}(hr:Region.ready md ops listed=[i,j])(ho:ops[i]?=some o)(hp:ops[j]?=some p)(h1:∀K':Act->World->Prop,(∀a w,(i≠z->S w)->iJ P md ops Q S z fuel (listed.setIfInBounds i true) a w->K' a w)->if Region.wanted o (yielded ops a.tmps)=true then Oper.wp P o a w K' Q else K' (a.put o.dst undef) w)(h2:∀K':Act->World->Prop,(∀a w,(j≠z->S w)->iJ P md ops Q S z fuel (listed.setIfInBounds j true) a w->K' a w)->if Region.wanted p (yielded ops a.tmps)=true then Oper.wp P p a w K' Q else K' (a.put p.dst undef) w): iJ P md ops Q S z (fuel+1) listed a w:=by
 refine⟨fun e=>?_,fun k hk=>?_⟩
 ·rw[hr]at e;cases e
 ·rw[hr]at hk;have e:k=i\/k=j:=by simpa using hk
  rcases e with e|e
  ·subst e;exact wpOp_step ho (fun K' hK=>h1 K' (fun a w hS hW=>hK a w ⟨hS,hW⟩))
  ·subst e;exact wpOp_step hp (fun K' hK=>h2 K' (fun a w hS hW=>hK a w ⟨hS,hW⟩))
end
end Go.Proofs.YtmfijackgekioaaGreatDoor
