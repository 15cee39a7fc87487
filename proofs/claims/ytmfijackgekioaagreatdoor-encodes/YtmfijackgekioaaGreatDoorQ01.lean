import Derived.Test.YtmfijackgekioaaGreatDoorQA
import Derived.OrdersHeld
import Derived.Deep.RegionHeld
import Derived.Test.YtmfijackgekioaaGreatDoorRows
import Derived.WalkKit
import Derived.WalkSpells
import Derived.WalkLawsBesides
import Derived.BigQuiet
import Derived.Deep.QuietTactic
import Derived.Laws.CopyOwn
namespace Go.Proofs.YtmfijackgekioaaGreatDoor
section
variable {P:Program} {ops:Array Oper} {Q:Exit->Act->World->Prop} {md:Region.Mode} {S:World->Prop} {z:Nat}
def dU (P:Program)(md:Region.Mode)(ops:Array Oper)(Q:Exit->Act->World->Prop)(S:World->Prop)(z:Nat)(fuel:Nat)(listed:Array Bool)(a:Act)(w:World):Prop :=
 match fuel with
 | 0=>Region.ready md ops listed=[]/\Q .normal a w
 | fuel+1=>(Region.ready md ops listed=[]->Q .normal a w)/\∀i,i∈Region.ready md ops listed->wpOp P ops Q i (fun a' w'=>(i≠z->S w')/\dU P md ops Q S z fuel (listed.setIfInBounds i true) a' w') a w
theorem GJ (fuel:Nat):∀(listed:Array Bool) (a:Act) (w:World),dU P md ops Q S z fuel listed a w->wpAny P md ops Q fuel listed a w:=by
 induction fuel with
 | zero=>intro _ _ _ h;exact h
 | succ fuel ih =>
  intro listed a w h;obtain⟨h0,h1⟩:=h;exact⟨h0,fun i hi=>wpOp_mono (fun a' w' hh=>ih _ a' w' hh.2) (h1 i hi)⟩
theorem rM {i:Nat}{oi:Oper}{v:Value}(hi:ops[i]?=some oi)(hs:Region.noSelect ops=true)(hQ:∀c a w,Q (.panic c) (a.put oi.dst v) w->Q (.panic c) a w)(hz:∀oz,ops[z]?=some oz->∃e,e∈oz.after/\Region.binds md e=true/\e.on=i)(fuel:Nat): ∀(listed:Array Bool) (a:Act) (w:World),(∀j oj,ops[j]?=some oj->j≠i->listed.getD j true=false->(∀e∈oj.after,Region.binds md e=true->e.on≠i)->oi.apart ops oj=true) -> i∈Region.ready md ops listed->YieldsIf P ops S oi v a->S w->dU P md ops Q S z fuel (listed.setIfInBounds i true) (a.put oi.dst v) w->dU P md ops Q S z (fuel+1) listed a w:=by
 have hsel:=Region.noSelect_spec hs
 induction fuel with
 | zero =>
  intro listed a w _ hr hy hS H;refine⟨fun e=>absurd hr (by rw[e];exact abC),fun j hj=>?_⟩;by_cases e:j=i
  ·rw[e];exact hy.wpOp hi hS ⟨fun _=>hS,H⟩
  ·exact absurd (ready_mono hj e) (by rw[H.1];exact abC)
 | succ fuel ih =>
  intro listed a w hfree hr hy hS H;refine⟨fun e=>absurd hr (by rw[e];exact abC),fun j hj=>?_⟩;by_cases e:j=i
  ·rw[e];exact hy.wpOp hi hS ⟨fun _=>hS,H⟩
  ·obtain⟨hun,oj,hoj,hall⟩:=mem_ready.1 hj
   have hno:∀x∈oj.after,Region.binds md x=true->x.on≠i:=by
    intro x hx hb hxi;have q1:=hall x hx hb;have q0:=(mem_ready.1 hr).1;rw[hxi]at q1;by_cases hlt:i<listed.size
    ·simp[hlt]at q0 q1;rw[q0]at q1;cases q1
    ·simp[Array.getElem?_eq_none (Nat.le_of_not_lt hlt)]at q1
   have hjz:j≠z:=by
    rintro rfl;obtain⟨x,hx,hb,hxi⟩:=hz oj hoj;exact hno x hx hb hxi
   have step:=wpOp_putIf hoj (hfree j oj hoj e hun hno) (fun cs b=>hsel i oi cs b hi) (fun cs b=>hsel j oj cs b hoj) hQ hy (H.2 j (ready_mono hj e));refine wpOp_mono (fun a' w' hh=>⟨fun _=>hh.2.1 hjz,ih (listed.setIfInBounds j true) a' w' ?_ (ready_mono hr (Ne.symm e)) hh.1 (hh.2.1 hjz) ?_⟩) step
   ·intro k ok hk hki RL Wn;refine hfree k ok hk hki ?_ Wn;by_cases Zl:j=k
    ·rw[<-Zl];exact hun
    ·rw[getD_set_ne true Zl]at RL;exact RL
   ·rw[Array.setIfInBounds_comm _ _ e];exact hh.2.2
def waits (md:Region.Mode)(ops:Array Oper)(z i:Nat):Bool:=match ops[z]? with
 | some oz=>oz.after.any fun e=>Region.binds md e&&e.on==i
 | none=>true
theorem rN {i:Nat}(h:waits md ops z i=true)(oz:Oper)(ho:ops[z]?=some oz):∃e,e∈oz.after/\Region.binds md e=true/\e.on=i:=by
 unfold waits at h;rw[ho]at h;simp only[Array.any_eq_true',aaJ,abs]at h;obtain⟨e,h1,h2,h3⟩:=h;exact⟨e,h1,h2,h3⟩
theorem uV {i:Nat}{oi:Oper}{v:Value}{fuel:Nat}{listed:Array Bool}{a:Act}{w:World}(hi:ops[i]?=some oi)(hs:Region.noSelect ops=true)(hf:Region.free md ops listed i=true)(hr:(Region.ready md ops listed).contains i=true)(hz:waits md ops z i=true)(hQ:∀c a w,Q (.panic c) (a.put oi.dst v) w->Q (.panic c) a w)(hw:Region.wanted oi (yielded ops a.tmps)=true)(hy:∀w,S w->(execOp a.eval oi).run P w=.ok (.value v) w)(hS:S w)(h:dU P md ops Q S z fuel (listed.setIfInBounds i true) (a.put oi.dst v) w):dU P md ops Q S z (fuel+1) listed a w :=
 rM hi hs hQ (rN hz) fuel listed a w (Region.free_spec hi hf) (by simpa using hr) (.inl ⟨hw,hy⟩) hS h
theorem GK {i:Nat}{o:Oper}{fuel:Nat}{listed:Array Bool}{a:Act}{w:World}(hr:Region.ready md ops listed=[i])(ho:ops[i]?=some o)(h:∀K':Act->World->Prop,(∀a w,(i≠z->S w)->dU P md ops Q S z fuel (listed.setIfInBounds i true) a w->K' a w)->if Region.wanted o (yielded ops a.tmps)=true then Oper.wp P o a w K' Q else K' (a.put o.dst undef) w): dU P md ops Q S z (fuel+1) listed a w:=by
 refine⟨fun e=>?_,fun j hj=>?_⟩
 ·rw[hr]at e;cases e
 ·rw[hr]at hj;have e:j=i:=by simpa using hj
  subst e;exact wpOp_step ho (fun K' hK=>h K' (fun a w hS hW=>hK a w ⟨hS,hW⟩))
theorem El {listed:Array Bool}{a:Act}{w:World}(hr:Region.ready md ops listed=[])(h:Q .normal a w):∀fuel,dU P md ops Q S z fuel listed a w
 | 0=>⟨hr,h⟩
 | _+1=>⟨fun _=>h,by rw[hr];simp⟩
theorem KU {id:Nat}{a:Act}{w:World}(hm:P.follows .mixedOrders=true)(S:World->Prop)(z:Nat)(h:dU P .any ops Q S z ops.size (Array.replicate ops.size false) a w.drew):(Code.region id ops true).wp P Q a w:=wp_region_any hm (GJ _ _ _ _ h)
end
def Nn (_:List Nat)(G:Prop):Prop:=G
theorem am {G:Prop}(l:List Nat)(h:Nn l G):G:=h
theorem aj {G:Prop}(h:G):Nn [] G:=h
section
variable {P:Program} {ops:Array Oper} {Q:Exit->Act->World->Prop} {md:Region.Mode} {S:World->Prop}
def uW (md:Region.Mode)(ops:Array Oper)(listed:Array Bool)(z i:Nat)(oi:Oper)(X:Array Value):Bool :=
 Region.noSelect ops&&(Region.free md ops listed i&&((Region.ready md ops listed).contains i&&(waits md ops z i&&Region.wanted oi (yielded ops X))))
theorem ly {z:Nat}(i:Nat){oi:Oper}{v:Value}{fuel:Nat}{listed:Array Bool}{a:Act}{w:World}(hy:∀w,S w->(execOp a.eval oi).run P w=.ok (.value v) w)(hS:S w)(h:dU P md ops Q S z fuel (listed.setIfInBounds i true) (a.put oi.dst v) w)(hi:ops[i]?=some oi:=by rfl)(hk:uW md ops listed z i oi a.tmps=true:=by kernel_rfl)(hQ:∀c a w,Q (.panic c) (a.put oi.dst v) w->Q (.panic c) a w:=by exact fun _ _ _ h=>h):dU P md ops Q S z (fuel+1) listed a w:=by
 unfold uW at hk;simp only[aaJ]at hk;exact uV hi hk.1 hk.2.1 hk.2.2.1 hk.2.2.2.1 hQ hk.2.2.2.2 hy hS h
theorem ay {z i:Nat}{is:List Nat}{oi:Oper}{v:Value}{fuel:Nat}{listed:Array Bool}{a:Act}{w:World}(hS:S w)(h:Nn is (dU P md ops Q S z fuel (listed.setIfInBounds i true) (a.put oi.dst v) w))(hi:ops[i]?=some oi:=by rfl)(hk:uW md ops listed z i oi a.tmps=true:=by kernel_rfl)(hy:∀w,S w->(execOp a.eval oi).run P w=.ok (.value v) w:=by intro w hSw;(try dsimp only at hSw);go_simp;try with_reducible rfl)(hQ:∀c a w,Q (.panic c) (a.put oi.dst v) w->Q (.panic c) a w:=by exact fun _ _ _ h=>h):Nn (i::is) (dU P md ops Q S z (fuel+1) listed a w):=ly i hy hS h hi hk hQ
theorem ai {z:Nat}(i:Nat){o:Oper}{fuel:Nat}{listed:Array Bool}{a:Act}{w:World}(h:∀K':Act->World->Prop,(∀a w,(i≠z->S w)->dU P md ops Q S z fuel (listed.setIfInBounds i true) a w->K' a w)->if Region.wanted o (yielded ops a.tmps)=true then Oper.wp P o a w K' Q else K' (a.put o.dst undef) w)(hr:Region.ready md ops listed=[i]:=by kernel_rfl)(ho:ops[i]?=some o:=by rfl):dU P md ops Q S z (fuel+1) listed a w:=GK hr ho h
theorem ar {z fuel:Nat}{listed:Array Bool}{a:Act}{w:World}(h:Q .normal a w)(hr:Region.ready md ops listed=[]:=by kernel_rfl):dU P md ops Q S z fuel listed a w:=El hr h fuel
theorem aE {id:Nat}{a:Act}{w:World}(S:World->Prop)(z:Nat)(h:dU P .any ops Q S z ops.size (Array.replicate ops.size false) a w.drew)(hm:P.follows .mixedOrders=true:=by kernel_rfl):(Code.region id ops true).wp P Q a w:=KU hm S z h
end
section
open Go.RowKit
structure Kp (S:Nat->Prop) (w w':World):Prop where
 os:w'.os=w.os
 tape:w'.tape=w.tape
 output:w'.output=w.output
 size:w.heap.size<=w'.heap.size
 block:∀k,k<w.heap.size->¬S k->w'.heap[k]?=w.heap[k]?
theorem Kp.refl (S:Nat->Prop)(w:World):Kp S w w:=⟨rfl,rfl,rfl,aad _,fun _ _ _=>rfl⟩
theorem Kp.trans {S:Nat->Prop}{a b c:World}(h:Kp S a b)(k:Kp S b c):Kp S a c :=
 ⟨k.os.trans h.os,k.tape.trans h.tape,k.output.trans h.output,aaz h.size k.size,fun i hi hs=>(k.block i (aar hi h.size) hs).trans (h.block i hi hs)⟩
theorem Kp.mono {S T:Nat->Prop}{w w':World}(h:Kp S w w')(hT:∀k,k<w.heap.size->S k->T k):Kp T w w' :=
 ⟨h.os,h.tape,h.output,h.size,fun k hk hs=>h.block k hk (fun hs'=>hs (hT k hk hs'))⟩
theorem Kp.then {S T:Nat->Prop}{a b c:World}(h:Kp S a b)(k:Kp T b c)(hT:∀i,i<a.heap.size->T i->S i):Kp S a c :=
 ⟨k.os.trans h.os,k.tape.trans h.tape,k.output.trans h.output,aaz h.size k.size,fun i hi hs=>(k.block i (aar hi h.size) (fun ht=>hs (hT i hi ht))).trans (h.block i hi hs)⟩
theorem Kp.drew {S:Nat->Prop}{a w:World}(h:Kp S a w):Kp S a w.drew:=⟨h.os,h.tape,h.output,h.size,h.block⟩
theorem Kp.drewN {S:Nat->Prop}{a w:World}(h:Kp S a w)(n:Nat):Kp S a (w.drewN n):=⟨h.os,h.tape,h.output,h.size,h.block⟩
theorem Kp.alloc {S:Nat->Prop}{a w:World}(h:Kp S a w)(o:Obj):Kp S a (w.alloc o) :=
 h.trans ⟨rfl,rfl,rfl,by simp,fun k hk _=>aaM _ _ _ hk⟩
theorem Kp.setCell {S:Nat->Prop}{a w:World}(h:Kp S a w){p:Addr}(hp:S p.block\/a.heap.size<=p.block)(u:Value):Kp S a (w.setCell p u) :=
 ⟨h.os,h.tape,h.output,by have:=h.size;simpa[World.setCell]using this,fun k hk hs=>(aag _ _ _ _ (fun e=>by subst e;rcases hp with hp|hp;exact hs hp;omega)).trans (h.block k hk hs)⟩
theorem Kp.grown {S:Nat->Prop}{a w w':World}{row:Option Nat}(h:Kp S a w)(hg:w.grownBy w' row)(hr:∀k,row=some k->S k\/a.heap.size<=k):Kp S a w' :=
 ⟨hg.os.trans h.os,hg.tape.trans h.tape,hg.output.trans h.output,aaz h.size hg.size,fun k hk hs=>(hg.block k (aar hk h.size) (fun e=>by rcases hr k e.symm with hp|hp;exact hs hp;omega)).trans (h.block k hk hs)⟩
theorem Kp.cell {S:Nat->Prop}{w w':World}(h:Kp S w w'){p:Addr}(hp:p.block<w.heap.size)(hs:¬S p.block):w'.cell? p=w.cell? p:=aaT (w:=w) (h.block p.block hp hs)
theorem Kp.below {S:Nat->Prop}{w w':World}(h:Kp S w w'){B:Nat}(hB:B<=w.heap.size)(hS:∀k,k<w.heap.size->S k->B<=k):Below B w w' :=
 ⟨h.os,h.tape,h.output,h.size,fun k hk=>h.block k (by omega) (fun hs=>by have:=hS k (by omega) hs;omega)⟩
theorem Kp.aJ {S:Nat->Prop}{w w':World}(h:Below w.heap.size w w'):Kp S w w':=⟨h.os,h.tape,h.output,h.size,fun k hk _=>h.block k hk⟩
theorem ak (w:World)(o:Obj):(w.alloc o).heap[w.heap.size]?=some o:=heap_alloc_new w o
theorem aw {w:World}{k:Nat}{o':Obj}(h:w.heap[k]?=some o')(o:Obj):(w.alloc o).heap[k]?=some o':=by
 rw[aaM _ _ _ (aab h)];exact h
theorem aC {k:IntKind}{a b:Int}(h:a=b):Ending.returned (.int k a)=.returned (.int k b):=by rw[h]
theorem aG {a b:Bool}(h:a=b):Ending.returned (.bool a)=.returned (.bool b):=by rw[h]
def Ints (w:World)(ao:Option Addr)(zs:List Int):Prop :=
 ∀j,(h:j<zs.length)->∃b off,ao=some ⟨b,off,none⟩/\w.cell? ⟨b,off+j,none⟩=some (.int .i64 zs[j])
theorem ne_of_lt {α:Type}{zs:List α}{k:Nat}(h:k<zs.length):zs≠[]:=by intro e;rw[e]at h;exact absurd h (abY _)
theorem Ints.below {w w':World}{ao:Option Addr}{zs:List Int}{B:Nat}(h:Ints w ao zs)(hb:Below B w w')(ha:∀a,ao=some a->zs≠[]->a.block<B):Ints w' ao zs:=by
 intro j hj;obtain⟨b,off,e,hc⟩:=h j hj;exact⟨b,off,e,(hb.cell (p:=⟨b,off+j,none⟩) (ha ⟨b,off,none⟩ e (ne_of_lt hj))).trans hc⟩
theorem aD {w:World}{base e n:Nat}{v:Value}{xs:List Value}(h:w.ownsRow base e 1 v n xs): ∃ao cap,v=.slice ao n cap:=by
 rcases h.2 with⟨rfl,rfl⟩|⟨g,cap,cur,rfl,hb,hg,hnc,hcm,hcs,htake⟩
 ·exact⟨_,_,rfl⟩
 ·exact⟨_,_,rfl⟩
theorem Tryz.info3:(Tryz.prog.info? 3).map (fun i=>(i.zero,i.size,i.bytes))=some (some (.int .i64 0),1,8):=by kernel_rfl
abbrev vals (zs:List Int):List Value:=zs.map (Value.int .i64)
end
end Go.Proofs.YtmfijackgekioaaGreatDoor
namespace Go.Proofs.YtmfijackgekioaaGreatDoor.Rf
structure St where
 pos:Nat
 bad:Bool
 full:Bool
 out:List UInt8
 kinds:List Int
def bv (L:List Int)(p:Nat):Nat->Int
 | 0=>0
 | k+1=>bv L p k+L.getD (p+k) 0*2^k
def Bits (L:List Int):Prop:=∀j,L.getD j 0=0\/L.getD j 0=1
theorem rO {L:List Int}(h:Bits L)(p k:Nat):0<=bv L p k/\bv L p k<2^k:=by
 induction k with
 | zero=>simp[bv]
 | succ k ih =>
  simp only[bv];have e:(2:Int)^(k+1)=2*2^k:=by rw[Int.pow_succ];omega
  rw[e];rcases h (p+k) with h|h<;>rw[h]<;>omega
def take (L:List Int)(st:St)(n:Nat):Int×St :=
 if L.length<st.pos+n then (0,{ st with bad:=true }) else (bv L st.pos n,{ st with pos:=st.pos+n })
def room (limit:Int)(st:St)(n:Nat):Bool×St :=
 if 0<n/\limit<(st.out.length:Int)+n then (false,{ st with full:=true }) else (true,st)
structure Cs where
 next:Nat
 last:Nat
 out:List Int
def iX (ls:List Int)(n:Nat)(c:Cs):Nat->Cs
 | 0=>c
 | i+1 =>
  let d:=iX ls n c i
  if ls.getD i 0=n then { next:=d.next*2^(n-d.last)+1,last:=n,out:=d.out.set i (d.next*2^(n-d.last):Nat) } else d
def cOut (ls:List Int):Nat->Cs
 | 0=>{ next:=0,last:=0,out:=List.replicate ls.length 0 }
 | n+1=>iX ls (n+1) (cOut ls n) ls.length
def codes (ls:List Int):List Int:=(cOut ls 15).out
theorem n9 (ls:List Int)(n:Nat)(c:Cs)(i:Nat):(iX ls n c i).out.length=c.out.length:=by
 induction i with
 | zero=>rfl
 | succ i ih=>simp only[iX];split<;>simp[ih]
theorem lz (ls:List Int)(n:Nat):(cOut ls n).out.length=ls.length:=by
 induction n with
 | zero=>simp[cOut]
 | succ n ih=>simp only[cOut,n9,ih]
theorem jW (ls:List Int):(codes ls).length=ls.length:=lz ls 15
def cA (ls code:List Int)(n v:Int):Nat->Nat->Option Nat
 | 0,_=>none
 | f+1,i=>if ls.getD i 0=n/\code.getD i 0=v then some i else cA ls code n v f (i+1)
def find (ls code:List Int)(n v:Int):Option Nat:=cA ls code n v ls.length 0
def gW (L ls code:List Int):Nat->Nat->Int->St->Int×St
 | 0,_,_,st=>(0,{ st with bad:=true })
 | f+1,n,v,st =>
  let r:=take L st 1
  if r.2.bad then (0,r.2) else
  match find ls code ((n:Int)+1) (2*v+r.1) with
  | some i=>((i:Int),r.2)
  | none=>gW L ls code f (n+1) (2*v+r.1) r.2
def symbol (L ls code:List Int)(st:St):Int×St:=gW L ls code 15 0 0 st
def yu (L:List Int):Nat->St->St
 | 0,st=>st
 | f+1,st=>if st.bad then st else
  let r:=take L st 8
  yu L f { r.2 with out:=r.2.out++[UInt8.ofNat r.1.toNat] }
def plain (L:List Int)(limit:Int)(st:St):St :=
 let st1:={ st with pos:=(st.pos+7)/8*8 }
 let a:=take L st1 16
 let b:=take L a.2 16
 let eL:=if a.1+b.1=65535 then b.2 else { b.2 with bad:=true }
 if eL.bad then eL else
 let r:=room limit eL a.1.toNat
 if r.1 then yu L a.1.toNat r.2 else r.2
theorem uX (ls:List Int)(n K:Nat)(c:Cs)(i:Nat)(h1:c.next<=K*2^c.last)(h2:c.last<=n): (iX ls n c i).next<=(K+i)*2^(iX ls n c i).last/\(iX ls n c i).last<=n:=by
 induction i with
 | zero=>exact⟨by simpa[iX]using h1,h2⟩
 | succ i ih =>
  simp only[iX];split
  ·refine⟨?_,aad _⟩;simp only
   have h3:(iX ls n c i).next*2^(n-(iX ls n c i).last)<=(K+i)*2^n:=by
    have:=aaU (2^(n-(iX ls n c i).last)) ih.1;rw[aa0,<-Nat.pow_add,show (iX ls n c i).last+(n-(iX ls n c i).last)=n by omega]at this;exact this
   have h4:1<=2^n:=Nat.one_le_two_pow;rw[show K+(i+1)=(K+i)+1 by omega,Nat.add_mul];omega
  ·refine⟨aaz ih.1 (aaU _ (by omega)),ih.2⟩
theorem AU (ls:List Int)(n:Nat):(cOut ls n).next<=(ls.length*n)*2^(cOut ls n).last/\(cOut ls n).last<=n:=by
 induction n with
 | zero=>simp[cOut]
 | succ n ih =>
  have:=uX ls (n+1) (ls.length*n) (cOut ls n) ls.length ih.1 (by omega);simp only[cOut];rw[Nat.mul_succ];exact this
theorem GL (a b:Nat)(h:a<=b):(2:Nat)^a<=2^b:=aa2 (by omega) h
theorem KV (ls:List Int)(m i:Nat)(hm:m<15)(hi:i<=ls.length)(hl:ls.length<=320): (iX ls (m+1) (cOut ls m) i).next<=157286400/\(iX ls (m+1) (cOut ls m) i).last<=m+1/\(iX ls (m+1) (cOut ls m) i).next*2^(m+1-(iX ls (m+1) (cOut ls m) i).last)<=157286400:=by
 have hb:=AU ls m;have h:=uX ls (m+1) (ls.length*m) (cOut ls m) i hb.1 (by omega);generalize iX ls (m+1) (cOut ls m) i=c at *
 have hk:ls.length*m+i<=4800:=by
  have:ls.length*m<=320*14:=aaA hl (by omega);omega
 have hp:(2:Nat)^(m+1)<=2^15:=GL _ _ (by omega);have hq:(2:Nat)^c.last<=2^15:=GL _ _ (by omega)
 have h3:c.next*2^(m+1-c.last)<=(ls.length*m+i)*2^(m+1):=by
  have:=aaU (2^(m+1-c.last)) h.1;rw[aa0,<-Nat.pow_add,show c.last+(m+1-c.last)=m+1 by omega]at this;exact this
 have h4:(ls.length*m+i)*2^(m+1)<=4800*2^15:=aaA hk hp;have h5:(ls.length*m+i)*2^c.last<=4800*2^15:=aaA hk hq;exact⟨by omega,h.2,by omega⟩
theorem take_one {L:List Int}(h:Bits L)(st:St):0<=(take L st 1).1/\(take L st 1).1<=1:=by
 unfold take;split
 ·simp
 ·have:=rO h st.pos 1;simp only;omega
theorem KW (ls code:List Int)(n v:Int)(f j:Nat)(h:ls.getD j 0=n/\code.getD j 0=v):cA ls code n v (f+1) j=some j:=by rw[cA,aaf h]
theorem CL (ls code:List Int)(n v:Int)(f j:Nat)(h:¬(ls.getD j 0=n/\code.getD j 0=v)):cA ls code n v (f+1) j=cA ls code n v f (j+1):=by rw[cA,aae h]
theorem take_range {L:List Int}(h:Bits L)(st:St)(n:Nat):0<=(take L st n).1/\(take L st n).1<2^n:=by
 unfold take;split
 ·have h1:(1:Nat)<=2^n:=Nat.one_le_two_pow;have e:((2:Int)^n)=((2^n:Nat):Int):=by simp
  rw[e];simp only;omega
 ·exact rO h st.pos n
theorem bY (L:List Int)(st:St)(n:Nat):(take L st n).2.out=st.out/\(take L st n).2.kinds=st.kinds/\(take L st n).2.full=st.full:=by
 unfold take;split<;>simp
theorem iC (limit:Int)(st:St)(n:Nat):(room limit st n).2.out=st.out/\(room limit st n).2.kinds=st.kinds/\(room limit st n).2.pos=st.pos/\(room limit st n).2.bad=st.bad:=by
 unfold room;split<;>simp
def fs (ls:List Int):Nat->Nat
 | 0=>0
 | k+1=>fs ls k+if 0<ls.getD k 0 then 32768/2^(ls.getD k 0).toNat else 0
theorem Np (ls:List Int)(k:Nat):fs ls k<=32768*k:=by
 induction k with
 | zero=>simp[fs]
 | succ k ih =>
  simp only[fs];split
  ·have:=Nat.div_le_self 32768 (2^(ls.getD k 0).toNat);omega
  ·omega
def full (ls:List Int):Bool:=decide (fs ls ls.length=32768)
def rP (i:Nat):Int:=if i<144 then 8 else if i<256 then 9 else if i<280 then 7 else 8
def bE:List Int:=(List.range 288).map rP
def jl:List Int:=(List.range 32).map fun _=>5
def oJ (L ls cd:List Int)(n:Nat):Nat->List Int->St->List Int×St
 | 0,out,st=>(out,st)
 | f+1,out,st =>
  if n<=out.length\/st.bad=true then (out,st) else
  let r:=symbol L ls cd st
  if r.2.bad=true then ([],r.2)
  else if r.1<16 then oJ L ls cd n f (out++[r.1]) r.2
  else if r.1=16 then
   (if out=[] then ([],{ (take L r.2 2).2 with bad:=true }) else oJ L ls cd n f (out++List.replicate (3+(take L r.2 2).1.toNat) (out.getD (out.length-1) 0)) (take L r.2 2).2)
  else if r.1=17 then oJ L ls cd n f (out++List.replicate (3+(take L r.2 3).1.toNat) 0) (take L r.2 3).2
  else oJ L ls cd n f (out++List.replicate (11+(take L r.2 7).1.toNat) 0) (take L r.2 7).2
def listed (L ls:List Int)(n:Nat)(st:St):List Int×St :=
 let r:=oJ L ls (codes ls) n (n+1) [] st
 if r.1.length=n then r else (r.1,{ r.2 with bad:=true })
theorem qz (ls cd:List Int)(n v:Int):∀(f i j:Nat),cA ls cd n v f i=some j->j<i+f
 | 0,_,_,h=>by simp[cA]at h
 | f+1,i,j,h=>by
  rw[cA]at h;split at h
  ·cases h;omega
  ·have:=qz ls cd n v f (i+1) j h;omega
theorem rQ (L ls cd:List Int):∀(f n:Nat) (v:Int) (st:St),0<=(gW L ls cd f n v st).1/\((gW L ls cd f n v st).2.bad=false->(gW L ls cd f n v st).1<ls.length)
 | 0,_,_,st=>by simp[gW]
 | f+1,n,v,st=>by
  rw[gW];split
  ·rename_i h;simp only;exact⟨abj _,fun h2=>by rw[h]at h2;cases h2⟩
  ·split
   ·rename_i i hi;have:=qz ls cd _ _ _ _ _ hi;exact⟨by simp only;omega,fun _=>by simp only;omega⟩
   ·exact rQ L ls cd f (n+1) _ _
theorem im (L ls cd:List Int)(st:St):0<=(symbol L ls cd st).1/\((symbol L ls cd st).2.bad=false->(symbol L ls cd st).1<ls.length):=rQ L ls cd 15 0 0 st
def lenOf (L:List Int)(i:Nat)(st:St):Nat×St :=
 if i=28 then (258,st) else if 8<=i then ((4+i%4)*2^(i/4-1)+3+(take L st (i/4-1)).1.toNat,(take L st (i/4-1)).2) else (i+3,st)
def cg (L:List Int)(j:Nat)(st:St):Nat×St :=
 if 4<=j then ((2+j%2)*2^(j/2-1)+1+(take L st (j/2-1)).1.toNat,(take L st (j/2-1)).2) else (j+1,st)
def Em (d:Nat):Nat->List UInt8->List UInt8
 | 0,o=>o
 | k+1,o=>Em d k (o++[o.getD (o.length-d) 0])
def copied (L:List Int)(limit:Int)(i:Nat)(far code:List Int)(st:St):St :=
 if (lenOf L i st).2.bad=true then (lenOf L i st).2 else
 if (symbol L far code (lenOf L i st).2).2.bad=true\/29<(symbol L far code (lenOf L i st).2).1 then { (symbol L far code (lenOf L i st).2).2 with bad:=true } else
 if (cg L (symbol L far code (lenOf L i st).2).1.toNat (symbol L far code (lenOf L i st).2).2).2.bad=true \/
   (cg L (symbol L far code (lenOf L i st).2).1.toNat (symbol L far code (lenOf L i st).2).2).2.out.length<(cg L (symbol L far code (lenOf L i st).2).1.toNat (symbol L far code (lenOf L i st).2).2).1 then
  { (cg L (symbol L far code (lenOf L i st).2).1.toNat (symbol L far code (lenOf L i st).2).2).2 with bad:=true } else
 if (room limit (cg L (symbol L far code (lenOf L i st).2).1.toNat (symbol L far code (lenOf L i st).2).2).2 (lenOf L i st).1).1=true then
  { (room limit (cg L (symbol L far code (lenOf L i st).2).1.toNat (symbol L far code (lenOf L i st).2).2).2 (lenOf L i st).1).2 with
   out:=Em (cg L (symbol L far code (lenOf L i st).2).1.toNat (symbol L far code (lenOf L i st).2).2).1 (lenOf L i st).1 (room limit (cg L (symbol L far code (lenOf L i st).2).1.toNat (symbol L far code (lenOf L i st).2).2).2 (lenOf L i st).1).2.out }
 else (room limit (cg L (symbol L far code (lenOf L i st).2).1.toNat (symbol L far code (lenOf L i st).2).2).2 (lenOf L i st).1).2
theorem yv (L ls cd:List Int):∀(f n:Nat) (v:Int) (st:St),(gW L ls cd f n v st).2.out=st.out/\(gW L ls cd f n v st).2.kinds=st.kinds/\(gW L ls cd f n v st).2.full=st.full
 | 0,_,_,st=>by simp[gW]
 | f+1,n,v,st=>by
  have h:=bY L st 1;rw[gW];split
  ·exact h
  ·split
   ·exact h
   ·have h2:=yv L ls cd f (n+1) (2*v+(take L st 1).1) (take L st 1).2;exact⟨h2.1.trans h.1,h2.2.1.trans h.2.1,h2.2.2.trans h.2.2⟩
theorem fp (L ls cd:List Int)(st:St):(symbol L ls cd st).2.out=st.out/\(symbol L ls cd st).2.kinds=st.kinds/\(symbol L ls cd st).2.full=st.full:=yv L ls cd 15 0 0 st
def eO (L:List Int)(limit:Int)(ls cd far uY:List Int):Nat->St->St
 | 0,st=>st
 | f+1,st =>
  if (st.bad||st.full)=true then st else
  if (symbol L ls cd st).2.bad=true\/(symbol L ls cd st).1=256 then (symbol L ls cd st).2
  else if (symbol L ls cd st).1<256 then
   eO L limit ls cd far uY f (if (room limit (symbol L ls cd st).2 1).1=true then { (room limit (symbol L ls cd st).2 1).2 with out:=(room limit (symbol L ls cd st).2 1).2.out++[UInt8.ofNat (symbol L ls cd st).1.toNat] } else (room limit (symbol L ls cd st).2 1).2)
  else if 285<(symbol L ls cd st).1 then eO L limit ls cd far uY f { (symbol L ls cd st).2 with bad:=true }
  else eO L limit ls cd far uY f (copied L limit ((symbol L ls cd st).1-257).toNat far uY (symbol L ls cd st).2)
def symbols (L:List Int)(limit:Int)(ls far:List Int)(st:St):St:=eO L limit ls (codes ls) far (codes far) (L.length+2) st
theorem dN (L:List Int)(st:St)(n:Nat):st.pos<=(take L st n).2.pos:=by
 unfold take;split
 ·exact aad _
 ·show st.pos<=st.pos+n;omega
theorem gH (L:List Int)(st:St)(n:Nat)(h:(take L st n).2.bad=false):(take L st n).2.pos=st.pos+n/\st.bad=false:=by
 unfold take at *;split at h
 ·cases h
 ·rename_i hn;rw[aae hn];exact⟨rfl,h⟩
theorem pJ (L ls cd:List Int):∀(f n:Nat) (v:Int) (st:St),st.pos<=(gW L ls cd f n v st).2.pos
 | 0,_,_,st=>by simp[gW]
 | f+1,n,v,st=>by
  have h:=dN L st 1;rw[gW];split
  ·exact h
  ·split
   ·exact h
   ·exact aaz h (pJ L ls cd f _ _ _)
theorem GM (L ls cd:List Int):∀(f n:Nat) (v:Int) (st:St),(gW L ls cd f n v st).2.bad=false->st.pos<(gW L ls cd f n v st).2.pos
 | 0,_,_,st=>by simp[gW]
 | f+1,n,v,st=>by
  rw[gW];split
  ·rename_i h;intro h2;simp only at h2;rw[h]at h2;cases h2
  ·rename_i h;have hb:=gH L st 1 (by simpa using h);split
   ·intro _;simp only;omega
   ·intro _;have:=pJ L ls cd f (n+1) (2*v+(take L st 1).1) (take L st 1).2;omega
theorem rR (L ls cd:List Int)(st:St)(h:(symbol L ls cd st).2.bad=false):st.pos<(symbol L ls cd st).2.pos:=GM L ls cd 15 0 0 st h
theorem lC (L ls cd:List Int)(st:St):st.pos<=(symbol L ls cd st).2.pos:=pJ L ls cd 15 0 0 st
theorem rS (d:Nat):∀(k:Nat) (o:List UInt8),(Em d k o).length=o.length+k
 | 0,o=>rfl
 | k+1,o=>by rw[Em,rS d k];simp;omega
theorem GN {L:List Int}(hb:Bits L)(i:Nat)(hi:i<=28)(st:St):(lenOf L i st).1<=258/\st.pos<=(lenOf L i st).2.pos/\(lenOf L i st).2.out=st.out:=by
 unfold lenOf;split
 ·simp
 ·split
  ·rename_i h1 h2;have ht:=take_range hb st (i/4-1);have hs:∀i:Nat,i<28->8<=i->(4+i%4)*2^(i/4-1)+2^(i/4-1)<=256:=by decide +kernel
   have hs:=hs i (by omega) h2;have e:((2:Int)^(i/4-1))=((2^(i/4-1):Nat):Int):=by simp
   rw[e]at ht;refine⟨?_,dN L st _,(bY L st _).1⟩;simp only;omega
  ·simp;omega
theorem En (L:List Int)(j:Nat)(st:St):st.pos<=(cg L j st).2.pos/\(cg L j st).2.out=st.out:=by
 unfold cg;split
 ·exact⟨dN L st _,(bY L st _).1⟩
 ·simp
theorem uZ {L:List Int}(hb:Bits L)(limit:Int)(i:Nat)(hi:i<=28)(far code:List Int)(st:St): st.pos<=(copied L limit i far code st).pos/\(copied L limit i far code st).out.length<=st.out.length+258:=by
 have h1:=GN hb i hi st;unfold copied;generalize lenOf L i st=A at *;have h2:=lC L far code A.2;have h3:=(fp L far code A.2).1;generalize symbol L far code A.2=S at *;have h4:=En L S.1.toNat S.2;generalize cg L S.1.toNat S.2=D at *;have h5:=iC limit D.2 A.1;generalize room limit D.2 A.1=R at *
 repeat' split
 ·exact⟨h1.2.1,by rw[h1.2.2];omega⟩
 ·exact⟨by simp only;omega,by simp only;rw[h3,h1.2.2];omega⟩
 ·exact⟨by simp only;omega,by simp only;rw[h4.2,h3,h1.2.2];omega⟩
 ·exact⟨by simp only;rw[h5.2.2.1];omega,by simp only;rw[rS,h5.1,h4.2,h3,h1.2.2];omega⟩
 ·exact⟨by rw[h5.2.2.1];omega,by rw[h5.1,h4.2,h3,h1.2.2];omega⟩
def order:List Nat:=[16,17,18,0,8,7,9,6,10,5,11,4,12,3,13,2,14,1,15]
def jX (L:List Int):Nat->Nat->List Int->St->List Int×St
 | 0,_,ls,st=>(ls,st)
 | f+1,i,ls,st=>if st.bad=true then (ls,st) else jX L f (i+1) (ls.set (order.getD i 0) (take L st 3).1) (take L st 3).2
def iY (far:List Int):Nat->Int
 | 0=>0
 | k+1=>iY far k+far.getD k 0
def ib (far:List Int):Nat->Nat
 | 0=>0
 | k+1=>ib far k+if far.getD k 0=1 then 1 else 0
def cY (l far:List Int):Bool :=
 decide (l.getD 256 0=0)||!full l||(!full far&&(decide (iY far far.length≠0)&&(decide (iY far far.length≠1)||decide (ib far far.length≠1))))
def own (L:List Int)(limit:Int)(st:St):St :=
 let h:=take L st 5
 let d:=take L h.2 5
 let k:=take L d.2 4
 let q:=jX L (k.1.toNat+4) 0 (List.replicate 19 0) k.2
 if q.2.bad=true\/29<h.1\/29<d.1\/full q.1=false then { q.2 with bad:=true } else
 let a:=listed L q.1 (h.1+d.1+258).toNat q.2
 if a.2.bad=true then a.2 else
 if cY (a.1.take (h.1.toNat+257)) (a.1.drop (h.1.toNat+257))=true then { a.2 with bad:=true } else
 symbols L limit (a.1.take (h.1.toNat+257)) (a.1.drop (h.1.toNat+257)) a.2
theorem oK:∀i,order.getD i 0<19:=by
 intro i;by_cases h:i<19
 ·exact (show ∀i,i<19->order.getD i 0<19 by decide) i h
 ·have e:order.getD i 0=0:=by
   have hl:order.length<=i:=by simp[order];omega
   simp[List.getD,List.getElem?_eq_none hl]
  omega
def cU (ls:List Int)(b:Int):Prop:=∀j,0<=ls.getD j 0/\ls.getD j 0<=b
theorem pK (n:Nat)(b:Int)(hb:0<=b):cU (List.replicate n 0) b:=by
 intro j;have:(List.replicate n (0:Int)).getD j 0=0:=by simp[List.getD,List.getElem?_replicate];split<;>rfl
 omega
theorem AV {ls:List Int}{b:Int}(h:cU ls b)(i:Nat)(x:Int)(hx:0<=x/\x<=b):cU (ls.set i x) b:=by
 intro j;have:=h j;simp only[List.getD,List.getElem?_set]at *;split
 ·split
  ·simpa using hx
  ·simp;omega
 ·exact this
theorem gC {a c:List Int}{b:Int}(h1:cU a b)(h2:cU c b):cU (a++c) b:=by
 intro j;by_cases hj:j<a.length
 ·have:=h1 j;simpa[List.getD,List.getElem?_append_left hj]using this
 ·have:=h2 (j-a.length);simpa[List.getD,List.getElem?_append_right (show a.length<=j by omega)]using this
theorem jY (n:Nat)(x b:Int)(hx:0<=x/\x<=b):cU (List.replicate n x) b:=by
 intro j;simp only[List.getD,abK];split
 ·simpa using hx
 ·simp;omega
theorem yx {ls:List Int}{b:Int}(h:cU ls b)(n:Nat)(hb:0<=b):cU (ls.take n) b:=by
 intro j;simp only[List.getD,abx];split
 ·exact h j
 ·simp;omega
theorem yy {ls:List Int}{b:Int}(h:cU ls b)(n:Nat):cU (ls.drop n) b:=by
 intro j;have:=h (n+j);simpa[List.getD,List.getElem?_drop]using this
theorem qA (L:List Int):∀(f i:Nat) (ls:List Int) (st:St),(jX L f i ls st).1.length=ls.length
 | 0,_,_,_=>rfl
 | f+1,i,ls,st=>by
  rw[jX];split
  ·rfl
  ·rw[qA L f];simp
theorem qB {L:List Int}(hb:Bits L):∀(f i:Nat) (ls:List Int) (st:St),cU ls 7->cU (jX L f i ls st).1 7
 | 0,_,_,_,h=>h
 | f+1,i,ls,st,h=>by
  rw[jX];split
  ·exact h
  ·have ht:=take_range hb st 3;exact qB hb f _ _ _ (AV h _ _ ⟨ht.1,by omega⟩)
theorem iD {L:List Int}(hb:Bits L)(ls cd:List Int)(hl:ls.length=19)(n:Nat):∀(f:Nat) (out:List Int) (st:St),cU out 15->cU (oJ L ls cd n f out st).1 15
 | 0,_,_,h=>h
 | f+1,out,st,h=>by
  have hs:=im L ls cd st;have h0:cU [] 15:=fun j=>by simp
  simp only[oJ];split
  ·exact h
  ·split
   ·exact h0
   ·rename_i hbad;split
    ·rename_i h16;refine iD hb ls cd hl n f _ _ (gC h ?_);exact jY 1 _ 15 ⟨hs.1,by omega⟩
    ·split
     ·split
      ·exact h0
      ·exact iD hb ls cd hl n f _ _ (gC h (jY _ _ 15 (h _)))
     ·split
      ·exact iD hb ls cd hl n f _ _ (gC h (jY _ _ 15 (by omega)))
      ·exact iD hb ls cd hl n f _ _ (gC h (jY _ _ 15 (by omega)))
theorem uz {L:List Int}(hb:Bits L)(ls:List Int)(hl:ls.length=19)(n:Nat)(st:St):cU (listed L ls n st).1 15:=by
 have h:=iD hb ls (codes ls) hl n (n+1) [] st (fun j=>by simp);unfold listed;simp only;split
 ·exact h
 ·exact h
end Go.Proofs.YtmfijackgekioaaGreatDoor.Rf
namespace Go.Proofs.YtmfijackgekioaaGreatDoor.Mx
def ad:List UInt8->Int×Int->Int×Int
 | [],p=>p
 | c::r,p=>ad r ((p.1+c.toNat)%65521,(p.2+(p.1+c.toNat)%65521)%65521)
theorem CM (l:List UInt8)(c:UInt8)(p:Int×Int): ad (l++[c]) p=(((ad l p).1+c.toNat)%65521,((ad l p).2+((ad l p).1+c.toNat)%65521)%65521):=by
 induction l generalizing p with
 | nil=>rfl
 | cons x r ih=>exact ih _
def AE (l:List UInt8):Int:=(ad l (1,0)).1
def Gv (l:List UInt8):Int:=(ad l (1,0)).2
theorem lE (l:List UInt8)(p:Int×Int)(h1:0<=p.1/\p.1<=65520)(h2:0<=p.2/\p.2<=65520): (0<=(ad l p).1/\(ad l p).1<=65520)/\(0<=(ad l p).2/\(ad l p).2<=65520):=by
 induction l generalizing p with
 | nil=>exact⟨h1,h2⟩
 | cons x r ih=>exact ih _ (by simp only;omega) (by simp only;omega)
theorem mW (l:List UInt8):0<=AE l/\AE l<=65520:=(lE l (1,0) (by simp) (by simp)).1
theorem mX (l:List UInt8):0<=Gv l/\Gv l<=65520:=(lE l (1,0) (by simp) (by simp)).2
theorem yz (l:List UInt8)(c:UInt8):AE (l++[c])=(AE l+c.toNat)%65521:=by simp only[AE,CM]
theorem yA (l:List UInt8)(c:UInt8):Gv (l++[c])=(Gv l+(AE l+c.toNat)%65521)%65521:=by simp only[AE,Gv,CM]
def eg (l:List UInt8):Int:=65536*Gv l+AE l
theorem fU (s:ByteArray)(k:Nat)(h:k<s.size):s.data.toList.take (k+1)=s.data.toList.take k++[s[k]]:=by
 rw[aaB (by simpa using h)];rfl
def AF (x:Nat):Nat:=(x/2)^^^(3988292384*(x%2))
def fV:Nat->Nat->Nat
 | 0,x=>x
 | k+1,x=>AF (fV k x)
theorem Oy (x:Nat)(h:x<4294967296):AF x<4294967296:=by
 unfold AF;have:x%2<=1:=by omega
 exact Nat.xor_lt_two_pow (n:=32) (by omega) (by omega)
theorem CN (k x:Nat)(h:x<4294967296):fV k x<4294967296:=by
 induction k with
 | zero=>exact h
 | succ k ih=>exact Oy _ ih
theorem KX (x y:Nat):AF (x^^^2*y)=AF x^^^y:=by
 unfold AF
 have h1:(x^^^2*y)/2=x/2^^^y:=by
  have h:=Nat.shiftRight_xor_distrib (a:=x) (b:=2*y) (i:=1);simp only[Nat.shiftRight_eq_div_pow,Nat.pow_one]at h;rw[h,Nat.mul_div_cancel_left _ (by omega)]
 have h2:(x^^^2*y)%2=x%2:=by
  have:=Nat.xor_mod_two_pow (a:=x) (b:=2*y) (n:=1);simp only[Nat.pow_one]at this;rw[this,Nat.mul_mod_right,Nat.xor_zero]
 rw[h1,h2,Nat.xor_assoc,Nat.xor_assoc,Nat.xor_comm y]
theorem GQ (k x y:Nat):fV k (x^^^2^k*y)=fV k x^^^y:=by
 induction k generalizing y with
 | zero=>simp[fV]
 | succ k ih =>
  show AF (fV k _)=AF (fV k x)^^^y;have e:2^(k+1)*y=2^k*(2*y):=by rw[ab1,aa0]
  rw[e,ih,KX]
theorem GR (a b x:Nat):fV (a+b) x=fV b (fV a x):=by
 induction b with
 | zero=>rfl
 | succ b ih=>show AF (fV (a+b) x)=_;rw[ih];rfl
def reg:List UInt8->Nat->Nat
 | [],r=>r
 | c::l,r=>reg l (fV 8 (r^^^c.toNat))
theorem GT (l:List UInt8)(c:UInt8)(r:Nat):reg (l++[c]) r=fV 8 (reg l r^^^c.toNat):=by
 induction l generalizing r with
 | nil=>rfl
 | cons x l ih=>exact ih _
def kZ (l:List UInt8):Nat:=reg l 4294967295
theorem GU (a b:Nat)(ha:a<4294967296)(hb:b<4294967296):a^^^b<4294967296:=Nat.xor_lt_two_pow (n:=32) ha hb
theorem Oz (l:List UInt8)(r:Nat)(h:r<4294967296):reg l r<4294967296:=by
 induction l generalizing r with
 | nil=>exact h
 | cons c l ih=>exact ih _ (CN _ _ (GU _ _ h (by have:=c.toNat_lt;omega)))
theorem wE (l:List UInt8):kZ l<4294967296:=Oz l _ (by omega)
theorem Eo (l:List UInt8)(c:UInt8):kZ (l++[c])=fV 8 (kZ l^^^c.toNat):=GT l c _
def num:List UInt8->Nat
 | []=>0
 | c::l=>c.toNat+256*num l
theorem wG (c y:Nat)(h:c<256):c+256*y=c^^^256*y:=by
 have h8:=Nat.two_pow_add_eq_or_of_lt (i:=8) (b:=c) h y;rw[show (2:Nat)^8=256 from rfl]at h8
 have e2:c^^^256*y=256*y|||c:=by
  apply Nat.eq_of_testBit_eq;intro i;rw[Nat.testBit_xor,Nat.testBit_or,show (256:Nat)=2^8 from rfl,Nat.testBit_two_pow_mul];by_cases hi:i<8
  ·simp[show ¬i≥8 by omega]
  ·rw[Nat.testBit_lt_two_pow (x:=c) (i:=i) (aar h (by show 2^8<=_;exact aa2 (by omega) (by omega)))];simp
 omega
theorem GV (l:List UInt8)(r:Nat):fV (8*l.length) (num l^^^r)=reg l r:=by
 induction l generalizing r with
 | nil=>simp[fV,num,reg]
 | cons c l ih =>
  show fV (8*(l.length+1)) ((c.toNat+256*num l)^^^r)=reg l (fV 8 (r^^^c.toNat));rw[show 8*(l.length+1)=8+8*l.length by omega,GR,wG _ _ (by have:=c.toNat_lt;omega)];rw[show c.toNat^^^256*num l^^^r=(r^^^c.toNat)^^^2^8*num l by rw[Nat.xor_comm _ r,<-Nat.xor_assoc],GQ,Nat.xor_comm,ih]
def some (c:UInt8)(j:Nat):List Int:=(List.range j).map fun t=>((c.toNat/2^t%2:Nat):Int)
theorem pL (c:UInt8)(j:Nat):some c (j+1)=some c j++[((c.toNat/2^j%2:Nat):Int)]:=by
 simp[some,List.range_succ]
theorem i9 (c:UInt8)(j:Nat):(some c j).length=j:=by simp[some]
def low:List UInt8->List Int
 | []=>[]
 | c::l=>some c 8++low l
theorem yB (l:List UInt8)(c:UInt8):low (l++[c])=low l++some c 8:=by
 induction l with
 | nil=>simp[low]
 | cons x l ih=>simp only[acn,low,ih,aaq]
theorem jZ (l:List UInt8):(low l).length=8*l.length:=by
 induction l with
 | nil=>rfl
 | cons x l ih=>simp only[low,aac,i9,ih,aao];omega
end Go.Proofs.YtmfijackgekioaaGreatDoor.Mx
namespace Go.Proofs.YtmfijackgekioaaGreatDoor
section
variable {P:Program} {ops:Array Oper} {Q:Exit->Act->World->Prop} {md:Region.Mode} {S:World->Prop} {z:Nat}
theorem eQ {i j:Nat}{o p:Oper}{fuel:Nat}{listed:Array Bool}{a:Act}{w:World}(hr:Region.ready md ops listed=[i,j])(ho:ops[i]?=some o)(hp:ops[j]?=some p)(h1:∀K':Act->World->Prop,(∀a w,(i≠z->S w)->dU P md ops Q S z fuel (listed.setIfInBounds i true) a w->K' a w)->if Region.wanted o (yielded ops a.tmps)=true then Oper.wp P o a w K' Q else K' (a.put o.dst undef) w)(h2:∀K':Act->World->Prop,(∀a w,(j≠z->S w)->dU P md ops Q S z fuel (listed.setIfInBounds j true) a w->K' a w)->if Region.wanted p (yielded ops a.tmps)=true then Oper.wp P p a w K' Q else K' (a.put p.dst undef) w): dU P md ops Q S z (fuel+1) listed a w:=by
 refine⟨fun e=>?_,fun k hk=>?_⟩
 ·rw[hr]at e;cases e
 ·rw[hr]at hk;have e:k=i\/k=j:=by simpa using hk
  rcases e with e|e
  ·subst e;exact wpOp_step ho (fun K' hK=>h1 K' (fun a w hS hW=>hK a w ⟨hS,hW⟩))
  ·subst e;exact wpOp_step hp (fun K' hK=>h2 K' (fun a w hS hW=>hK a w ⟨hS,hW⟩))
end
end Go.Proofs.YtmfijackgekioaaGreatDoor
