import Derived.Test.YtmfijackgekioaaGreatDoorQ37
import Derived.Test.YtmfijackgekioaaGreatDoorQ38
import Derived.Lib.SliceRun
set_option maxHeartbeats 1000000
set_option maxRecDepth 100000
namespace Go.Proofs.YtmfijackgekioaaGreatDoor
open Go.RowKit Go.Maps
theorem wv {R:Nat}:∀(xs:List Int) (o:Nat) (w:World) (l:List Int),dA w R l->o+xs.length<=l.length->dA (w.setCells R o (dC xs)) R (l.take o++xs++l.drop (o+xs.length))/\Kp (·=R) w (w.setCells R o (dC xs))
 | [],o,w,l,h,_=>by
  refine⟨?_,Kp.refl _ _⟩;rw[aa9,abS,abQ,List.take_append_drop];exact h
 | x::r,o,w,l,h,hl=>by
  rw[aao]at hl;obtain⟨h1,h2⟩:=wv r (o+1) (w.setCell ⟨R,o,none⟩ (.int .u8 x)) (l.set o x) (h.set o x) (by rw[aaZ];omega);refine⟨?_,((Kp.refl (·=R) w).setCell (p:=⟨R,o,none⟩) (.inl rfl) (.int .u8 x)).trans h2⟩
  have e:(l.set o x).take (o+1)++r++(l.set o x).drop (o+1+r.length)=l.take o++(x::r)++l.drop (o+(x::r).length):=by
   rw[aaB (by rw[aaZ];omega),List.take_set_of_le (aad _),List.getElem_set_self,List.drop_set_of_lt (by omega),aao,show o+1+r.length=o+(r.length+1) by omega];simp only[aaq,acn,abg]
  rw[<-e];exact h1
theorem UD (w:World):(zeroValue 5).run Tryz.prog w=.ok (.int .u8 0) w:=by kernel_rfl
theorem FW {w:World}{R n c:Nat}{l:List Int}(h:dA w R l)(hl:l.length=n)(hn:0<n):∃v,(∀ty,(Builtin.clear_ #[107] ty #[.slice (some ⟨R,0,none⟩) n c]).run Tryz.prog w=.ok (.tuple #[]) v)/\dA v R (List.replicate n 0)/\Kp (·=R) w v:=by
 have e:dC (List.replicate n 0)=List.replicate n (.int .u8 0):=by simp[dC]
 obtain⟨h1,h2⟩:=wv (List.replicate n 0) 0 w l h (by rw[abh];omega);refine⟨_,fun ty=>?_,?_,h2⟩
 ·rw[e];exact Lib.run_clear_slice w _ _ ty _ Tryz.underlying107 UD rfl rfl R 0 n c hn (fun j hj=>by rw[aaF,h.cell j (by omega)];rfl) (fun j _=>h.frozen _)
 ·rw[List.take_zero,abg,abh,List.drop_of_length_le (by omega),aa9]at h1;exact h1
theorem MT (R n dp:Nat)(w:World): Calls Tryz.prog 149 #[.slice (some ⟨R,0,none⟩) n n,.int .i64 (dp:Nat)] w fun e w'=>e=.returned (Og (w.heap.size+2) (w.heap.size+1) w.heap.size)/\gV w' (w.heap.size+2) (w.heap.size+1) w.heap.size R dp n 0/\Below w.heap.size w w':=by
 obtain⟨k0,q0,q1,q2⟩:=mL w (.cells #[.slice (some ⟨R,0,none⟩) n n] 107) (.cells #[.int .i64 (dp:Nat)] 3) (.cells #[.int .i64 0] 3)
 go_enter Tryz.func149,Tryz.ntmps149
 go_wp2
 go_ret
 exact⟨rfl,⟨q2,q1,q0⟩,k0⟩
structure ul (w0:World) (B X fl lead F:Nat) (aN:Array Value) (K:Nat->Prop):Prop where
 call:∀args w,(callFunc F args).run Tryz.prog w=.ok (.enter F args) w
 low:∀j,K j->j<w0.heap.size
 does:∀(u:World) (n R A:Nat) (r a l:List Int) (v:Value),(∀j,K j->u.heap[j]?=w0.heap[j]?)->(∀j,K j->v.ownBlock≠some j)->V5 u B X n R A r a l v->n<=1000000->Calls Tryz.prog F (#[.slice (some ⟨R,0,none⟩) n n,.slice (some ⟨A,0,none⟩) n n]++aN) u fun e u'=>Ci fl lead n r a l B X v u e u'
structure mU (u:World) (E bN bD P0 G N cap W H n:Nat) (kd:Int) (dp:Nat) (ps:Bool) (pv dv:Value) (p:Pm.Ps):Prop where
 m:u.heap[E]?=some (.cells (aH W H kd dp ps pv (.slice (some ⟨G,0,none⟩) N cap)) 30 (0,0))
 n:bM u bN (.int .i64 (n:Nat)) 3
 d:bM u bD dv 128
 pa:u.heap[P0]?=some (.cells #[.int .i64 (p.c0:Nat),.int .i64 (p.r0:Nat),.int .i64 (p.cs:Nat),.int .i64 (p.rs:Nat),.int .i64 (p.C:Nat),.int .i64 (p.R:Nat)] 122 (0,0))
theorem mU.kept {u u':World}{E bN bD P0 G N cap W H n:Nat}{kd:Int}{dp:Nat}{ps:Bool}{pv dv:Value}{p:Pm.Ps}(h:mU u E bN bD P0 G N cap W H n kd dp ps pv dv p)(k:∀j,j=E\/j=bN\/j=bD\/j=P0->u'.heap[j]?=u.heap[j]?):mU u' E bN bD P0 G N cap W H n kd dp ps pv dv p :=
 ⟨(k _ (.inl rfl)).trans h.m,(k _ (.inr (.inl rfl))).trans h.n,(k _ (.inr (.inr (.inl rfl)))).trans h.d,(k _ (.inr (.inr (.inr rfl)))).trans h.pa⟩
theorem mU.lt {u:World}{E bN bD P0 G N cap W H n:Nat}{kd:Int}{dp:Nat}{ps:Bool}{pv dv:Value}{p:Pm.Ps}(h:mU u E bN bD P0 G N cap W H n kd dp ps pv dv p)(j:Nat)(hj:j=E\/j=bN\/j=bD\/j=P0):j<u.heap.size:=by
 rcases hj with rfl|rfl|rfl|rfl
 ·exact aab h.m
 ·exact aab h.n
 ·exact aab h.d
 ·exact aab h.pa
theorem mU.below {u u':World}{E bN bD P0 G N cap W H n:Nat}{kd:Int}{dp:Nat}{ps:Bool}{pv dv:Value}{p:Pm.Ps}(h:mU u E bN bD P0 G N cap W H n kd dp ps pv dv p)(k:Below u.heap.size u u'):mU u' E bN bD P0 G N cap W H n kd dp ps pv dv p:=h.kept (fun j hj=>k.block j (h.lt j hj))
theorem mU.kp {u u':World}{K:Nat->Prop}{E bN bD P0 G N cap W H n:Nat}{kd:Int}{dp:Nat}{ps:Bool}{pv dv:Value}{p:Pm.Ps}(h:mU u E bN bD P0 G N cap W H n kd dp ps pv dv p)(k:Kp K u u')(hk:∀j,j=E\/j=bN\/j=bD\/j=P0->¬K j):mU u' E bN bD P0 G N cap W H n kd dp ps pv dv p:=h.kept (fun j hj=>k.block j (h.lt j hj) (hk j hj))
theorem Eb {u:World}{E bN bD P0 G N cap W H n:Nat}{kd:Int}{dp:Nat}{ps:Bool}{pv dv:Value}{p:Pm.Ps}(h:mU u E bN bD P0 G N cap W H n kd dp ps pv dv p): (u.cell? ⟨E,0,none⟩=some (.int .i64 (W:Nat))/\u.cell? ⟨E,1,none⟩=some (.int .i64 (H:Nat))/\u.cell? ⟨E,2,none⟩=some (.int .i64 kd)/\u.cell? ⟨E,3,none⟩=some (.int .i64 (dp:Nat))/\u.cell? ⟨E,4,none⟩=some (.bool ps)/\u.cell? ⟨E,5,none⟩=some pv/\u.cell? ⟨E,6,none⟩=some (.slice (some ⟨G,0,none⟩) N cap)) /\ u.cell? ⟨bN,0,none⟩=some (.int .i64 (n:Nat))/\u.cell? ⟨bD,0,none⟩=some dv /\ (u.cell? ⟨P0,0,none⟩=some (.int .i64 (p.c0:Nat))/\u.cell? ⟨P0,1,none⟩=some (.int .i64 (p.r0:Nat))/\u.cell? ⟨P0,2,none⟩=some (.int .i64 (p.cs:Nat))/\u.cell? ⟨P0,3,none⟩=some (.int .i64 (p.rs:Nat))/\u.cell? ⟨P0,4,none⟩=some (.int .i64 (p.C:Nat))/\u.cell? ⟨P0,5,none⟩=some (.int .i64 (p.R:Nat))):=by
 obtain⟨a0,a1,a2,a3,a4,a5,a6⟩:=aI h.m;obtain⟨x0,x1,x2,x3,x4,x5,_⟩:=DS h.pa;exact⟨⟨a0,a1,a2,a3,a4,a5,a6⟩,h.n.cell,h.d.cell,x0,x1,x2,x3,x4,x5⟩
structure Oh (w wr:World) (m:Pm.cD) (S:List Int) (p:Pm.Ps) (o fl B X ra aa size j:Nat) (l0 l:List Int) (v0 v:Value):Prop where
 raw:fO wr B X l v
 len:l.length=o+j*(1+size)
 Ea:∀y∈l,0<=y/\y<256
 pre:l0 <+: l
 rows:∀i,i<j->Pm.mQ m S p (Pm.rm l) o fl i
 ab:dA wr aa (Pm.cx m S p j)
 ro:∃rl,dA wr ra rl/\rl.length=size
 kp:Kp (Rw X v0) w wr
 own:v.ownBlock=v0.ownBlock\/∃b,v.ownBlock=some b/\w.heap.size<=b
 ne:v.ownBlock≠some ra/\v.ownBlock≠some aa/\v.ownBlock≠some w.heap.size
 fresh:w.heap.size<ra/\w.heap.size<aa/\ra≠aa
theorem MU {m:Pm.cD}{S:List Int}{p:Pm.Ps}{o fl j:Nat}{l l':List Int}(hlen:l.length=o+j*(1+Pm.rowLen p.C m.bits))(hb:∀y∈l,0<=y/\y<256)(h:Wrote fl m.lead (Pm.rowLen p.C m.bits) (Pm.cx m S p j) (Pm.ia m S p j) l l')(hr:∀i,i<j->Pm.mQ m S p (Pm.rm l) o fl i): l'.length=o+(j+1)*(1+Pm.rowLen p.C m.bits)/\(∀y∈l',0<=y/\y<256)/\l <+: l'/\∀i,i<j+1->Pm.mQ m S p (Pm.rm l') o fl i:=by
 have hle:=h.len;obtain⟨f,h4,h5,rfl⟩:=h
 have hold:∀i,i<l.length->Pm.rm (l++(f:Int)::cN f m.lead (Pm.ap (Pm.cx m S p j)) (Pm.ap (Pm.ia m S p j)) (Pm.rowLen p.C m.bits) (Pm.rowLen p.C m.bits)) i=Pm.rm l i:=fun i hi=>by
  unfold Pm.rm Pm.ap;rw[aaa,aaa,aaS hi]
 have hnew:∀i,Pm.rm (l++(f:Int)::cN f m.lead (Pm.ap (Pm.cx m S p j)) (Pm.ap (Pm.ia m S p j)) (Pm.rowLen p.C m.bits) (Pm.rowLen p.C m.bits)) (l.length+i)=Pm.rm ((f:Int)::cN f m.lead (Pm.ap (Pm.cx m S p j)) (Pm.ap (Pm.ia m S p j)) (Pm.rowLen p.C m.bits) (Pm.rowLen p.C m.bits)) i:=fun i=>by
  unfold Pm.rm Pm.ap;rw[aaa,aaa,aaG (by omega),Nat.add_sub_cancel_left]
 have h0:Pm.rm (l++(f:Int)::cN f m.lead (Pm.ap (Pm.cx m S p j)) (Pm.ap (Pm.ia m S p j)) (Pm.rowLen p.C m.bits) (Pm.rowLen p.C m.bits)) (o+j*(1+Pm.rowLen p.C m.bits))=f:=by
  have:=hnew 0;rw[abQ,hlen]at this;rw[this];show ((f:Int)).toNat=f;omega
 refine⟨by rw[hle,hlen,abR];omega,fun y hy=>?_,List.prefix_append _ _,fun i hi=>?_⟩
 ·rcases aa8.1 hy with hy|hy
  ·exact hb y hy
  ·rcases ab0.1 hy with rfl|hy
   ·omega
   ·obtain⟨k,hk,rfl⟩:=List.mem_iff_getElem.1 hy;have:=mT f m.lead (Pm.ap (Pm.cx m S p j)) (Pm.ap (Pm.ia m S p j)) (Pm.rowLen p.C m.bits) (Pm.rowLen p.C m.bits) k;unfold Pm.ap at this;rw[aaa,aai hk]at this;exact this
 ·rcases aaL i j with hij|hij
  ·refine (hr i hij).congr (fun k hk=>hold k ?_);have:(i+1)*(1+Pm.rowLen p.C m.bits)<=j*(1+Pm.rowLen p.C m.bits):=aaU _ hij;omega
  ·obtain rfl:i=j:=by omega
   refine⟨by rw[h0];exact h4,fun e=>by rw[h0];exact h5 e,fun k hk=>?_⟩;rw[h0];have e:=hnew (1+k);rw[<-abI,hlen]at e;rw[e]
   have e2:Pm.rm ((f:Int)::cN f m.lead (Pm.ap (Pm.cx m S p i)) (Pm.ap (Pm.ia m S p i)) (Pm.rowLen p.C m.bits) (Pm.rowLen p.C m.bits)) (1+k)=(Pm.ap (cN f m.lead (Pm.ap (Pm.cx m S p i)) (Pm.ap (Pm.ia m S p i)) (Pm.rowLen p.C m.bits) (Pm.rowLen p.C m.bits)) k).toNat:=by
    unfold Pm.rm Pm.ap;rw[Nat.add_comm 1 k,List.getD_cons_succ]
   rw[e2,jQ _ _ _ _ _ _ _ hk,aaf hk];have:=Pm.qV f m.lead (Pm.ap (Pm.cx m S p i)) (Pm.ap (Pm.ia m S p i)) k;omega
structure qZ (u w0:World) (E bN bD P0 G N cap W H n:Nat) (kd:Int) (dp:Nat) (ps:Bool) (pv dv:Value) (p:Pm.Ps) (S:List Int) (K:Nat->Prop):Prop where
 env:mU u E bN bD P0 G N cap W H n kd dp ps pv dv p
 ints:gy u G S
 held:∀j,K j->u.heap[j]?=w0.heap[j]?
theorem qZ.kp {u u' w0:World}{Q:Nat->Prop}{E bN bD P0 G N cap W H n:Nat}{kd:Int}{dp:Nat}{ps:Bool}{pv dv:Value}{p:Pm.Ps}{S:List Int}{K:Nat->Prop}(h:qZ u w0 E bN bD P0 G N cap W H n kd dp ps pv dv p S K)(hlow:∀j,K j->j<u.heap.size)(k:Kp Q u u')(hk:∀j,(j=E\/j=bN\/j=bD\/j=P0)\/j=G\/K j->¬Q j):qZ u' w0 E bN bD P0 G N cap W H n kd dp ps pv dv p S K :=
 ⟨h.env.kp k (fun j hj=>hk j (.inl hj)),h.ints.kp k (hk G (.inr (.inl rfl))),fun j hj=>(k.block j (hlow j hj) (hk j (.inr (.inr hj)))).trans (h.held j hj)⟩
theorem qZ.below {u u' w0:World}{E bN bD P0 G N cap W H n:Nat}{kd:Int}{dp:Nat}{ps:Bool}{pv dv:Value}{p:Pm.Ps}{S:List Int}{K:Nat->Prop}(h:qZ u w0 E bN bD P0 G N cap W H n kd dp ps pv dv p S K)(hlow:∀j,K j->j<u.heap.size)(k:Below u.heap.size u u'):qZ u' w0 E bN bD P0 G N cap W H n kd dp ps pv dv p S K :=
 h.kp hlow (Kp.aJ (S:=fun _=>False) k) (fun _ _ e=>e)
structure kN (w:World) (E bN bD G B X:Nat) (v0:Value) (K:Nat->Prop):Prop where
 lt:∀j,(j=E\/j=bN\/j=bD)\/j=G\/K j->j<w.heap.size/\j≠X/\v0.ownBlock≠some j
 low:B<=w.heap.size
def xX (w:World)(m:Pm.cD)(S:List Int)(p:Pm.Ps)(o fl B X:Nat)(l0:List Int)(v0:Value)(e:Ending)(w':World):Prop :=
 e=.returned (.tuple #[])/\∃l v,fO w' B X l v/\l.length=o+Pm.dm m p/\(∀y∈l,0<=y/\y<256)/\l0 <+: l/\(∀i,i<p.R->Pm.mQ m S p (Pm.rm l) o fl i)/\(v.ownBlock=v0.ownBlock\/∃b,v.ownBlock=some b/\w.heap.size<=b)/\Kp (Rw X v0) w w'
theorem Oi (W H n dp:Nat)(kd:Int)(ps:Bool)(pv:Value)(p:Pm.Ps)(E bN bD G N cap o fl B X F:Nat)(aN:Array Value)(K:Nat->Prop)(S l0:List Int)(v0:Value)(w w0:World)(hm:w.heap[E]?=some (.cells (aH W H kd dp ps pv (.slice (some ⟨G,0,none⟩) N cap)) 30 (0,0)))(hbN:bM w bN (.int .i64 (n:Nat)) 3)(hbD:bM w bD (.func (.func F) #[] aN) 128)(hS:gy w G S)(hK:∀j,K j->w.heap[j]?=w0.heap[j]?)(hD:ul w0 B X fl (Pm.cD.lead ⟨W,H,n,dp⟩) F aN K)(hraw:fO w B X l0 v0)(hl0:l0.length=o)(hby:∀y∈l0,0<=y/\y<256)(hap:kN w E bN bD G B X v0 K)(hf:Pm.Fits ⟨W,H,n,dp⟩ S)(hN:S.length=N)(hcap:N<=cap)(hin:p.In W H)(hol:o+Pm.dm ⟨W,H,n,dp⟩ p<=5000000)(hch:Pm.chan kd dp=(n:Int))(hn:1<=n/\n<=4)(hW:W<=5000)(hH:H<=5000)(hps:p.c0<=8/\p.r0<=8/\p.rs<=8)(hcs:1<=p.cs/\p.cs<=8)(hC:1<=p.C/\p.C<=5000)(hR:p.R<=5000): Calls Tryz.prog 147 #[TV p,.pointer (some ⟨E,0,none⟩),.pointer (some ⟨bN,0,none⟩),.pointer (some ⟨bD,0,none⟩)] w fun e w'=>xX w ⟨W,H,n,dp⟩ S p o fl B X l0 v0 e w':=by
 have hdp:=nD kd dp (by rw[hch];omega);have hcall:=hD.call;have hrb:=fun u=>zL W H kd dp ps pv (.slice (some ⟨G,0,none⟩) N cap) (p.c0:Nat) (p.r0:Nat) (p.cs:Nat) (p.rs:Nat) (p.C:Nat) (p.R:Nat) u (by omega) (by rw[hch];omega)
 have Qc:(((p.C:Nat):Int)*(Pm.chan kd dp*(dp:Int))+7)/8=((Pm.rowLen p.C (n*dp):Nat):Int):=by
  rw[hch];unfold Pm.rowLen;push_cast;rfl
 rw[Qc]at hrb;have UE:dp<=16/\1<=dp:=by rcases hdp with h|h|h|h|h<;>omega
 have hsz:Pm.rowLen p.C (n*dp)<=1000000/\0<Pm.rowLen p.C (n*dp):=by
  unfold Pm.rowLen;have h1:n*dp<=4*16:=aaA hn.2 UE.1;have h2:p.C*(n*dp)<=5000*64:=aaA hC.2 h1;have h3:1*1<=n*dp:=aaA hn.1 UE.2;have h4:1*1<=p.C*(n*dp):=aaA hC.1 (by omega);omega
 have HRL:Hid (∃size,size=Pm.rowLen p.C (n*dp)):=⟨_,rfl⟩
 obtain⟨size,hsize⟩:=HRL.out;rw[<-hsize]at hrb hsz;have yq:Hid (size=Pm.rowLen p.C (n*dp)):=hsize;obtain⟨Z,hZ⟩:∃Z:List Value,Z=List.replicate size (.int .u8 0):=⟨_,rfl⟩
 have hmk:=fun u=>BW size (by omega) Z hZ u;have HZ:Hid (Z=dC (List.replicate size 0)):=by show _=_;rw[hZ];simp[dC]
 have k0:=ag w (.cells #[.int .i64 (p.c0:Nat),.int .i64 (p.r0:Nat),.int .i64 (p.cs:Nat),.int .i64 (p.rs:Nat),.int .i64 (p.C:Nat),.int .i64 (p.R:Nat)] 122);have q0:=ak w (.cells #[.int .i64 (p.c0:Nat),.int .i64 (p.r0:Nat),.int .i64 (p.cs:Nat),.int .i64 (p.rs:Nat),.int .i64 (p.C:Nat),.int .i64 (p.R:Nat)] 122);have z0:=aI ((k0.block _ (aab hm)).trans hm);have V6:Hid (_/\_/\_/\_/\_/\_/\_):=⟨hm,hbN,hbD,hS,hK,hraw,q0⟩
 have zm:Hid (_/\_/\_/\_/\_/\_):=⟨hin,hol,hN,hf,hl0,hby⟩
 have HD:Hid (_):=hD;have UF:Hid (_):=hap;clear hsize hZ HRL hm hbN hbD hS hK hraw q0 hin hol hN Qc hf hl0 hby hD hap
 go_enter Tryz.func147,Tryz.ntmps147
 go_wp2_with fail;refine (hrb _).mono ?_;rintro e w1 ⟨rfl,b1⟩;go_wp2_with fail;have Jz:Below w.heap.size w w1:=k0.trans (b1.mono (by simp));have q1:=(b1.block _ (by simp)).trans V6.out.2.2.2.2.2.2;have hlt1:=aab q1;have N8:Hid (_/\_):=⟨Jz,q1⟩
 clear Jz q1 b1 k0 z0 hrb;apply PX (F:=fun A B u=>Below w.heap.size w u/\u.heap[w.heap.size]?=some (.cells #[.int .i64 (p.c0:Nat),.int .i64 (p.r0:Nat),.int .i64 (p.cs:Nat),.int .i64 (p.rs:Nat),.int .i64 (p.C:Nat),.int .i64 (p.R:Nat)] 122 (0,0))/\dA u A (List.replicate size 0)/\dA u B (List.replicate size 0)/\w.heap.size<A/\w.heap.size<B/\A≠B)
 ·intro rest;obtain⟨kk,y0,y1⟩:=bO w1 (.cells Z.toArray 5) (.cells Z.toArray 5);have Ri:Hid (Below w1.heap.size w1 _/\_/\_):=⟨kk,y0,y1⟩
  clear kk y0 y1
  go_region
  ·have hF:Below w.heap.size w ((w1.alloc (.cells Z.toArray 5)).alloc (.cells Z.toArray 5)).drew/\((w1.alloc (.cells Z.toArray 5)).alloc (.cells Z.toArray 5)).drew.heap[w.heap.size]?=some (.cells #[.int .i64 (p.c0:Nat),.int .i64 (p.r0:Nat),.int .i64 (p.cs:Nat),.int .i64 (p.rs:Nat),.int .i64 (p.C:Nat),.int .i64 (p.R:Nat)] 122 (0,0))/\dA ((w1.alloc (.cells Z.toArray 5)).alloc (.cells Z.toArray 5)).drew w1.heap.size (List.replicate size 0)/\dA ((w1.alloc (.cells Z.toArray 5)).alloc (.cells Z.toArray 5)).drew (w1.heap.size+1) (List.replicate size 0)/\w.heap.size<w1.heap.size/\w.heap.size<w1.heap.size+1/\w1.heap.size≠w1.heap.size+1:=by
    obtain⟨kk,y0,y1⟩:=Ri.out;rw[HZ.out]at y0 y1 kk ⊢;exact⟨(N8.out.1.trans (kk.mono (by omega))).drew,(kk.block _ hlt1).trans N8.out.2,y0,y1,by omega,by omega,by omega⟩
   revert hF;generalize World.drew _=u;generalize w1.heap.size+1=A2;generalize w1.heap.size=A1;intro hF;have r:=rest A1 A2 u hF;exact r
  ·have hF:Below w.heap.size w ((w1.alloc (.cells Z.toArray 5)).alloc (.cells Z.toArray 5)).drew/\((w1.alloc (.cells Z.toArray 5)).alloc (.cells Z.toArray 5)).drew.heap[w.heap.size]?=some (.cells #[.int .i64 (p.c0:Nat),.int .i64 (p.r0:Nat),.int .i64 (p.cs:Nat),.int .i64 (p.rs:Nat),.int .i64 (p.C:Nat),.int .i64 (p.R:Nat)] 122 (0,0))/\dA ((w1.alloc (.cells Z.toArray 5)).alloc (.cells Z.toArray 5)).drew (w1.heap.size+1) (List.replicate size 0)/\dA ((w1.alloc (.cells Z.toArray 5)).alloc (.cells Z.toArray 5)).drew w1.heap.size (List.replicate size 0)/\w.heap.size<w1.heap.size+1/\w.heap.size<w1.heap.size/\w1.heap.size+1≠w1.heap.size:=by
    obtain⟨kk,y0,y1⟩:=Ri.out;rw[HZ.out]at y0 y1 kk ⊢;exact⟨(N8.out.1.trans (kk.mono (by omega))).drew,(kk.block _ hlt1).trans N8.out.2,y1,y0,by omega,by omega,by omega⟩
   revert hF;generalize World.drew _=u;generalize w1.heap.size+1=A2;generalize w1.heap.size=A1;intro hF;have r:=rest A2 A1 u hF;exact r
 ·intro A1 A2 u hu;clear N8 hlt1 hmk HZ;obtain⟨ku,pu,u1,u2,l1,l2,l12⟩:=hu;obtain⟨x0,x1,x2,x3,x4,x5,xl⟩:=DS pu;have HKU:Hid (_/\_/\_/\_):=⟨ku,pu,u1,u2⟩
  clear ku pu u1 u2;go_wp2
  go_loopw [6,7,19] (fun rv av ix wr=>∃(j ra aa:Nat) (l:List Int) (v:Value),j<=p.R/\ix=.int .i64 j/\rv=.slice (some ⟨ra,0,none⟩) size size/\av=.slice (some ⟨aa,0,none⟩) size size/\Hid (Oh w wr ⟨W,H,n,dp⟩ S p o fl B X ra aa size j l0 l v0 v)/\Hid (qZ wr w0 E bN bD w.heap.size G N cap W H n kd dp ps pv (.func (.func F) #[] aN) p S K)) (fun _ _ ix _=>p.R-(intOf ix).toNat)
  case atStart =>
   obtain⟨ku,pu,u1,u2⟩:=HKU.out;obtain⟨hm,hbN,hbD,hS,hK,hraw,_⟩:=V6.out;obtain⟨hin,hol,hN,hf,hl0,hby⟩:=zm.out;refine⟨0,A1,A2,l0,v0,aaj _,rfl,rfl,rfl,?_,?_⟩
   ·refine⟨hraw.below ku,by rw[abz,abQ];exact hl0,hby,List.prefix_rfl,fun i hi=>absurd hi (abY _),?_,⟨_,u1,by simp⟩,Kp.aJ ku,.inl rfl,⟨fun e=>?_,fun e=>?_,fun e=>?_⟩,⟨l1,l2,l12⟩⟩
    ·show dA u A2 (List.replicate (Pm.rowLen p.C (n*dp)) 0);rw[<-yq.out];exact u2
    ·have:=(hraw.lt _ e).2;omega
    ·have:=(hraw.lt _ e).2;omega
    ·have:=(hraw.lt _ e).2;omega
   ·exact⟨⟨(ku.block E (aab hm)).trans hm,(ku.block bN (aab hbN)).trans hbN,(ku.block bD (aab hbD)).trans hbD,pu⟩,hS.below ku,fun j hj=>(ku.block j (UF.out.lt j (.inr (.inr hj))).1).trans (hK j hj)⟩
  case round =>
   obtain⟨j,ra,aa,l,v,hj,rfl,rfl,rfl,HI,HW⟩:=hrel;by_cases hlt:j<p.R
   ·have hlt':(j:Int)<(p.R:Int):=by omega
    obtain⟨hin,hol,hN,hf,hl0,hby⟩:=zm.out;obtain⟨rl,hBr,hrl⟩:=HI.out.ro;obtain⟨f1,f2,f3⟩:=HI.out.fresh;obtain⟨n1,n2,n3⟩:=HI.out.ne;have hkz:=HI.out.kp.size;have lK:∀i,K i->i<wr.heap.size:=fun i hi=>aar (UF.out.lt i (.inr (.inr hi))).1 hkz;have lA:=UF.out.lt;have lB:=UF.out.low
    have qo:∀i,(i=E\/i=bN\/i=bD\/i=w.heap.size)\/i=G\/K i->i<=w.heap.size/\i≠X/\v.ownBlock≠some i:=fun i hi=>by
     have lX:=aab V6.out.2.2.2.2.2.1.box;by_cases e:i=w.heap.size
     ·subst e;exact⟨aad _,by omega,n3⟩
     ·have:=lA i (by rcases hi with (h|h|h|h)|h;exact .inl (.inl h);exact .inl (.inr (.inl h));exact .inl (.inr (.inr h));exact absurd h e;exact .inr h);refine⟨by omega,this.2.1,?_⟩;rcases HI.out.own with h|⟨b,h,hb⟩
      ·rw[h];exact this.2.2
      ·rw[h];intro e2;have:=aay e2;omega
    obtain⟨v1,hcl,hB1,pD⟩:=FW (c:=size) hBr hrl hsz.2;have W1:=HW.out.kp lK pD (fun i hi=>by have:=(qo i hi).1;omega);have lX:=aab HI.out.raw.box;have lXw:=aab V6.out.2.2.2.2.2.1.box
    have UG:=HI.out.raw.kept (w':=v1) (fun i hi=>pD.block i (by rcases hi with rfl|hi;exact lX;exact (HI.out.raw.lt i hi).2) (fun e=>by
     rcases hi with rfl|hi
     ·omega
     ·rw[e]at hi;exact n1 hi))
    have YL:dA v1 aa (Pm.cx ⟨W,H,n,dp⟩ S p j):=(pD.block aa (aab HI.out.ab) (by omega)).trans HI.out.ab;have hz1:=pD.size;have lra:=aab hB1;have laa:=aab YL;have hfs:=fun u=>xQ W H n j kd dp ps pv (.slice (some ⟨G,0,none⟩) N cap) p u hch hW (by omega) hps hn.2
    have hidx:∀k,k<p.C*n->Pm.iz p W n j+Pm.KP n p.cs k<N:=fun k hk=>by
     rw[<-Pm.DC,<-hN,hf.len];exact Pm.Ps.BM hin hlt hk
    have Ru:Pm.iz p W n j<N:=by
     have:=hidx 0 (Nat.mul_pos hC.1 hn.1);omega
    have hNb:N<=100000000:=by
     rw[<-hN,hf.len];have:W*H*n<=5000*5000*4:=aaA (aaA hW hH) hn.2;exact aaz this (by omega)
    have HV:Hid (∀k,k<p.C*n->Pm.xU S p W n j k=Pm.ap S (Pm.iz p W n j+Pm.KP n p.cs k)):=fun k _=>by unfold Pm.xU;rw[Pm.DC]
    obtain⟨Fs,hFs⟩:∃Fs,Fs=Pm.iz p W n j:=⟨_,rfl⟩
    rw[<-hFs]at hfs hidx Ru HV;have HIX:Hid (_):=hidx;have HX:Hid (_/\_/\_/\_/\_/\_):=⟨W1,UG,hB1,YL,pD,qo⟩
    have pH:Hid (_):=HI.out;have hFN:(Fs:Int)<=(N:Int):=by omega
    have aev:N≠Fs:=by omega
    have eFN:(N:Int)-(Fs:Int)=((N-Fs:Nat):Int):=by omega
    clear W1 UG hB1 YL pD qo hBr hrl hidx hFs HI HW hin hol hf hl0 hby lA lB;go_wp2_with fail;have hS1:mU v1.drew E bN bD w.heap.size G N cap W H n kd dp ps pv (.func (.func F) #[] aN) p:=HX.out.1.env.kept (fun _ _=>rfl);refine aE (fun u=>mU u E bN bD w.heap.size G N cap W H n kd dp ps pv (.func (.func F) #[] aN) p) 99 ?_;refine am [0,1,2,3,4] ?_
    iterate 5 (refine ff (v:=?_) (T:=?_) ?ht ?hy hS1 ?_;(case hy=>intro w hSw;have KT := Eb hSw; go_simp;try with_reducible rfl);case ht=>go_simp;try with_reducible rfl)
    refine aj ?_;refine ai 5 fun Kc hKc=>?_;go_simp;refine (hfs _).mono ?_;rintro e v3 ⟨rfl,b3⟩;have S3:=hS1.below b3;refine hKc _ _ (fun _=>S3) ?_;clear hKc Kc;have hFc:(Fs:Int)<=(cap:Int):=by omega
    refine am [6,7] ?_
    iterate 2 refine au S3 ?_
    refine aj ?_;refine ar ?_;have z1:v1.drew.heap.size=v1.heap.size:=rfl;have AP:Below v1.heap.size v1 v3:=((aak _ v1).drew).trans (b3.mono (by rw[z1];exact aad _));have lK1:∀i,K i->i<v1.heap.size:=fun i hi=>aar (lK i hi) hz1;have W3:=HX.out.1.below lK1 AP;have z3:=AP.size;have lK3:∀i,K i->i<v3.heap.size:=fun i hi=>aar (lK1 i hi) z3;have um:=HX.out.2.1.below AP;have JU:dA v3 ra (List.replicate size 0):=(AP.block ra lra).trans HX.out.2.2.1;have UH:dA v3 aa (Pm.cx ⟨W,H,n,dp⟩ S p j):=(AP.block aa laa).trans HX.out.2.2.2.1;have hpk:=MT ra size dp v3.drew;have JV:Hid (_/\_/\_/\_/\_):=⟨W3,um,JU,UH,AP⟩
    clear W3 um JU UH AP b3 S3 hS1 hfs;go_wp2_with fail;have S4:mU v3.drew E bN bD w.heap.size G N cap W H n kd dp ps pv (.func (.func F) #[] aN) p:=JV.out.1.env.kept (fun _ _=>rfl);refine aE (fun u=>mU u E bN bD w.heap.size G N cap W H n kd dp ps pv (.func (.func F) #[] aN) p) 99 ?_;refine am [0,1,2,3,4,5,6,7,8] ?_
    iterate 9 (refine ff (v:=?_) (T:=?_) ?ht ?hy S4 ?_;(case hy=>intro w hSw;have KT := Eb hSw; go_simp;try with_reducible rfl);case ht=>go_simp;try with_reducible rfl)
    refine aj ?_;refine ai 9 fun Kc hKc=>?_;go_simp;refine hpk.mono ?_;rintro e v5 ⟨rfl,V7,b5⟩;obtain⟨W3,um,JU,UH,AP⟩:=JV.out;have z3d:v3.drew.heap.size=v3.heap.size:=rfl;rw[z3d]at V7;have FX:Below v3.heap.size v3 v5:=((aak _ v3).drew).trans (b5.mono (by rw[z3d];exact aad _));have W5:=W3.below lK3 FX;have z5:=FX.size;have JW:=um.below FX;have UI:dA v5 ra (List.replicate size 0):=(FX.block ra (by omega)).trans JU;have UJ:dA v5 aa (Pm.cx ⟨W,H,n,dp⟩ S p j):=(FX.block aa (by omega)).trans UH;have qo:=HX.out.2.2.2.2.2;have lG:=(qo G (.inr (.inl rfl))).1;have lrb:=aab V7.f;have hpi:=MQ (Pm.xU S p W n j) S n p.cs p.C dp size Fs (N-Fs) (cap-Fs) G (v3.heap.size+2) (v3.heap.size+1) v3.heap.size ra v5 V7 ⟨⟨by omega,by omega,by omega,by omega,by omega⟩⟩ UI W5.ints ⟨by omega,by omega⟩ (fun k hk=>⟨HV.out k hk,by rw[hN];exact HIX.out k hk,by have:=HIX.out k hk;omega⟩) (fun k hk=>⟨zm.out.2.2.2.1.get _,by rw[yq.out];exact Pm.xJ p.C n dp k hdp hk⟩) hdp hC.2 hn hcs (by omega) hsz.1;have UK:Hid (_/\_/\_/\_):=⟨W5,JW,UJ,FX⟩
    have S5:=W5.env;have lK5:∀i,K i->i<v5.heap.size:=fun i hi=>aar (lK3 i hi) z5;clear W3 um JU UH AP W5 JW UI UJ b5 FX V7 hpk qo;refine hKc _ _ (fun _=>S5) ?_;clear hKc Kc;refine ai 10 fun Kc hKc=>?_;go_simp;refine hpi.mono ?_;rintro e v6 ⟨rfl,hrow,iV⟩;obtain⟨W5,JW,UJ,FX⟩:=UK.out;have qo:=HX.out.2.2.2.2.2;have W6:=W5.kp lK5 iV (fun i hi=>by have:=(qo i hi).1;omega)
    have UL:=JW.kept (w':=v6) (fun i hi=>iV.block i (by rcases hi with rfl|hi;omega;have:=(HX.out.2.1.lt i hi).2;omega) (fun e=>by
     rcases hi with rfl|hi
     ·omega
     ·rcases e with e|e
      ·rw[e]at hi;exact n1 hi
      ·have:=(HX.out.2.1.lt i hi).2;omega))
    have RE:dA v6 aa (Pm.cx ⟨W,H,n,dp⟩ S p j):=(iV.block aa (by omega) (by omega)).trans UJ;have z6:=iV.size;have lK6:∀i,K i->i<v6.heap.size:=fun i hi=>aar (lK5 i hi) z6;have a9:Pm.rowLen p.C (Pm.cD.bits ⟨W,H,n,dp⟩)=size:=yq.out.symm;have Oj:Pm.bg (Pm.xU S p W n j) dp size (p.C*n)=Pm.ia ⟨W,H,n,dp⟩ S p j:=by unfold Pm.ia;rw[a9]
    rw[Oj]at hrow;have hfit:=zm.out.2.2.2.1;have gR:∀i,0<=Pm.ap (Pm.ia ⟨W,H,n,dp⟩ S p j) i/\Pm.ap (Pm.ia ⟨W,H,n,dp⟩ S p j) i<256:=Pm.tC (Pm.uf hfit p j);have gA:∀i,0<=Pm.ap (Pm.cx ⟨W,H,n,dp⟩ S p j) i/\Pm.ap (Pm.cx ⟨W,H,n,dp⟩ S p j) i<256:=Pm.tC (Pm.Ce hfit p j)
    have hll:l.length+size<=99999999:=by
     have h1:=pH.out.len;have h2:=zm.out.2.1;have h3:Pm.dm ⟨W,H,n,dp⟩ p=p.R*(1+size):=by unfold Pm.dm;rw[a9]
     have h4:j*(1+size)<=p.R*(1+size):=aaU _ hj;omega
    have UM:V5 v6 B X size ra aa (Pm.ia ⟨W,H,n,dp⟩ S p j) (Pm.cx ⟨W,H,n,dp⟩ S p j) l v:=⟨UL,by have:=UF.out.low;omega,hrow,RE,by rw[Pm.mP];exact a9,by rw[Pm.ud];exact a9,gR,gA,⟨by omega,by omega⟩,⟨n1,n2⟩,hll⟩
    have hdo:=HD.out.does v6 size ra aa _ _ l v W6.held (fun i hi=>(qo i (.inr (.inr hi))).2.2) UM hsz.1;have S6:=W6.env;have d6:=S6.d.cell;have ww:Hid (_/\_/\_/\_/\_):=⟨W6,hrow,RE,iV,FX⟩
    clear W5 JW UJ FX W6 UL RE hrow iV UM gR gA qo hpi UK Oj;refine hKc _ _ (fun _=>S6) ?_;clear hKc Kc;refine ar ?_;clear S6 S5 S4;go_wp2_with fail;refine hdo.mono ?_;rintro e v7 ⟨rfl,v',l',hwr,UN,Qu,AQ⟩;obtain⟨W6,hrow,RE,iV,FX⟩:=ww.out;have qo:=HX.out.2.2.2.2.2;have AP:=JV.out.2.2.2.2;have pD:=HX.out.2.2.2.2.1;have UO:Wrote fl (Pm.cD.lead ⟨W,H,n,dp⟩) (Pm.rowLen p.C (Pm.cD.bits ⟨W,H,n,dp⟩)) (Pm.cx ⟨W,H,n,dp⟩ S p j) (Pm.ia ⟨W,H,n,dp⟩ S p j) l l':=by rw[a9];exact hwr
    obtain⟨g1,g2,g3,g4⟩:=MU (by rw[a9];exact pH.out.len) pH.out.Ea UO pH.out.rows;rw[a9]at g1;have z7:=AQ.size
    have hKp:Kp (Rw X v0) w v7:=by
     refine ((((pH.out.kp.then pD (fun i hi e=>?_)).then (Kp.aJ (S:=fun _=>False) AP) (fun i hi e=>e.elim)).then (Kp.aJ (S:=fun _=>False) FX) (fun i hi e=>e.elim)).then iV (fun i hi e=>?_)).then AQ (fun i hi e=>?_)
     ·omega
     ·omega
     ·rcases e with e|e
      ·exact .inl e
      ·rcases pH.out.own with h|⟨b,h,hb⟩
       ·exact .inr (by rw[<-h];exact e)
       ·rw[h]at e;have:=aay e;omega
    have hown:v'.ownBlock=v0.ownBlock\/∃b,v'.ownBlock=some b/\w.heap.size<=b:=by
     rcases Qu with h|⟨b,h,hb⟩
     ·rw[h];exact pH.out.own
     ·exact .inr ⟨b,h,by omega⟩
    have hne:v'.ownBlock≠some aa/\v'.ownBlock≠some ra/\v'.ownBlock≠some w.heap.size:=by
     rcases Qu with h|⟨b,h,hb⟩
     ·rw[h];exact⟨n2,n1,n3⟩
     ·rw[h];refine⟨fun e=>?_,fun e=>?_,fun e=>?_⟩<;>(have:=aay e;omega)
    have HF:Hid (Oh w v7 ⟨W,H,n,dp⟩ S p o fl B X aa ra size (j+1) l0 l' v0 v') :=
     ⟨UN,g1,g2,pH.out.pre.trans g3,g4,(AQ.block ra (by omega) (fun e=>by rcases e with e|e;omega;exact n1 e)).trans hrow,⟨_,(AQ.block aa (by omega) (fun e=>by rcases e with e|e;omega;exact n2 e)).trans RE,by rw[Pm.ud];exact a9⟩,hKp,hown,hne,⟨f2,f1,fun e=>f3 e.symm⟩⟩
    have UQ:Hid (qZ v7 w0 E bN bD w.heap.size G N cap W H n kd dp ps pv (.func (.func F) #[] aN) p S K):=W6.kp lK6 AQ (fun i hi e=>by
     have:=qo i hi;rcases e with e|e
     ·exact this.2.1 e
     ·exact this.2.2 e)
    clear W6 hrow RE iV FX qo AP pD hwr UO g1 g2 g3 g4 hKp hown hne UN Qu AQ hdo HX JV ww pH;go_wp2
    go_roundw
    case rel=>exact⟨j+1,aa,ra,l',v',by omega,by go_num,rfl,rfl,HF,UQ⟩
    case measure=>simp[intOf];omega
   ·have Ub:j=p.R:=by omega
    subst Ub;have HDn:Hid (_):=HI.out;clear HI;go_wp2
    go_end0
    refine⟨rfl,l,v,HDn.out.raw,?_,HDn.out.Ea,HDn.out.pre,HDn.out.rows,HDn.out.own,HDn.out.kp⟩;rw[HDn.out.len,yq.out];rfl
structure xY (w w0:World) (E bN bD G N cap W H n:Nat) (kd:Int) (dp:Nat) (ps:Bool) (pv:Value) (F:Nat) (aN:Array Value) (S:List Int) (K:Nat->Prop):Prop where
 m:w.heap[E]?=some (.cells (aH W H kd dp ps pv (.slice (some ⟨G,0,none⟩) N cap)) 30 (0,0))
 n:bM w bN (.int .i64 (n:Nat)) 3
 d:bM w bD (.func (.func F) #[] aN) 128
 s:gy w G S
 k:∀j,K j->w.heap[j]?=w0.heap[j]?
theorem xY.kp {w w' w0:World}{E bN bD G N cap W H n B X:Nat}{kd:Int}{dp:Nat}{ps:Bool}{pv:Value}{F:Nat}{aN:Array Value}{S:List Int}{K:Nat->Prop}{v:Value}(h:xY w w0 E bN bD G N cap W H n kd dp ps pv F aN S K)(ha:kN w E bN bD G B X v K)(k:Kp (Rw X v) w w'):xY w' w0 E bN bD G N cap W H n kd dp ps pv F aN S K:=by
 have key:∀j,(j=E\/j=bN\/j=bD)\/j=G\/K j->¬Rw X v j:=fun j hj e=>by
  have:=ha.lt j hj;rcases e with e|e
  ·exact this.2.1 e
  ·exact this.2.2 e
 exact⟨(k.block E (aab h.m) (key E (.inl (.inl rfl)))).trans h.m,(k.block bN (aab h.n) (key bN (.inl (.inr (.inl rfl))))).trans h.n,(k.block bD (aab h.d) (key bD (.inl (.inr (.inr rfl))))).trans h.d,h.s.kp k (key G (.inr (.inl rfl))),fun j hj=>(k.block j (ha.lt j (.inr (.inr hj))).1 (key j (.inr (.inr hj)))).trans (h.k j hj)⟩
theorem xY.below {w w' w0:World}{E bN bD G N cap W H n B X:Nat}{kd:Int}{dp:Nat}{ps:Bool}{pv:Value}{F:Nat}{aN:Array Value}{S:List Int}{K:Nat->Prop}{v:Value}(h:xY w w0 E bN bD G N cap W H n kd dp ps pv F aN S K)(ha:kN w E bN bD G B X v K)(k:Below w.heap.size w w'):xY w' w0 E bN bD G N cap W H n kd dp ps pv F aN S K:=h.kp ha (Kp.aJ k)
theorem kN.next {w w':World}{E bN bD G B X:Nat}{v v':Value}{K:Nat->Prop}(h:kN w E bN bD G B X v K)(hz:w.heap.size<=w'.heap.size)(ho:v'.ownBlock=v.ownBlock\/∃b,v'.ownBlock=some b/\w.heap.size<=b):kN w' E bN bD G B X v' K:=by
 refine⟨fun j hj=>?_,aaz h.low hz⟩;obtain⟨a1,a2,a3⟩:=h.lt j hj;refine⟨aar a1 hz,a2,?_⟩;rcases ho with e|⟨b,e,hb⟩
 ·rw[e];exact a3
 ·rw[e];intro e2;have:=aay e2;omega
theorem MV {l l':List Int}(h:l <+: l'){i:Nat}(hi:i<l.length):Pm.rm l' i=Pm.rm l i:=by
 obtain⟨r,rfl⟩:=h;unfold Pm.rm Pm.ap;rw[aaa,aaa,aaS hi]
theorem JX {m:Pm.cD}{S l l':List Int}{fl k:Nat}(hk:k<7)(h:Pm.mR m S (Pm.rm l) fl k)(hp:l <+: l')(hl:Pm.dK m (k+1)<=l.length):Pm.mR m S (Pm.rm l') fl k:=fun c1 c2 j hj=>by
 refine (h c1 c2 j hj).congr (fun i hi=>MV hp ?_);have hn:=Pm.mD m k hk;rw[aaf ⟨c1,c2⟩]at hn;unfold Pm.dm at hn;have:(j+1)*(1+Pm.rowLen (Pm.cu m k).C m.bits)<=(Pm.cu m k).R*(1+Pm.rowLen (Pm.cu m k).C m.bits):=aaU _ hj;omega
def kO (w:World)(m:Pm.cD)(S:List Int)(on:Bool)(fl B X:Nat)(v0:Value)(e:Ending)(w':World):Prop :=
 e=.returned (.tuple #[])/\∃l v,fO w' B X l v/\(l.length:Int)=Pm.raw m.W m.H m.bits on/\(∀y∈l,0<=y/\y<256)/\Pm.Written m S (Pm.rm l) fl on/\(v.ownBlock=v0.ownBlock\/∃b,v.ownBlock=some b/\w.heap.size<=b)/\Kp (Rw X v0) w w'
theorem uo (args:Array Value)(w:World):(callFunc 147 args).run Tryz.prog w=.ok (.enter 147 args) w:=by kernel_rfl
abbrev Cm (E bN bD:Nat):Value:=.func (.func 147) #[] #[.pointer (some ⟨E,0,none⟩),.pointer (some ⟨bN,0,none⟩),.pointer (some ⟨bD,0,none⟩)]
theorem UR (W H n dp:Nat)(kd:Int)(pv:Value)(E bN bD G N cap fl B X F:Nat)(aN:Array Value)(K:Nat->Prop)(S:List Int)(v0:Value)(w w0:World)(hE:xY w w0 E bN bD G N cap W H n kd dp false pv F aN S K)(hD:ul w0 B X fl (Pm.cD.lead ⟨W,H,n,dp⟩) F aN K)(hraw:fO w B X [] v0)(hap:kN w E bN bD G B X v0 K)(hf:Pm.Fits ⟨W,H,n,dp⟩ S)(hN:S.length=N)(hcap:N<=cap)(hol:Pm.raw W H (Pm.cD.bits ⟨W,H,n,dp⟩:Nat) false<=5000000)(hch:Pm.chan kd dp=(n:Int))(hn:1<=n/\n<=4)(hW:1<=W/\W<=5000)(hH:1<=H/\H<=5000): Calls Tryz.prog 92 #[img W H kd dp false pv (.slice (some ⟨G,0,none⟩) N cap),Cm E bN bD] w fun e w'=>kO w ⟨W,H,n,dp⟩ S false fl B X v0 e w':=by
 have hcall:=uo;have hk0:=ag w (.cells #[.int .i64 (W:Nat),.int .i64 (H:Nat),.int .i64 kd,.int .i64 (dp:Nat),.bool false,pv,.slice (some ⟨G,0,none⟩) N cap] 30);have hrn:=Pm.rF ⟨W,H,n,dp⟩ false;simp only[abl,acA]at hrn;have hE1:=hE.below hap hk0;have US:=hap.next (v':=v0) hk0.size (.inl rfl);have hp:=Oi W H n dp kd false pv (Pm.jf ⟨W,H,n,dp⟩) E bN bD G N cap 0 fl B X F aN K S [] v0 _ w0 hE1.m hE1.n hE1.d hE1.s hE1.k hD (hraw.below hk0) rfl (fun y hy=>absurd hy (abC)) US hf hN hcap (Pm.tG _) (by rw[hrn]at hol;omega) hch hn hW.2 hH.2 ⟨by show 0<=8;omega,by show 0<=8;omega,by show 1<=8;omega⟩ ⟨by show 1<=1;omega,by show 1<=8;omega⟩ hW hH.2
 have HO:Hid (∀e w',xX (w.alloc (.cells #[.int .i64 (W:Nat),.int .i64 (H:Nat),.int .i64 kd,.int .i64 (dp:Nat),.bool false,pv,.slice (some ⟨G,0,none⟩) N cap] 30)) ⟨W,H,n,dp⟩ S (Pm.jf ⟨W,H,n,dp⟩) 0 fl B X [] v0 e w'->kO w ⟨W,H,n,dp⟩ S false fl B X v0 e w'):=fun e w' ⟨he,l,v,h1,h2,h3,_,h4,h5,h6⟩=>by
  refine⟨he,l,v,h1,?_,h3,?_,?_,(Kp.aJ (S:=Rw X v0) hk0).trans h6⟩
  ·rw[h2,aaF];exact hrn.symm
  ·unfold Pm.Written;rw[aae (by decide)];exact h4
  ·rcases h5 with h5|⟨b,h5,hb⟩
   ·exact .inl h5
   ·exact .inr ⟨b,h5,aaz hk0.size hb⟩
 clear hE hraw hk0 hrn hol hE1 US hap hf hN hcap hD
 go_enter Tryz.func92,Tryz.ntmps92
 go_wp2_with fail;refine hp.mono ?_;intro e w1 he;have HD:Hid (kO w ⟨W,H,n,dp⟩ S false fl B X v0 e w1):=HO.out e w1 he;obtain⟨rfl,_⟩:=he;clear hp HO;go_wp2
 go_end0
 exact HD.out
theorem Qv (W H n dp:Nat)(kd:Int)(pv:Value)(E bN bD G N cap fl B X F:Nat)(aN:Array Value)(K:Nat->Prop)(S:List Int)(v0:Value)(w w0:World)(tt:TypeId)(fr:Nat×Nat)(rK:w.heap[0]?=some (.cells dL tt fr))(hE:xY w w0 E bN bD G N cap W H n kd dp true pv F aN S K)(hD:ul w0 B X fl (Pm.cD.lead ⟨W,H,n,dp⟩) F aN K)(hraw:fO w B X [] v0)(hap:kN w E bN bD G B X v0 K)(hf:Pm.Fits ⟨W,H,n,dp⟩ S)(hN:S.length=N)(hcap:N<=cap)(hol:Pm.raw W H (Pm.cD.bits ⟨W,H,n,dp⟩:Nat) true<=5000000)(hch:Pm.chan kd dp=(n:Int))(hn:1<=n/\n<=4)(hW:1<=W/\W<=5000)(hH:1<=H/\H<=5000): Calls Tryz.prog 92 #[img W H kd dp true pv (.slice (some ⟨G,0,none⟩) N cap),Cm E bN bD] w fun e w'=>kO w ⟨W,H,n,dp⟩ S true fl B X v0 e w':=by
 have hcall:=uo;have HTb:Hid (w.heap[0]?=some (.cells dL tt fr)):=rK;have hrn:=Pm.rF ⟨W,H,n,dp⟩ true;simp only[if_true]at hrn;have HRN:Hid (_):=hrn;have hsz:Pm.dK ⟨W,H,n,dp⟩ 7<=5000000:=by rw[hrn]at hol;omega
 have hk0:=ag w (.cells #[.int .i64 (W:Nat),.int .i64 (H:Nat),.int .i64 kd,.int .i64 (dp:Nat),.bool true,pv,.slice (some ⟨G,0,none⟩) N cap] 30);have HE:Hid (_/\_/\_/\_):=⟨hE.below hap hk0,hap.next (v':=v0) hk0.size (.inl rfl),hraw.below hk0,hk0⟩
 have HFF:Hid (_/\_/\_/\_):=⟨hD,hf,hN,hsz⟩
 have Pb:Hid (_):=hraw;clear rK hE hap hraw hD hf hN hsz hol hrn hk0
 go_enter Tryz.func92,Tryz.ntmps92
 go_wp2_with (refine wpList_load_row rfl 178 _ rfl 0 rfl tt dL fr _ (aw HTb.out _) Tryz.underlying178 rfl zN ?_)
 go_loopw [17] (fun i wr=>∃(k:Nat) (l:List Int) (v:Value),k<=7/\i=.int .i64 k/\Hid (fO wr B X l v/\l.length=Pm.dK ⟨W,H,n,dp⟩ k/\(∀y∈l,0<=y/\y<256)/\(∀q,q<k->Pm.mR ⟨W,H,n,dp⟩ S (Pm.rm l) fl q)/\(v.ownBlock=v0.ownBlock\/∃b,v.ownBlock=some b/\w.heap.size<b))/\Kp (Rw X v0) (w.alloc (.cells #[.int .i64 (W:Nat),.int .i64 (H:Nat),.int .i64 kd,.int .i64 (dp:Nat),.bool true,pv,.slice (some ⟨G,0,none⟩) N cap] 30)) wr) (fun i _=>7-(intOf i).toNat)
 case atStart=>exact⟨0,[],v0,aaj _,rfl,⟨HE.out.2.2.1,rfl,fun y hy=>absurd hy (abC),fun q hq=>absurd hq (abY _),.inl rfl⟩,Kp.refl _ _⟩
 case round =>
  obtain⟨k,l,v,hk,rfl,HL,hkp⟩:=hrel;by_cases hlt:k<7
  ·obtain⟨s1,s2,s3,s4⟩:=Jn k;have t1:=Pm.mt k;have t2:=Pm.my k;have hidx:=fun u=>TW k hlt u;have hsz':=hkp.size;rw[aaC]at hsz';have lX:=aab Pb.out.box
   have YM:¬Rw X v0 w.heap.size:=fun e=>by
    rcases e with e|e
    ·omega
    ·have:=(Pb.out.lt _ e).2;omega
   have m0:wr.cell? ⟨w.heap.size,0,none⟩=some (.int .i64 (W:Nat)):=(hkp.cell (p:=⟨w.heap.size,0,none⟩) (by simp) YM).trans (by simp);have m1:wr.cell? ⟨w.heap.size,1,none⟩=some (.int .i64 (H:Nat)):=(hkp.cell (p:=⟨w.heap.size,1,none⟩) (by simp) YM).trans (by simp);have hlt2:w.heap.size<wr.heap.size:=by omega
   have e1:=Pm.qa (Pm.kD k) (Pm.jD k) W t1;have e2:=Pm.qa (Pm.jz k) (Pm.jE k) H t2;have ZJ:=Ab (Pm.kD k) (Pm.jD k) W t1;have hR1:=Ab (Pm.jz k) (Pm.jE k) H t2;have xj:=fun u=>ny (Pm.kD k:Nat) (Pm.jD k:Nat) (W:Nat) u (by omega) (by omega) (by omega) (by omega);have MW:=fun u=>ny (Pm.jz k:Nat) (Pm.jE k:Nat) (H:Nat) u (by omega) (by omega) (by omega) (by omega);rw[e1]at xj;rw[e2]at MW;have hon:=Pm.mD ⟨W,H,n,dp⟩ k hlt;have hps:((Pm.cu ⟨W,H,n,dp⟩ k).C=(W+(Pm.jD k-1-Pm.kD k))/Pm.jD k)/\((Pm.cu ⟨W,H,n,dp⟩ k).R=(H+(Pm.jE k-1-Pm.jz k))/Pm.jE k):=⟨rfl,rfl⟩
   obtain⟨C,hC⟩:∃C,C=(W+(Pm.jD k-1-Pm.kD k))/Pm.jD k:=⟨_,rfl⟩
   obtain⟨R,hR⟩:∃R,R=(H+(Pm.jE k-1-Pm.jz k))/Pm.jE k:=⟨_,rfl⟩
   rw[<-hC]at xj ZJ hps;rw[<-hR]at MW hR1 hps;obtain⟨hE,hap,hr0,hk0⟩:=HE.out;obtain⟨hD,hf,hN,hsz⟩:=HFF.out;obtain⟨raw,len,Ea,Qw,own⟩:=HL.out;have hE2:=hE.kp hap hkp
   have Qx:=hap.next (v':=v) hkp.size (by
    rcases own with h|⟨b,h,hb⟩
    ·exact .inl h
    ·exact .inr ⟨b,h,by rw[aaC];omega⟩)
   have Ok:0<C->0<R->∀u,Below wr.heap.size wr u->Calls Tryz.prog 147 #[.agg #[.int .i64 (Pm.kD k:Nat),.int .i64 (Pm.jz k:Nat),.int .i64 (Pm.jD k:Nat),.int .i64 (Pm.jE k:Nat),.int .i64 (C:Nat),.int .i64 (R:Nat)],.pointer (some ⟨E,0,none⟩),.pointer (some ⟨bN,0,none⟩),.pointer (some ⟨bD,0,none⟩)] u fun e w'=>xX u ⟨W,H,n,dp⟩ S (Pm.cu ⟨W,H,n,dp⟩ k) (Pm.dK ⟨W,H,n,dp⟩ k) fl B X l v e w':=fun h1 h2 u hu=>by
    have UT:=hE2.below Qx hu;have hau:=Qx.next (v':=v) hu.size (.inl rfl)
    have:=Oi W H n dp kd true pv (Pm.cu ⟨W,H,n,dp⟩ k) E bN bD G N cap (Pm.dK ⟨W,H,n,dp⟩ k) fl B X F aN K S l v u w0 UT.m UT.n UT.d UT.s UT.k hD (raw.below hu) len Ea hau hf hN hcap (Pm.xI _ _) (by
     have:=Pm.Mm ⟨W,H,n,dp⟩ k hlt ⟨by rw[hps.1];exact h1,by rw[hps.2];exact h2⟩
     omega) hch hn hW.2 hH.2 ⟨by show Pm.kD k<=8;omega,by show Pm.jz k<=8;omega,s4.2⟩ s3 ⟨by rw[hps.1];omega,by rw[hps.1];omega⟩ (by rw[hps.2];omega)
    rw[show TV (Pm.cu ⟨W,H,n,dp⟩ k)=.agg #[.int .i64 (Pm.kD k:Nat),.int .i64 (Pm.jz k:Nat),.int .i64 (Pm.jD k:Nat),.int .i64 (Pm.jE k:Nat),.int .i64 ((Pm.cu ⟨W,H,n,dp⟩ k).C:Nat),.int .i64 ((Pm.cu ⟨W,H,n,dp⟩ k).R:Nat)] from rfl,hps.1,hps.2]at this;exact this
   have vY:Hid (¬(0<C/\0<R)->Pm.mR ⟨W,H,n,dp⟩ S (Pm.rm l) fl k/\Pm.dK ⟨W,H,n,dp⟩ (k+1)=Pm.dK ⟨W,H,n,dp⟩ k):=fun hno=>by
    refine⟨fun c1 c2=>?_,?_⟩
    ·rw[hps.1]at c1;rw[hps.2]at c2;exact absurd ⟨c1,c2⟩ hno
    ·rw[hps.1,hps.2,aae hno]at hon;rw[hon];rfl
   have zZ:Hid (0<C/\0<R->Pm.dK ⟨W,H,n,dp⟩ (k+1)=Pm.dK ⟨W,H,n,dp⟩ k+Pm.dm ⟨W,H,n,dp⟩ (Pm.cu ⟨W,H,n,dp⟩ k)):=fun YN=>by
    have UU:0<(Pm.cu ⟨W,H,n,dp⟩ k).C/\0<(Pm.cu ⟨W,H,n,dp⟩ k).R:=by rw[hps.1,hps.2];exact YN
    rw[aaf UU]at hon;exact hon
   have VW:Hid (_):=hkp;have Ol:Hid (_):=Ok;obtain⟨c0,hc0⟩:∃c0,c0=Pm.kD k:=⟨_,rfl⟩
   obtain⟨r0,Bw⟩:∃r0,r0=Pm.jz k:=⟨_,rfl⟩
   obtain⟨cs,hcs⟩:∃cs,cs=Pm.jD k:=⟨_,rfl⟩
   obtain⟨rs,hrs⟩:∃rs,rs=Pm.jE k:=⟨_,rfl⟩
   rw[<-hc0,<-Bw,<-hcs,<-hrs]at Ol hidx;rw[<-hc0,<-hcs]at xj;rw[<-Bw,<-hrs]at MW;clear hps hon hE hap hr0 hk0 hD hf hN hsz raw len Ea Qw own hE2 Qx Ok e1 e2 hC hR t1 t2 s1 s2 s3 s4 hkp hc0 Bw hcs hrs YM;go_wp2_with fail;refine (xj _).mono ?_;rintro e w' ⟨rfl,rfl⟩;go_wp2_with fail;refine (MW _).mono ?_;rintro e w' ⟨rfl,rfl⟩;have kpA:Kp (Rw X v0) (w.alloc (.cells #[.int .i64 (W:Nat),.int .i64 (H:Nat),.int .i64 kd,.int .i64 (dp:Nat),.bool true,pv,.slice (some ⟨G,0,none⟩) N cap] 30)) (wr.alloc (.cells #[.int .i64 (c0:Nat),.int .i64 (r0:Nat),.int .i64 (cs:Nat),.int .i64 (rs:Nat),.int .i64 (C:Nat),.int .i64 (R:Nat)] 122)):=VW.out.alloc _;have bA:=ag wr (.cells #[.int .i64 (c0:Nat),.int .i64 (r0:Nat),.int .i64 (cs:Nat),.int .i64 (rs:Nat),.int .i64 (C:Nat),.int .i64 (R:Nat)] 122);have HA:Hid (_/\_):=⟨kpA,bA⟩
   have JY:Hid (¬(0<C/\0<R)->fO (wr.alloc (.cells #[.int .i64 (c0:Nat),.int .i64 (r0:Nat),.int .i64 (cs:Nat),.int .i64 (rs:Nat),.int .i64 (C:Nat),.int .i64 (R:Nat)] 122)) B X l v/\l.length=Pm.dK ⟨W,H,n,dp⟩ (k+1)/\(∀y∈l,0<=y/\y<256)/\(∀q,q<k+1->Pm.mR ⟨W,H,n,dp⟩ S (Pm.rm l) fl q)/\(v.ownBlock=v0.ownBlock\/∃b,v.ownBlock=some b/\w.heap.size<b)):=fun hno=>by
    obtain⟨raw,len,Ea,Qw,own⟩:=HL.out;obtain⟨p1,p2⟩:=vY.out hno;refine⟨raw.below bA,by rw[p2];exact len,Ea,fun q hq=>?_,own⟩;rcases aaL q k with h|h
    ·exact Qw q h
    ·obtain rfl:q=k:=by omega
     exact p1
   clear kpA bA;by_cases d1:0<C
   ·by_cases d2:0<R
    ·have hoff:=zZ.out ⟨d1,d2⟩;have HY:Hid (_):=hoff;have hcl:=Ol.out d1 d2 _ HA.out.2;clear hoff zZ vY JY;go_wp2_with fail;refine hcl.mono ?_;rintro e w1 ⟨rfl,l',v',g1,g2,g3,g4,g5,g6,g7⟩
     have HDn:Hid (fO w1 B X l' v'/\l'.length=Pm.dK ⟨W,H,n,dp⟩ (k+1)/\(∀y∈l',0<=y/\y<256)/\(∀q,q<k+1->Pm.mR ⟨W,H,n,dp⟩ S (Pm.rm l') fl q)/\(v'.ownBlock=v0.ownBlock\/∃b,v'.ownBlock=some b/\w.heap.size<b)):=by
      obtain⟨raw,len,Ea,Qw,own⟩:=HL.out;refine⟨g1,by rw[HY.out];exact g2,g3,fun q hq=>?_,?_⟩
      ·rcases aaL q k with h|h
       ·refine JX (by omega) (Qw q h) g4 ?_;rw[len];have:=Pm.tI ⟨W,H,n,dp⟩ (q+1) (k-(q+1)) (by omega);rw[show q+1+(k-(q+1))=k by omega]at this;exact this
       ·obtain rfl:q=k:=by omega
        exact fun _ _=>g5
      ·rcases g6 with h|⟨b,h,hb⟩
       ·rw[h];exact own
       ·exact .inr ⟨b,h,by rw[aaC]at hb;omega⟩
     have HKn:Hid (Kp (Rw X v0) (w.alloc (.cells #[.int .i64 (W:Nat),.int .i64 (H:Nat),.int .i64 kd,.int .i64 (dp:Nat),.bool true,pv,.slice (some ⟨G,0,none⟩) N cap] 30)) w1):=by
      refine HA.out.1.then g7 (fun i hi e=>?_)
      rcases e with e|e
      ·exact .inl e
      ·rcases HL.out.2.2.2.2 with h|⟨b,h,hb⟩
       ·exact .inr (by rw[<-h];exact e)
       ·rw[h]at e;have:=aay e;rw[aaC]at hi;omega
     clear g1 g2 g3 g4 g5 g6 g7 hcl HL;go_wp2
     go_roundw
     case rel=>exact⟨k+1,l',v',by omega,by go_num,HDn,HKn.out⟩
     case measure=>simp[intOf];omega
    ·have HDn:Hid (_):=JY.out (fun h=>d2 h.2);clear zZ vY JY;go_wp2
     go_roundw
     case rel=>exact⟨k+1,l,v,by omega,by go_num,HDn,HA.out.1⟩
     case measure=>simp[intOf];omega
   ·have HDn:Hid (_):=JY.out (fun h=>d1 h.1);clear zZ vY JY;go_wp2
    go_roundw
    case rel=>exact⟨k+1,l,v,by omega,by go_num,HDn,HA.out.1⟩
    case measure=>simp[intOf];omega
  ·have hke:k=7:=by omega
   subst hke;have HDn:Hid (_/\_):=⟨HL.out,(Kp.aJ (S:=Rw X v0) HE.out.2.2.2).trans hkp⟩
   clear HL hkp;go_wp2
   go_end0
   obtain⟨⟨raw,len,Ea,Qw,own⟩,kp⟩:=HDn.out;refine⟨rfl,l,v,raw,?_,Ea,?_,?_,kp⟩
   ·rw[len];exact HRN.out.symm
   ·unfold Pm.Written;rw[aaf rfl];exact Qw
   ·rcases own with h|⟨b,h,hb⟩
    ·exact .inl h
    ·exact .inr ⟨b,h,by omega⟩
end Go.Proofs.YtmfijackgekioaaGreatDoor
