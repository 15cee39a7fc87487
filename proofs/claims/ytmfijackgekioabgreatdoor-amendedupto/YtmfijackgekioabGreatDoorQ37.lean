import Derived.Test.YtmfijackgekioabGreatDoorQ35
import Derived.Test.YtmfijackgekioabGreatDoorQ36
import Derived.Lib.SliceRun
set_option maxHeartbeats 1000000
set_option maxRecDepth 100000
namespace Go.Proofs.YtmfijackgekioabGreatDoor
open Go.RowKit Go.Maps
theorem xB {R:Nat}:∀(xs:List Int) (o:Nat) (w:World) (l:List Int),cH w R l->o+xs.length<=l.length->cH (w.setCells R o (cY xs)) R (l.take o++xs++l.drop (o+xs.length))/\Kp (·=R) w (w.setCells R o (cY xs))
 | [],o,w,l,h,_=>by
  refine⟨?_,Kp.refl _ _⟩;rw[abp,acH,acz,acM];exact h
 | x::r,o,w,l,h,hl=>by
  rw[aaA]at hl;obtain⟨h1,h2⟩:=xB r (o+1) (w.setCell ⟨R,o,none⟩ (.int .u8 x)) (l.set o x) (h.set o x) (by rw[abd];omega);refine⟨?_,((Kp.refl (·=R) w).setCell (p:=⟨R,o,none⟩) (.inl rfl) (.int .u8 x)).trans h2⟩
  have e:(l.set o x).take (o+1)++r++(l.set o x).drop (o+1+r.length)=l.take o++(x::r)++l.drop (o+(x::r).length):=by
   rw[aaT (by rw[abd];omega),List.take_set_of_le (aah _),List.getElem_set_self,List.drop_set_of_lt (by omega),aaA,show o+1+r.length=o+(r.length+1) by omega];simp only[aaw,abG,abb]
  rw[<-e];exact h1
theorem Xi (w:World):(zeroValue 5).run Tryz.prog w=.ok (.int .u8 0) w:=by kernel_rfl
theorem Ig {w:World}{R n c:Nat}{l:List Int}(h:cH w R l)(hl:l.length=n)(hn:0<n):∃v,(∀ty,(Builtin.clear_ #[36] ty #[.slice (some ⟨R,0,none⟩) n c]).run Tryz.prog w=.ok (.tuple #[]) v)/\cH v R (List.replicate n 0)/\Kp (·=R) w v:=by
 have e:cY (List.replicate n 0)=List.replicate n (.int .u8 0):=by simp[cY]
 obtain⟨h1,h2⟩:=xB (List.replicate n 0) 0 w l h (by rw[aaE];omega);refine⟨_,fun ty=>?_,?_,h2⟩
 ·rw[e];exact Lib.run_clear_slice w _ _ ty _ Tryz.underlying36 Xi rfl rfl R 0 n c hn (fun j hj=>by rw[aaO,h.cell j (by omega)];rfl) (fun j _=>h.frozen _)
 ·rw[List.take_zero,abb,aaE,List.drop_of_length_le (by omega),abp]at h1;exact h1
theorem OP (R n dp:Nat)(w:World): Calls Tryz.prog 127 #[.slice (some ⟨R,0,none⟩) n n,.int .i64 (dp:Nat)] w fun e w'=>e=.returned (Qw (w.heap.size+2) (w.heap.size+1) w.heap.size)/\iF w' (w.heap.size+2) (w.heap.size+1) w.heap.size R dp n 0/\Below w.heap.size w w':=by
 obtain⟨k0,q0,q1,q2⟩:=jJ w (.cells #[.slice (some ⟨R,0,none⟩) n n] 36) (.cells #[.int .i64 (dp:Nat)] 3) (.cells #[.int .i64 0] 3)
 go_enter Tryz.func127,Tryz.ntmps127
 go_wp2
 go_ret
 exact⟨rfl,⟨q2,q1,q0⟩,k0⟩
structure u9 (w0:World) (B X fl lead F:Nat) (aO:Array Value) (K:Nat->Prop):Prop where
 call:∀args w,(callFunc F args).run Tryz.prog w=.ok (.enter F args) w
 low:∀j,K j->j<w0.heap.size
 does:∀(u:World) (n R A:Nat) (r a l:List Int) (v:Value),(∀j,K j->u.heap[j]?=w0.heap[j]?)->(∀j,K j->v.ownBlock≠some j)->Ze u B X n R A r a l v->n<=1000000->Calls Tryz.prog F (#[.slice (some ⟨R,0,none⟩) n n,.slice (some ⟨A,0,none⟩) n n]++aO) u fun e u'=>D2 fl lead n r a l B X v u e u'
structure nI (u:World) (E bN bD P0 G N cap W H n:Nat) (kd:Int) (dp:Nat) (ps:Bool) (pv dv:Value) (p:Pm.Ps):Prop where
 m:u.heap[E]?=some (.cells (aD W H kd dp ps pv (.slice (some ⟨G,0,none⟩) N cap)) 24 (0,0))
 n:bG u bN (.int .i64 (n:Nat)) 3
 d:bG u bD dv 126
 pa:u.heap[P0]?=some (.cells #[.int .i64 (p.c0:Nat),.int .i64 (p.r0:Nat),.int .i64 (p.cs:Nat),.int .i64 (p.rs:Nat),.int .i64 (p.C:Nat),.int .i64 (p.R:Nat)] 93 (0,0))
theorem nI.kept {u u':World}{E bN bD P0 G N cap W H n:Nat}{kd:Int}{dp:Nat}{ps:Bool}{pv dv:Value}{p:Pm.Ps}(h:nI u E bN bD P0 G N cap W H n kd dp ps pv dv p)(k:∀j,j=E\/j=bN\/j=bD\/j=P0->u'.heap[j]?=u.heap[j]?):nI u' E bN bD P0 G N cap W H n kd dp ps pv dv p :=
 ⟨(k _ (.inl rfl)).trans h.m,(k _ (.inr (.inl rfl))).trans h.n,(k _ (.inr (.inr (.inl rfl)))).trans h.d,(k _ (.inr (.inr (.inr rfl)))).trans h.pa⟩
theorem nI.lt {u:World}{E bN bD P0 G N cap W H n:Nat}{kd:Int}{dp:Nat}{ps:Bool}{pv dv:Value}{p:Pm.Ps}(h:nI u E bN bD P0 G N cap W H n kd dp ps pv dv p)(j:Nat)(hj:j=E\/j=bN\/j=bD\/j=P0):j<u.heap.size:=by
 rcases hj with rfl|rfl|rfl|rfl
 ·exact aaa h.m
 ·exact aaa h.n
 ·exact aaa h.d
 ·exact aaa h.pa
theorem nI.below {u u':World}{E bN bD P0 G N cap W H n:Nat}{kd:Int}{dp:Nat}{ps:Bool}{pv dv:Value}{p:Pm.Ps}(h:nI u E bN bD P0 G N cap W H n kd dp ps pv dv p)(k:Below u.heap.size u u'):nI u' E bN bD P0 G N cap W H n kd dp ps pv dv p:=h.kept (fun j hj=>k.block j (h.lt j hj))
theorem nI.kp {u u':World}{K:Nat->Prop}{E bN bD P0 G N cap W H n:Nat}{kd:Int}{dp:Nat}{ps:Bool}{pv dv:Value}{p:Pm.Ps}(h:nI u E bN bD P0 G N cap W H n kd dp ps pv dv p)(k:Kp K u u')(hk:∀j,j=E\/j=bN\/j=bD\/j=P0->¬K j):nI u' E bN bD P0 G N cap W H n kd dp ps pv dv p:=h.kept (fun j hj=>k.block j (h.lt j hj) (hk j hj))
theorem Fy {u:World}{E bN bD P0 G N cap W H n:Nat}{kd:Int}{dp:Nat}{ps:Bool}{pv dv:Value}{p:Pm.Ps}(h:nI u E bN bD P0 G N cap W H n kd dp ps pv dv p): (u.cell? ⟨E,0,none⟩=some (.int .i64 (W:Nat))/\u.cell? ⟨E,1,none⟩=some (.int .i64 (H:Nat))/\u.cell? ⟨E,2,none⟩=some (.int .i64 kd)/\u.cell? ⟨E,3,none⟩=some (.int .i64 (dp:Nat))/\u.cell? ⟨E,4,none⟩=some (.bool ps)/\u.cell? ⟨E,5,none⟩=some pv/\u.cell? ⟨E,6,none⟩=some (.slice (some ⟨G,0,none⟩) N cap)) /\ u.cell? ⟨bN,0,none⟩=some (.int .i64 (n:Nat))/\u.cell? ⟨bD,0,none⟩=some dv /\ (u.cell? ⟨P0,0,none⟩=some (.int .i64 (p.c0:Nat))/\u.cell? ⟨P0,1,none⟩=some (.int .i64 (p.r0:Nat))/\u.cell? ⟨P0,2,none⟩=some (.int .i64 (p.cs:Nat))/\u.cell? ⟨P0,3,none⟩=some (.int .i64 (p.rs:Nat))/\u.cell? ⟨P0,4,none⟩=some (.int .i64 (p.C:Nat))/\u.cell? ⟨P0,5,none⟩=some (.int .i64 (p.R:Nat))):=by
 obtain⟨a0,a1,a2,a3,a4,a5,a6⟩:=aP h.m;obtain⟨x0,x1,x2,x3,x4,x5,_⟩:=p6 h.pa;exact⟨⟨a0,a1,a2,a3,a4,a5,a6⟩,h.n.cell,h.d.cell,x0,x1,x2,x3,x4,x5⟩
structure Qx (w wr:World) (m:Pm.dA) (S:List Int) (p:Pm.Ps) (o fl B X ra aa size j:Nat) (l0 l:List Int) (v0 v:Value):Prop where
 raw:gL wr B X l v
 len:l.length=o+j*(1+size)
 Fx:∀y∈l,0<=y/\y<256
 pre:l0 <+: l
 rows:∀i,i<j->Pm.nz m S p (Pm.rY l) o fl i
 ab:cH wr aa (Pm.cU m S p j)
 ro:∃rl,cH wr ra rl/\rl.length=size
 kp:Kp (Rw X v0) w wr
 own:v.ownBlock=v0.ownBlock\/∃b,v.ownBlock=some b/\w.heap.size<=b
 ne:v.ownBlock≠some ra/\v.ownBlock≠some aa/\v.ownBlock≠some w.heap.size
 fresh:w.heap.size<ra/\w.heap.size<aa/\ra≠aa
theorem OQ {m:Pm.dA}{S:List Int}{p:Pm.Ps}{o fl j:Nat}{l l':List Int}(hlen:l.length=o+j*(1+Pm.rowLen p.C m.bits))(hb:∀y∈l,0<=y/\y<256)(h:Wrote fl m.lead (Pm.rowLen p.C m.bits) (Pm.cU m S p j) (Pm.iJ m S p j) l l')(hr:∀i,i<j->Pm.nz m S p (Pm.rY l) o fl i): l'.length=o+(j+1)*(1+Pm.rowLen p.C m.bits)/\(∀y∈l',0<=y/\y<256)/\l <+: l'/\∀i,i<j+1->Pm.nz m S p (Pm.rY l') o fl i:=by
 have hle:=h.len;obtain⟨f,h4,h5,rfl⟩:=h
 have hold:∀i,i<l.length->Pm.rY (l++(f:Int)::dr f m.lead (Pm.ai (Pm.cU m S p j)) (Pm.ai (Pm.iJ m S p j)) (Pm.rowLen p.C m.bits) (Pm.rowLen p.C m.bits)) i=Pm.rY l i:=fun i hi=>by
  unfold Pm.rY Pm.ai;rw[aab,aab,abn hi]
 have hnew:∀i,Pm.rY (l++(f:Int)::dr f m.lead (Pm.ai (Pm.cU m S p j)) (Pm.ai (Pm.iJ m S p j)) (Pm.rowLen p.C m.bits) (Pm.rowLen p.C m.bits)) (l.length+i)=Pm.rY ((f:Int)::dr f m.lead (Pm.ai (Pm.cU m S p j)) (Pm.ai (Pm.iJ m S p j)) (Pm.rowLen p.C m.bits) (Pm.rowLen p.C m.bits)) i:=fun i=>by
  unfold Pm.rY Pm.ai;rw[aab,aab,aaM (by omega),Nat.add_sub_cancel_left]
 have h0:Pm.rY (l++(f:Int)::dr f m.lead (Pm.ai (Pm.cU m S p j)) (Pm.ai (Pm.iJ m S p j)) (Pm.rowLen p.C m.bits) (Pm.rowLen p.C m.bits)) (o+j*(1+Pm.rowLen p.C m.bits))=f:=by
  have:=hnew 0;rw[acz,hlen]at this;rw[this];show ((f:Int)).toNat=f;omega
 refine⟨by rw[hle,hlen,acr];omega,fun y hy=>?_,List.prefix_append _ _,fun i hi=>?_⟩
 ·rcases abA.1 hy with hy|hy
  ·exact hb y hy
  ·rcases ab9.1 hy with rfl|hy
   ·omega
   ·obtain⟨k,hk,rfl⟩:=List.mem_iff_getElem.1 hy;have:=nH f m.lead (Pm.ai (Pm.cU m S p j)) (Pm.ai (Pm.iJ m S p j)) (Pm.rowLen p.C m.bits) (Pm.rowLen p.C m.bits) k;unfold Pm.ai at this;rw[aab,aan hk]at this;exact this
 ·rcases aba i j with hij|hij
  ·refine (hr i hij).congr (fun k hk=>hold k ?_);have:(i+1)*(1+Pm.rowLen p.C m.bits)<=j*(1+Pm.rowLen p.C m.bits):=abt _ hij;omega
  ·obtain rfl:i=j:=by omega
   refine⟨by rw[h0];exact h4,fun e=>by rw[h0];exact h5 e,fun k hk=>?_⟩;rw[h0];have e:=hnew (1+k);rw[<-acy,hlen]at e;rw[e]
   have e2:Pm.rY ((f:Int)::dr f m.lead (Pm.ai (Pm.cU m S p i)) (Pm.ai (Pm.iJ m S p i)) (Pm.rowLen p.C m.bits) (Pm.rowLen p.C m.bits)) (1+k)=(Pm.ai (dr f m.lead (Pm.ai (Pm.cU m S p i)) (Pm.ai (Pm.iJ m S p i)) (Pm.rowLen p.C m.bits) (Pm.rowLen p.C m.bits)) k).toNat:=by
    unfold Pm.rY Pm.ai;rw[Nat.add_comm 1 k,List.getD_cons_succ]
   rw[e2,kI _ _ _ _ _ _ _ hk,aaj hk];have:=Pm.rH f m.lead (Pm.ai (Pm.cU m S p i)) (Pm.ai (Pm.iJ m S p i)) k;omega
structure rQ (u w0:World) (E bN bD P0 G N cap W H n:Nat) (kd:Int) (dp:Nat) (ps:Bool) (pv dv:Value) (p:Pm.Ps) (S:List Int) (K:Nat->Prop):Prop where
 env:nI u E bN bD P0 G N cap W H n kd dp ps pv dv p
 ints:gZ u G S
 held:∀j,K j->u.heap[j]?=w0.heap[j]?
theorem rQ.kp {u u' w0:World}{Q:Nat->Prop}{E bN bD P0 G N cap W H n:Nat}{kd:Int}{dp:Nat}{ps:Bool}{pv dv:Value}{p:Pm.Ps}{S:List Int}{K:Nat->Prop}(h:rQ u w0 E bN bD P0 G N cap W H n kd dp ps pv dv p S K)(hlow:∀j,K j->j<u.heap.size)(k:Kp Q u u')(hk:∀j,(j=E\/j=bN\/j=bD\/j=P0)\/j=G\/K j->¬Q j):rQ u' w0 E bN bD P0 G N cap W H n kd dp ps pv dv p S K :=
 ⟨h.env.kp k (fun j hj=>hk j (.inl hj)),h.ints.kp k (hk G (.inr (.inl rfl))),fun j hj=>(k.block j (hlow j hj) (hk j (.inr (.inr hj)))).trans (h.held j hj)⟩
theorem rQ.below {u u' w0:World}{E bN bD P0 G N cap W H n:Nat}{kd:Int}{dp:Nat}{ps:Bool}{pv dv:Value}{p:Pm.Ps}{S:List Int}{K:Nat->Prop}(h:rQ u w0 E bN bD P0 G N cap W H n kd dp ps pv dv p S K)(hlow:∀j,K j->j<u.heap.size)(k:Below u.heap.size u u'):rQ u' w0 E bN bD P0 G N cap W H n kd dp ps pv dv p S K :=
 h.kp hlow (Kp.aF (S:=fun _=>False) k) (fun _ _ e=>e)
structure mc (w:World) (E bN bD G B X:Nat) (v0:Value) (K:Nat->Prop):Prop where
 lt:∀j,(j=E\/j=bN\/j=bD)\/j=G\/K j->j<w.heap.size/\j≠X/\v0.ownBlock≠some j
 low:B<=w.heap.size
def yZ (w:World)(m:Pm.dA)(S:List Int)(p:Pm.Ps)(o fl B X:Nat)(l0:List Int)(v0:Value)(e:Ending)(w':World):Prop :=
 e=.returned (.tuple #[])/\∃l v,gL w' B X l v/\l.length=o+Pm.c8 m p/\(∀y∈l,0<=y/\y<256)/\l0 <+: l/\(∀i,i<p.R->Pm.nz m S p (Pm.rY l) o fl i)/\(v.ownBlock=v0.ownBlock\/∃b,v.ownBlock=some b/\w.heap.size<=b)/\Kp (Rw X v0) w w'
theorem Qy (W H n dp:Nat)(kd:Int)(ps:Bool)(pv:Value)(p:Pm.Ps)(E bN bD G N cap o fl B X F:Nat)(aO:Array Value)(K:Nat->Prop)(S l0:List Int)(v0:Value)(w w0:World)(hm:w.heap[E]?=some (.cells (aD W H kd dp ps pv (.slice (some ⟨G,0,none⟩) N cap)) 24 (0,0)))(hbN:bG w bN (.int .i64 (n:Nat)) 3)(hbD:bG w bD (.func (.func F) #[] aO) 126)(hS:gZ w G S)(hK:∀j,K j->w.heap[j]?=w0.heap[j]?)(hD:u9 w0 B X fl (Pm.dA.lead ⟨W,H,n,dp⟩) F aO K)(hraw:gL w B X l0 v0)(hl0:l0.length=o)(hby:∀y∈l0,0<=y/\y<256)(hap:mc w E bN bD G B X v0 K)(hf:Pm.Fits ⟨W,H,n,dp⟩ S)(hN:S.length=N)(hcap:N<=cap)(hin:p.In W H)(hol:o+Pm.c8 ⟨W,H,n,dp⟩ p<=5000000)(hch:Pm.chan kd dp=(n:Int))(hn:1<=n/\n<=4)(hW:W<=5000)(hH:H<=5000)(hps:p.c0<=8/\p.r0<=8/\p.rs<=8)(hcs:1<=p.cs/\p.cs<=8)(hC:1<=p.C/\p.C<=5000)(hR:p.R<=5000): Calls Tryz.prog 125 #[LC p,.pointer (some ⟨E,0,none⟩),.pointer (some ⟨bN,0,none⟩),.pointer (some ⟨bD,0,none⟩)] w fun e w'=>yZ w ⟨W,H,n,dp⟩ S p o fl B X l0 v0 e w':=by
 have hdp:=kE kd dp (by rw[hch];omega);have hcall:=hD.call;have hrb:=fun u=>uI W H kd dp ps pv (.slice (some ⟨G,0,none⟩) N cap) (p.c0:Nat) (p.r0:Nat) (p.cs:Nat) (p.rs:Nat) (p.C:Nat) (p.R:Nat) u (by omega) (by rw[hch];omega)
 have S9:(((p.C:Nat):Int)*(Pm.chan kd dp*(dp:Int))+7)/8=((Pm.rowLen p.C (n*dp):Nat):Int):=by
  rw[hch];unfold Pm.rowLen;push_cast;rfl
 rw[S9]at hrb;have zO:dp<=16/\1<=dp:=by rcases hdp with h|h|h|h|h<;>omega
 have hsz:Pm.rowLen p.C (n*dp)<=1000000/\0<Pm.rowLen p.C (n*dp):=by
  unfold Pm.rowLen;have h1:n*dp<=4*16:=abh hn.2 zO.1;have h2:p.C*(n*dp)<=5000*64:=abh hC.2 h1;have h3:1*1<=n*dp:=abh hn.1 zO.2;have h4:1*1<=p.C*(n*dp):=abh hC.1 (by omega);omega
 have WO:Hid (∃size,size=Pm.rowLen p.C (n*dp)):=⟨_,rfl⟩
 obtain⟨size,hsize⟩:=WO.out;rw[<-hsize]at hrb hsz;have tu:Hid (size=Pm.rowLen p.C (n*dp)):=hsize;obtain⟨Z,hZ⟩:∃Z:List Value,Z=List.replicate size (.int .u8 0):=⟨_,rfl⟩
 have hmk:=fun u=>yQ size (by omega) Z hZ u;have HZ:Hid (Z=cY (List.replicate size 0)):=by show _=_;rw[hZ];simp[cY]
 have k0:=ae w (.cells #[.int .i64 (p.c0:Nat),.int .i64 (p.r0:Nat),.int .i64 (p.cs:Nat),.int .i64 (p.rs:Nat),.int .i64 (p.C:Nat),.int .i64 (p.R:Nat)] 93);have q0:=ah w (.cells #[.int .i64 (p.c0:Nat),.int .i64 (p.r0:Nat),.int .i64 (p.cs:Nat),.int .i64 (p.rs:Nat),.int .i64 (p.C:Nat),.int .i64 (p.R:Nat)] 93);have z0:=aP ((k0.block _ (aaa hm)).trans hm);have LG:Hid (_/\_/\_/\_/\_/\_/\_):=⟨hm,hbN,hbD,hS,hK,hraw,q0⟩
 have tJ:Hid (_/\_/\_/\_/\_/\_):=⟨hin,hol,hN,hf,hl0,hby⟩
 have HD:Hid (_):=hD;have Xj:Hid (_):=hap;clear hsize hZ WO hm hbN hbD hS hK hraw q0 hin hol hN S9 hf hl0 hby hD hap
 go_enter Tryz.func125,Tryz.ntmps125
 go_wp2_with fail;refine (hrb _).mono ?_;rintro e w1 ⟨rfl,b1⟩;go_wp2_with fail;have yP:Below w.heap.size w w1:=k0.trans (b1.mono (by simp));have q1:=(b1.block _ (by simp)).trans LG.out.2.2.2.2.2.2;have hlt1:=aaa q1;have xT:Hid (_/\_):=⟨yP,q1⟩
 clear yP q1 b1 k0 z0 hrb;apply LD (F:=fun A B u=>Below w.heap.size w u/\u.heap[w.heap.size]?=some (.cells #[.int .i64 (p.c0:Nat),.int .i64 (p.r0:Nat),.int .i64 (p.cs:Nat),.int .i64 (p.rs:Nat),.int .i64 (p.C:Nat),.int .i64 (p.R:Nat)] 93 (0,0))/\cH u A (List.replicate size 0)/\cH u B (List.replicate size 0)/\w.heap.size<A/\w.heap.size<B/\A≠B)
 ·intro rest;obtain⟨kk,y0,y1⟩:=bH w1 (.cells Z.toArray 5) (.cells Z.toArray 5);have NW:Hid (Below w1.heap.size w1 _/\_/\_):=⟨kk,y0,y1⟩
  clear kk y0 y1
  go_region
  ·have hF:Below w.heap.size w ((w1.alloc (.cells Z.toArray 5)).alloc (.cells Z.toArray 5)).drew/\((w1.alloc (.cells Z.toArray 5)).alloc (.cells Z.toArray 5)).drew.heap[w.heap.size]?=some (.cells #[.int .i64 (p.c0:Nat),.int .i64 (p.r0:Nat),.int .i64 (p.cs:Nat),.int .i64 (p.rs:Nat),.int .i64 (p.C:Nat),.int .i64 (p.R:Nat)] 93 (0,0))/\cH ((w1.alloc (.cells Z.toArray 5)).alloc (.cells Z.toArray 5)).drew w1.heap.size (List.replicate size 0)/\cH ((w1.alloc (.cells Z.toArray 5)).alloc (.cells Z.toArray 5)).drew (w1.heap.size+1) (List.replicate size 0)/\w.heap.size<w1.heap.size/\w.heap.size<w1.heap.size+1/\w1.heap.size≠w1.heap.size+1:=by
    obtain⟨kk,y0,y1⟩:=NW.out;rw[HZ.out]at y0 y1 kk ⊢;exact⟨(xT.out.1.trans (kk.mono (by omega))).drew,(kk.block _ hlt1).trans xT.out.2,y0,y1,by omega,by omega,by omega⟩
   revert hF;generalize World.drew _=u;generalize w1.heap.size+1=A2;generalize w1.heap.size=A1;intro hF;have r:=rest A1 A2 u hF;exact r
  ·have hF:Below w.heap.size w ((w1.alloc (.cells Z.toArray 5)).alloc (.cells Z.toArray 5)).drew/\((w1.alloc (.cells Z.toArray 5)).alloc (.cells Z.toArray 5)).drew.heap[w.heap.size]?=some (.cells #[.int .i64 (p.c0:Nat),.int .i64 (p.r0:Nat),.int .i64 (p.cs:Nat),.int .i64 (p.rs:Nat),.int .i64 (p.C:Nat),.int .i64 (p.R:Nat)] 93 (0,0))/\cH ((w1.alloc (.cells Z.toArray 5)).alloc (.cells Z.toArray 5)).drew (w1.heap.size+1) (List.replicate size 0)/\cH ((w1.alloc (.cells Z.toArray 5)).alloc (.cells Z.toArray 5)).drew w1.heap.size (List.replicate size 0)/\w.heap.size<w1.heap.size+1/\w.heap.size<w1.heap.size/\w1.heap.size+1≠w1.heap.size:=by
    obtain⟨kk,y0,y1⟩:=NW.out;rw[HZ.out]at y0 y1 kk ⊢;exact⟨(xT.out.1.trans (kk.mono (by omega))).drew,(kk.block _ hlt1).trans xT.out.2,y1,y0,by omega,by omega,by omega⟩
   revert hF;generalize World.drew _=u;generalize w1.heap.size+1=A2;generalize w1.heap.size=A1;intro hF;have r:=rest A2 A1 u hF;exact r
 ·intro A1 A2 u hu;clear xT hlt1 hmk HZ;obtain⟨ku,pu,u1,u2,l1,l2,Y7⟩:=hu;obtain⟨x0,x1,x2,x3,x4,x5,xl⟩:=p6 pu;have HKU:Hid (_/\_/\_/\_):=⟨ku,pu,u1,u2⟩
  clear ku pu u1 u2;go_wp2
  go_loopw [6,7,19] (fun rv av ix wr=>∃(j ra aa:Nat) (l:List Int) (v:Value),j<=p.R/\ix=.int .i64 j/\rv=.slice (some ⟨ra,0,none⟩) size size/\av=.slice (some ⟨aa,0,none⟩) size size/\Hid (Qx w wr ⟨W,H,n,dp⟩ S p o fl B X ra aa size j l0 l v0 v)/\Hid (rQ wr w0 E bN bD w.heap.size G N cap W H n kd dp ps pv (.func (.func F) #[] aO) p S K)) (fun _ _ ix _=>p.R-(intOf ix).toNat)
  case atStart =>
   obtain⟨ku,pu,u1,u2⟩:=HKU.out;obtain⟨hm,hbN,hbD,hS,hK,hraw,_⟩:=LG.out;obtain⟨hin,hol,hN,hf,hl0,hby⟩:=tJ.out;refine⟨0,A1,A2,l0,v0,aaq _,rfl,rfl,rfl,?_,?_⟩
   ·refine⟨hraw.below ku,by rw[Nat.zero_mul,acz];exact hl0,hby,List.prefix_rfl,fun i hi=>absurd hi (Nat.not_lt_zero _),?_,⟨_,u1,by simp⟩,Kp.aF ku,.inl rfl,⟨fun e=>?_,fun e=>?_,fun e=>?_⟩,⟨l1,l2,Y7⟩⟩
    ·show cH u A2 (List.replicate (Pm.rowLen p.C (n*dp)) 0);rw[<-tu.out];exact u2
    ·have:=(hraw.lt _ e).2;omega
    ·have:=(hraw.lt _ e).2;omega
    ·have:=(hraw.lt _ e).2;omega
   ·exact⟨⟨(ku.block E (aaa hm)).trans hm,(ku.block bN (aaa hbN)).trans hbN,(ku.block bD (aaa hbD)).trans hbD,pu⟩,hS.below ku,fun j hj=>(ku.block j (Xj.out.lt j (.inr (.inr hj))).1).trans (hK j hj)⟩
  case round =>
   obtain⟨j,ra,aa,l,v,hj,rfl,rfl,rfl,HI,HW⟩:=hrel;by_cases hlt:j<p.R
   ·have hlt':(j:Int)<(p.R:Int):=by omega
    obtain⟨hin,hol,hN,hf,hl0,hby⟩:=tJ.out;obtain⟨rl,hBr,hrl⟩:=HI.out.ro;obtain⟨f1,f2,f3⟩:=HI.out.fresh;obtain⟨n1,n2,n3⟩:=HI.out.ne;have hkz:=HI.out.kp.size;have lK:∀i,K i->i<wr.heap.size:=fun i hi=>aaQ (Xj.out.lt i (.inr (.inr hi))).1 hkz;have lA:=Xj.out.lt;have lB:=Xj.out.low
    have qT:∀i,(i=E\/i=bN\/i=bD\/i=w.heap.size)\/i=G\/K i->i<=w.heap.size/\i≠X/\v.ownBlock≠some i:=fun i hi=>by
     have lX:=aaa LG.out.2.2.2.2.2.1.box;by_cases e:i=w.heap.size
     ·subst e;exact⟨aah _,by omega,n3⟩
     ·have:=lA i (by rcases hi with (h|h|h|h)|h;exact .inl (.inl h);exact .inl (.inr (.inl h));exact .inl (.inr (.inr h));exact absurd h e;exact .inr h);refine⟨by omega,this.2.1,?_⟩;rcases HI.out.own with h|⟨b,h,hb⟩
      ·rw[h];exact this.2.2
      ·rw[h];intro e2;have:=aaH e2;omega
    obtain⟨v1,hcl,hB1,kQ⟩:=Ig (c:=size) hBr hrl hsz.2;have W1:=HW.out.kp lK kQ (fun i hi=>by have:=(qT i hi).1;omega);have lX:=aaa HI.out.raw.box;have lXw:=aaa LG.out.2.2.2.2.2.1.box
    have Hr:=HI.out.raw.kept (w':=v1) (fun i hi=>kQ.block i (by rcases hi with rfl|hi;exact lX;exact (HI.out.raw.lt i hi).2) (fun e=>by
     rcases hi with rfl|hi
     ·omega
     ·rw[e]at hi;exact n1 hi))
    have ab1:cH v1 aa (Pm.cU ⟨W,H,n,dp⟩ S p j):=(kQ.block aa (aaa HI.out.ab) (by omega)).trans HI.out.ab;have hz1:=kQ.size;have lra:=aaa hB1;have laa:=aaa ab1;have hfs:=fun u=>pZ W H n j kd dp ps pv (.slice (some ⟨G,0,none⟩) N cap) p u hch hW (by omega) hps hn.2
    have hidx:∀k,k<p.C*n->Pm.dO p W n j+Pm.oy n p.cs k<N:=fun k hk=>by
     rw[<-Pm.sM,<-hN,hf.len];exact Pm.Ps.Du hin hlt hk
    have Qh:Pm.dO p W n j<N:=by
     have:=hidx 0 (Nat.mul_pos hC.1 hn.1);omega
    have hNb:N<=100000000:=by
     rw[<-hN,hf.len];have:W*H*n<=5000*5000*4:=abh (abh hW hH) hn.2;exact abe this (by omega)
    have HV:Hid (∀k,k<p.C*n->Pm.yF S p W n j k=Pm.ai S (Pm.dO p W n j+Pm.oy n p.cs k)):=fun k _=>by unfold Pm.yF;rw[Pm.sM]
    obtain⟨Fs,hFs⟩:∃Fs,Fs=Pm.dO p W n j:=⟨_,rfl⟩
    rw[<-hFs]at hfs hidx Qh HV;have HIX:Hid (_):=hidx;have HX:Hid (_/\_/\_/\_/\_/\_):=⟨W1,Hr,hB1,ab1,kQ,qT⟩
    have OT:Hid (_):=HI.out;have hFN:(Fs:Int)<=(N:Int):=by omega
    have abl:N≠Fs:=by omega
    have eFN:(N:Int)-(Fs:Int)=((N-Fs:Nat):Int):=by omega
    clear W1 Hr hB1 ab1 kQ qT hBr hrl hidx hFs HI HW hin hol hf hl0 hby lA lB;go_wp2_with fail;have hS1:nI v1.drew E bN bD w.heap.size G N cap W H n kd dp ps pv (.func (.func F) #[] aO) p:=HX.out.1.env.kept (fun _ _=>rfl);refine ax (fun u=>nI u E bN bD w.heap.size G N cap W H n kd dp ps pv (.func (.func F) #[] aO) p) 99 ?_;refine ap [0,1,2,3,4] ?_
    iterate 5 (refine bU (v:=?_) (T:=?_) ?ht ?hy hS1 ?_;(case hy=>intro w hSw;have xr := Fy hSw; go_simp;try with_reducible rfl);case ht=>go_simp;try with_reducible rfl)
    refine aj ?_;refine ag 5 fun Kc hKc=>?_;go_simp;refine (hfs _).mono ?_;rintro e v3 ⟨rfl,b3⟩;have S3:=hS1.below b3;refine hKc _ _ (fun _=>S3) ?_;clear hKc Kc;have hFc:(Fs:Int)<=(cap:Int):=by omega
    refine ap [6,7] ?_
    iterate 2 refine aT S3 ?_
    refine aj ?_;refine am ?_;have z1:v1.drew.heap.size=v1.heap.size:=rfl;have I4:Below v1.heap.size v1 v3:=((aav _ v1).drew).trans (b3.mono (by rw[z1];exact aah _));have lK1:∀i,K i->i<v1.heap.size:=fun i hi=>aaQ (lK i hi) hz1;have W3:=HX.out.1.below lK1 I4;have z3:=I4.size;have lK3:∀i,K i->i<v3.heap.size:=fun i hi=>aaQ (lK1 i hi) z3;have mD:=HX.out.2.1.below I4;have LX:cH v3 ra (List.replicate size 0):=(I4.block ra lra).trans HX.out.2.2.1;have Xk:cH v3 aa (Pm.cU ⟨W,H,n,dp⟩ S p j):=(I4.block aa laa).trans HX.out.2.2.2.1;have hpk:=OP ra size dp v3.drew;have Ft:Hid (_/\_/\_/\_/\_):=⟨W3,mD,LX,Xk,I4⟩
    clear W3 mD LX Xk I4 b3 S3 hS1 hfs;go_wp2_with fail;have S4:nI v3.drew E bN bD w.heap.size G N cap W H n kd dp ps pv (.func (.func F) #[] aO) p:=Ft.out.1.env.kept (fun _ _=>rfl);refine ax (fun u=>nI u E bN bD w.heap.size G N cap W H n kd dp ps pv (.func (.func F) #[] aO) p) 99 ?_;refine ap [0,1,2,3,4,5,6,7,8] ?_
    iterate 9 (refine bU (v:=?_) (T:=?_) ?ht ?hy S4 ?_;(case hy=>intro w hSw;have xr := Fy hSw; go_simp;try with_reducible rfl);case ht=>go_simp;try with_reducible rfl)
    refine aj ?_;refine ag 9 fun Kc hKc=>?_;go_simp;refine hpk.mono ?_;rintro e v5 ⟨rfl,Zf,b5⟩;obtain⟨W3,mD,LX,Xk,I4⟩:=Ft.out;have z3d:v3.drew.heap.size=v3.heap.size:=rfl;rw[z3d]at Zf;have Ih:Below v3.heap.size v3 v5:=((aav _ v3).drew).trans (b5.mono (by rw[z3d];exact aah _));have W5:=W3.below lK3 Ih;have z5:=Ih.size;have LY:=mD.below Ih;have Xl:cH v5 ra (List.replicate size 0):=(Ih.block ra (by omega)).trans LX;have Xn:cH v5 aa (Pm.cU ⟨W,H,n,dp⟩ S p j):=(Ih.block aa (by omega)).trans Xk;have qT:=HX.out.2.2.2.2.2;have lG:=(qT G (.inr (.inl rfl))).1;have lrb:=aaa Zf.f;have hpi:=OO (Pm.yF S p W n j) S n p.cs p.C dp size Fs (N-Fs) (cap-Fs) G (v3.heap.size+2) (v3.heap.size+1) v3.heap.size ra v5 Zf ⟨⟨by omega,by omega,by omega,by omega,by omega⟩⟩ Xl W5.ints ⟨by omega,by omega⟩ (fun k hk=>⟨HV.out k hk,by rw[hN];exact HIX.out k hk,by have:=HIX.out k hk;omega⟩) (fun k hk=>⟨tJ.out.2.2.2.1.get _,by rw[tu.out];exact Pm.yD p.C n dp k hdp hk⟩) hdp hC.2 hn hcs (by omega) hsz.1;have Xo:Hid (_/\_/\_/\_):=⟨W5,LY,Xn,Ih⟩
    have S5:=W5.env;have lK5:∀i,K i->i<v5.heap.size:=fun i hi=>aaQ (lK3 i hi) z5;clear W3 mD LX Xk I4 W5 LY Xl Xn b5 Ih Zf hpk qT;refine hKc _ _ (fun _=>S5) ?_;clear hKc Kc;refine ag 10 fun Kc hKc=>?_;go_simp;refine hpi.mono ?_;rintro e v6 ⟨rfl,hrow,oC⟩;obtain⟨W5,LY,Xn,Ih⟩:=Xo.out;have qT:=HX.out.2.2.2.2.2;have W6:=W5.kp lK5 oC (fun i hi=>by have:=(qT i hi).1;omega)
    have Xq:=LY.kept (w':=v6) (fun i hi=>oC.block i (by rcases hi with rfl|hi;omega;have:=(HX.out.2.1.lt i hi).2;omega) (fun e=>by
     rcases hi with rfl|hi
     ·omega
     ·rcases e with e|e
      ·rw[e]at hi;exact n1 hi
      ·have:=(HX.out.2.1.lt i hi).2;omega))
    have UK:cH v6 aa (Pm.cU ⟨W,H,n,dp⟩ S p j):=(oC.block aa (by omega) (by omega)).trans Xn;have z6:=oC.size;have lK6:∀i,K i->i<v6.heap.size:=fun i hi=>aaQ (lK5 i hi) z6;have iP:Pm.rowLen p.C (Pm.dA.bits ⟨W,H,n,dp⟩)=size:=tu.out.symm;have Qz:Pm.bC (Pm.yF S p W n j) dp size (p.C*n)=Pm.iJ ⟨W,H,n,dp⟩ S p j:=by unfold Pm.iJ;rw[iP]
    rw[Qz]at hrow;have hfit:=tJ.out.2.2.2.1;have gR:∀i,0<=Pm.ai (Pm.iJ ⟨W,H,n,dp⟩ S p j) i/\Pm.ai (Pm.iJ ⟨W,H,n,dp⟩ S p j) i<256:=Pm.ut (Pm.uB hfit p j);have gA:∀i,0<=Pm.ai (Pm.cU ⟨W,H,n,dp⟩ S p j) i/\Pm.ai (Pm.cU ⟨W,H,n,dp⟩ S p j) i<256:=Pm.ut (Pm.Dv hfit p j)
    have hll:l.length+size<=99999999:=by
     have h1:=OT.out.len;have h2:=tJ.out.2.1;have h3:Pm.c8 ⟨W,H,n,dp⟩ p=p.R*(1+size):=by unfold Pm.c8;rw[iP]
     have h4:j*(1+size)<=p.R*(1+size):=abt _ hj;omega
    have Xr:Ze v6 B X size ra aa (Pm.iJ ⟨W,H,n,dp⟩ S p j) (Pm.cU ⟨W,H,n,dp⟩ S p j) l v:=⟨Xq,by have:=Xj.out.low;omega,hrow,UK,by rw[Pm.ny];exact iP,by rw[Pm.uy];exact iP,gR,gA,⟨by omega,by omega⟩,⟨n1,n2⟩,hll⟩
    have hdo:=HD.out.does v6 size ra aa _ _ l v W6.held (fun i hi=>(qT i (.inr (.inr hi))).2.2) Xr hsz.1;have S6:=W6.env;have d6:=S6.d.cell;have xC:Hid (_/\_/\_/\_/\_):=⟨W6,hrow,UK,oC,Ih⟩
    clear W5 LY Xn Ih W6 Xq UK hrow oC Xr gR gA qT hpi Xo Qz;refine hKc _ _ (fun _=>S6) ?_;clear hKc Kc;refine am ?_;clear S6 S5 S4;go_wp2_with fail;refine hdo.mono ?_;rintro e v7 ⟨rfl,v',l',hwr,Xt,Tp,BW⟩;obtain⟨W6,hrow,UK,oC,Ih⟩:=xC.out;have qT:=HX.out.2.2.2.2.2;have I4:=Ft.out.2.2.2.2;have kQ:=HX.out.2.2.2.2.1;have Xu:Wrote fl (Pm.dA.lead ⟨W,H,n,dp⟩) (Pm.rowLen p.C (Pm.dA.bits ⟨W,H,n,dp⟩)) (Pm.cU ⟨W,H,n,dp⟩ S p j) (Pm.iJ ⟨W,H,n,dp⟩ S p j) l l':=by rw[iP];exact hwr
    obtain⟨g1,g2,g3,g4⟩:=OQ (by rw[iP];exact OT.out.len) OT.out.Fx Xu OT.out.rows;rw[iP]at g1;have z7:=BW.size
    have hKp:Kp (Rw X v0) w v7:=by
     refine ((((OT.out.kp.then kQ (fun i hi e=>?_)).then (Kp.aF (S:=fun _=>False) I4) (fun i hi e=>e.elim)).then (Kp.aF (S:=fun _=>False) Ih) (fun i hi e=>e.elim)).then oC (fun i hi e=>?_)).then BW (fun i hi e=>?_)
     ·omega
     ·omega
     ·rcases e with e|e
      ·exact .inl e
      ·rcases OT.out.own with h|⟨b,h,hb⟩
       ·exact .inr (by rw[<-h];exact e)
       ·rw[h]at e;have:=aaH e;omega
    have hown:v'.ownBlock=v0.ownBlock\/∃b,v'.ownBlock=some b/\w.heap.size<=b:=by
     rcases Tp with h|⟨b,h,hb⟩
     ·rw[h];exact OT.out.own
     ·exact .inr ⟨b,h,by omega⟩
    have hne:v'.ownBlock≠some aa/\v'.ownBlock≠some ra/\v'.ownBlock≠some w.heap.size:=by
     rcases Tp with h|⟨b,h,hb⟩
     ·rw[h];exact⟨n2,n1,n3⟩
     ·rw[h];refine⟨fun e=>?_,fun e=>?_,fun e=>?_⟩<;>(have:=aaH e;omega)
    have HF:Hid (Qx w v7 ⟨W,H,n,dp⟩ S p o fl B X aa ra size (j+1) l0 l' v0 v') :=
     ⟨Xt,g1,g2,OT.out.pre.trans g3,g4,(BW.block ra (by omega) (fun e=>by rcases e with e|e;omega;exact n1 e)).trans hrow,⟨_,(BW.block aa (by omega) (fun e=>by rcases e with e|e;omega;exact n2 e)).trans UK,by rw[Pm.uy];exact iP⟩,hKp,hown,hne,⟨f2,f1,fun e=>f3 e.symm⟩⟩
    have Xv:Hid (rQ v7 w0 E bN bD w.heap.size G N cap W H n kd dp ps pv (.func (.func F) #[] aO) p S K):=W6.kp lK6 BW (fun i hi e=>by
     have:=qT i hi;rcases e with e|e
     ·exact this.2.1 e
     ·exact this.2.2 e)
    clear W6 hrow UK oC Ih qT I4 kQ hwr Xu g1 g2 g3 g4 hKp hown hne Xt Tp BW hdo HX Ft xC OT;go_wp2
    go_roundw
    case rel=>exact⟨j+1,aa,ra,l',v',by omega,by go_num,rfl,rfl,HF,Xv⟩
    case measure=>simp[intOf];omega
   ·have JH:j=p.R:=by omega
    subst JH;have HDn:Hid (_):=HI.out;clear HI;go_wp2
    go_end0
    refine⟨rfl,l,v,HDn.out.raw,?_,HDn.out.Fx,HDn.out.pre,HDn.out.rows,HDn.out.own,HDn.out.kp⟩;rw[HDn.out.len,tu.out];rfl
structure y9 (w w0:World) (E bN bD G N cap W H n:Nat) (kd:Int) (dp:Nat) (ps:Bool) (pv:Value) (F:Nat) (aO:Array Value) (S:List Int) (K:Nat->Prop):Prop where
 m:w.heap[E]?=some (.cells (aD W H kd dp ps pv (.slice (some ⟨G,0,none⟩) N cap)) 24 (0,0))
 n:bG w bN (.int .i64 (n:Nat)) 3
 d:bG w bD (.func (.func F) #[] aO) 126
 s:gZ w G S
 k:∀j,K j->w.heap[j]?=w0.heap[j]?
theorem y9.kp {w w' w0:World}{E bN bD G N cap W H n B X:Nat}{kd:Int}{dp:Nat}{ps:Bool}{pv:Value}{F:Nat}{aO:Array Value}{S:List Int}{K:Nat->Prop}{v:Value}(h:y9 w w0 E bN bD G N cap W H n kd dp ps pv F aO S K)(ha:mc w E bN bD G B X v K)(k:Kp (Rw X v) w w'):y9 w' w0 E bN bD G N cap W H n kd dp ps pv F aO S K:=by
 have key:∀j,(j=E\/j=bN\/j=bD)\/j=G\/K j->¬Rw X v j:=fun j hj e=>by
  have:=ha.lt j hj;rcases e with e|e
  ·exact this.2.1 e
  ·exact this.2.2 e
 exact⟨(k.block E (aaa h.m) (key E (.inl (.inl rfl)))).trans h.m,(k.block bN (aaa h.n) (key bN (.inl (.inr (.inl rfl))))).trans h.n,(k.block bD (aaa h.d) (key bD (.inl (.inr (.inr rfl))))).trans h.d,h.s.kp k (key G (.inr (.inl rfl))),fun j hj=>(k.block j (ha.lt j (.inr (.inr hj))).1 (key j (.inr (.inr hj)))).trans (h.k j hj)⟩
theorem y9.below {w w' w0:World}{E bN bD G N cap W H n B X:Nat}{kd:Int}{dp:Nat}{ps:Bool}{pv:Value}{F:Nat}{aO:Array Value}{S:List Int}{K:Nat->Prop}{v:Value}(h:y9 w w0 E bN bD G N cap W H n kd dp ps pv F aO S K)(ha:mc w E bN bD G B X v K)(k:Below w.heap.size w w'):y9 w' w0 E bN bD G N cap W H n kd dp ps pv F aO S K:=h.kp ha (Kp.aF k)
theorem mc.next {w w':World}{E bN bD G B X:Nat}{v v':Value}{K:Nat->Prop}(h:mc w E bN bD G B X v K)(hz:w.heap.size<=w'.heap.size)(ho:v'.ownBlock=v.ownBlock\/∃b,v'.ownBlock=some b/\w.heap.size<=b):mc w' E bN bD G B X v' K:=by
 refine⟨fun j hj=>?_,abe h.low hz⟩;obtain⟨a1,a2,a3⟩:=h.lt j hj;refine⟨aaQ a1 hz,a2,?_⟩;rcases ho with e|⟨b,e,hb⟩
 ·rw[e];exact a3
 ·rw[e];intro e2;have:=aaH e2;omega
theorem OU {l l':List Int}(h:l <+: l'){i:Nat}(hi:i<l.length):Pm.rY l' i=Pm.rY l i:=by
 obtain⟨r,rfl⟩:=h;unfold Pm.rY Pm.ai;rw[aab,aab,abn hi]
theorem LZ {m:Pm.dA}{S l l':List Int}{fl k:Nat}(hk:k<7)(h:Pm.nA m S (Pm.rY l) fl k)(hp:l <+: l')(hl:Pm.cC m (k+1)<=l.length):Pm.nA m S (Pm.rY l') fl k:=fun c1 c2 j hj=>by
 refine (h c1 c2 j hj).congr (fun i hi=>OU hp ?_);have hn:=Pm.ko m k hk;rw[aaj ⟨c1,c2⟩]at hn;unfold Pm.c8 at hn;have:(j+1)*(1+Pm.rowLen (Pm.cx m k).C m.bits)<=(Pm.cx m k).R*(1+Pm.rowLen (Pm.cx m k).C m.bits):=abt _ hj;omega
def me (w:World)(m:Pm.dA)(S:List Int)(on:Bool)(fl B X:Nat)(v0:Value)(e:Ending)(w':World):Prop :=
 e=.returned (.tuple #[])/\∃l v,gL w' B X l v/\(l.length:Int)=Pm.raw m.W m.H m.bits on/\(∀y∈l,0<=y/\y<256)/\Pm.Written m S (Pm.rY l) fl on/\(v.ownBlock=v0.ownBlock\/∃b,v.ownBlock=some b/\w.heap.size<=b)/\Kp (Rw X v0) w w'
theorem va (args:Array Value)(w:World):(callFunc 125 args).run Tryz.prog w=.ok (.enter 125 args) w:=by kernel_rfl
abbrev D3 (E bN bD:Nat):Value:=.func (.func 125) #[] #[.pointer (some ⟨E,0,none⟩),.pointer (some ⟨bN,0,none⟩),.pointer (some ⟨bD,0,none⟩)]
theorem Xw (W H n dp:Nat)(kd:Int)(pv:Value)(E bN bD G N cap fl B X F:Nat)(aO:Array Value)(K:Nat->Prop)(S:List Int)(v0:Value)(w w0:World)(hE:y9 w w0 E bN bD G N cap W H n kd dp false pv F aO S K)(hD:u9 w0 B X fl (Pm.dA.lead ⟨W,H,n,dp⟩) F aO K)(hraw:gL w B X [] v0)(hap:mc w E bN bD G B X v0 K)(hf:Pm.Fits ⟨W,H,n,dp⟩ S)(hN:S.length=N)(hcap:N<=cap)(hol:Pm.raw W H (Pm.dA.bits ⟨W,H,n,dp⟩:Nat) false<=5000000)(hch:Pm.chan kd dp=(n:Int))(hn:1<=n/\n<=4)(hW:1<=W/\W<=5000)(hH:1<=H/\H<=5000): Calls Tryz.prog 58 #[img W H kd dp false pv (.slice (some ⟨G,0,none⟩) N cap),D3 E bN bD] w fun e w'=>me w ⟨W,H,n,dp⟩ S false fl B X v0 e w':=by
 have hcall:=va;have hk0:=ae w (.cells #[.int .i64 (W:Nat),.int .i64 (H:Nat),.int .i64 kd,.int .i64 (dp:Nat),.bool false,pv,.slice (some ⟨G,0,none⟩) N cap] 24);have hrn:=Pm.nU ⟨W,H,n,dp⟩ false;simp only[ace,if_false]at hrn;have hE1:=hE.below hap hk0;have Xx:=hap.next (v':=v0) hk0.size (.inl rfl);have hp:=Qy W H n dp kd false pv (Pm.kj ⟨W,H,n,dp⟩) E bN bD G N cap 0 fl B X F aO K S [] v0 _ w0 hE1.m hE1.n hE1.d hE1.s hE1.k hD (hraw.below hk0) rfl (fun y hy=>absurd hy (abw)) Xx hf hN hcap (Pm.uw _) (by rw[hrn]at hol;omega) hch hn hW.2 hH.2 ⟨by show 0<=8;omega,by show 0<=8;omega,by show 1<=8;omega⟩ ⟨by show 1<=1;omega,by show 1<=8;omega⟩ hW hH.2
 have HO:Hid (∀e w',yZ (w.alloc (.cells #[.int .i64 (W:Nat),.int .i64 (H:Nat),.int .i64 kd,.int .i64 (dp:Nat),.bool false,pv,.slice (some ⟨G,0,none⟩) N cap] 24)) ⟨W,H,n,dp⟩ S (Pm.kj ⟨W,H,n,dp⟩) 0 fl B X [] v0 e w'->me w ⟨W,H,n,dp⟩ S false fl B X v0 e w'):=fun e w' ⟨he,l,v,h1,h2,h3,_,h4,h5,h6⟩=>by
  refine⟨he,l,v,h1,?_,h3,?_,?_,(Kp.aF (S:=Rw X v0) hk0).trans h6⟩
  ·rw[h2,aaO];exact hrn.symm
  ·unfold Pm.Written;rw[aai (by decide)];exact h4
  ·rcases h5 with h5|⟨b,h5,hb⟩
   ·exact .inl h5
   ·exact .inr ⟨b,h5,abe hk0.size hb⟩
 clear hE hraw hk0 hrn hol hE1 Xx hap hf hN hcap hD
 go_enter Tryz.func58,Tryz.ntmps58
 go_wp2_with fail;refine hp.mono ?_;intro e w1 he;have HD:Hid (me w ⟨W,H,n,dp⟩ S false fl B X v0 e w1):=HO.out e w1 he;obtain⟨rfl,_⟩:=he;clear hp HO;go_wp2
 go_end0
 exact HD.out
theorem Tq (W H n dp:Nat)(kd:Int)(pv:Value)(E bN bD G N cap fl B X F:Nat)(aO:Array Value)(K:Nat->Prop)(S:List Int)(v0:Value)(w w0:World)(tt:TypeId)(fr:Nat×Nat)(jI:w.heap[0]?=some (.cells cX tt fr))(hE:y9 w w0 E bN bD G N cap W H n kd dp true pv F aO S K)(hD:u9 w0 B X fl (Pm.dA.lead ⟨W,H,n,dp⟩) F aO K)(hraw:gL w B X [] v0)(hap:mc w E bN bD G B X v0 K)(hf:Pm.Fits ⟨W,H,n,dp⟩ S)(hN:S.length=N)(hcap:N<=cap)(hol:Pm.raw W H (Pm.dA.bits ⟨W,H,n,dp⟩:Nat) true<=5000000)(hch:Pm.chan kd dp=(n:Int))(hn:1<=n/\n<=4)(hW:1<=W/\W<=5000)(hH:1<=H/\H<=5000): Calls Tryz.prog 58 #[img W H kd dp true pv (.slice (some ⟨G,0,none⟩) N cap),D3 E bN bD] w fun e w'=>me w ⟨W,H,n,dp⟩ S true fl B X v0 e w':=by
 have hcall:=va;have MK:Hid (w.heap[0]?=some (.cells cX tt fr)):=jI;have hrn:=Pm.nU ⟨W,H,n,dp⟩ true;simp only[if_true]at hrn;have HRN:Hid (_):=hrn;have hsz:Pm.cC ⟨W,H,n,dp⟩ 7<=5000000:=by rw[hrn]at hol;omega
 have hk0:=ae w (.cells #[.int .i64 (W:Nat),.int .i64 (H:Nat),.int .i64 kd,.int .i64 (dp:Nat),.bool true,pv,.slice (some ⟨G,0,none⟩) N cap] 24);have HE:Hid (_/\_/\_/\_):=⟨hE.below hap hk0,hap.next (v':=v0) hk0.size (.inl rfl),hraw.below hk0,hk0⟩
 have HFF:Hid (_/\_/\_/\_):=⟨hD,hf,hN,hsz⟩
 have CD:Hid (_):=hraw;clear jI hE hap hraw hD hf hN hsz hol hrn hk0
 go_enter Tryz.func58,Tryz.ntmps58
 go_wp2_with (refine wpList_load_row rfl 142 _ rfl 0 rfl tt cX fr _ (ak MK.out _) Tryz.underlying142 rfl uJ ?_)
 go_loopw [17] (fun i wr=>∃(k:Nat) (l:List Int) (v:Value),k<=7/\i=.int .i64 k/\Hid (gL wr B X l v/\l.length=Pm.cC ⟨W,H,n,dp⟩ k/\(∀y∈l,0<=y/\y<256)/\(∀q,q<k->Pm.nA ⟨W,H,n,dp⟩ S (Pm.rY l) fl q)/\(v.ownBlock=v0.ownBlock\/∃b,v.ownBlock=some b/\w.heap.size<b))/\Kp (Rw X v0) (w.alloc (.cells #[.int .i64 (W:Nat),.int .i64 (H:Nat),.int .i64 kd,.int .i64 (dp:Nat),.bool true,pv,.slice (some ⟨G,0,none⟩) N cap] 24)) wr) (fun i _=>7-(intOf i).toNat)
 case atStart=>exact⟨0,[],v0,aaq _,rfl,⟨HE.out.2.2.1,rfl,fun y hy=>absurd hy (abw),fun q hq=>absurd hq (Nat.not_lt_zero _),.inl rfl⟩,Kp.refl _ _⟩
 case round =>
  obtain⟨k,l,v,hk,rfl,HL,hkp⟩:=hrel;by_cases hlt:k<7
  ·obtain⟨s1,s2,s3,s4⟩:=Bb k;have t1:=Pm.wX k;have t2:=Pm.wY k;have hidx:=fun u=>Qq k hlt u;have hsz':=hkp.size;rw[aas]at hsz';have lX:=aaa CD.out.box
   have hXw:¬Rw X v0 w.heap.size:=fun e=>by
    rcases e with e|e
    ·omega
    ·have:=(CD.out.lt _ e).2;omega
   have m0:wr.cell? ⟨w.heap.size,0,none⟩=some (.int .i64 (W:Nat)):=(hkp.cell (p:=⟨w.heap.size,0,none⟩) (by simp) hXw).trans (by simp);have m1:wr.cell? ⟨w.heap.size,1,none⟩=some (.int .i64 (H:Nat)):=(hkp.cell (p:=⟨w.heap.size,1,none⟩) (by simp) hXw).trans (by simp);have hlt2:w.heap.size<wr.heap.size:=by omega
   have e1:=Pm.qM (Pm.ox k) (Pm.j5 k) W t1;have e2:=Pm.qM (Pm.oY k) (Pm.mC k) H t2;have YW:=kF (Pm.ox k) (Pm.j5 k) W t1;have Za:=kF (Pm.oY k) (Pm.mC k) H t2;have pM:=fun u=>ja (Pm.ox k:Nat) (Pm.j5 k:Nat) (W:Nat) u (by omega) (by omega) (by omega) (by omega);have yR:=fun u=>ja (Pm.oY k:Nat) (Pm.mC k:Nat) (H:Nat) u (by omega) (by omega) (by omega) (by omega);rw[e1]at pM;rw[e2]at yR;have hon:=Pm.ko ⟨W,H,n,dp⟩ k hlt;have hps:((Pm.cx ⟨W,H,n,dp⟩ k).C=(W+(Pm.j5 k-1-Pm.ox k))/Pm.j5 k)/\((Pm.cx ⟨W,H,n,dp⟩ k).R=(H+(Pm.mC k-1-Pm.oY k))/Pm.mC k):=⟨rfl,rfl⟩
   obtain⟨C,hC⟩:∃C,C=(W+(Pm.j5 k-1-Pm.ox k))/Pm.j5 k:=⟨_,rfl⟩
   obtain⟨R,hR⟩:∃R,R=(H+(Pm.mC k-1-Pm.oY k))/Pm.mC k:=⟨_,rfl⟩
   rw[<-hC]at pM YW hps;rw[<-hR]at yR Za hps;obtain⟨hE,hap,hr0,hk0⟩:=HE.out;obtain⟨hD,hf,hN,hsz⟩:=HFF.out;obtain⟨raw,len,Fx,Tr,own⟩:=HL.out;have hE2:=hE.kp hap hkp
   have Ts:=hap.next (v':=v) hkp.size (by
    rcases own with h|⟨b,h,hb⟩
    ·exact .inl h
    ·exact .inr ⟨b,h,by rw[aas];omega⟩)
   have Be:0<C->0<R->∀u,Below wr.heap.size wr u->Calls Tryz.prog 125 #[.agg #[.int .i64 (Pm.ox k:Nat),.int .i64 (Pm.oY k:Nat),.int .i64 (Pm.j5 k:Nat),.int .i64 (Pm.mC k:Nat),.int .i64 (C:Nat),.int .i64 (R:Nat)],.pointer (some ⟨E,0,none⟩),.pointer (some ⟨bN,0,none⟩),.pointer (some ⟨bD,0,none⟩)] u fun e w'=>yZ u ⟨W,H,n,dp⟩ S (Pm.cx ⟨W,H,n,dp⟩ k) (Pm.cC ⟨W,H,n,dp⟩ k) fl B X l v e w':=fun h1 h2 u hu=>by
    have Xy:=hE2.below Ts hu;have hau:=Ts.next (v':=v) hu.size (.inl rfl)
    have:=Qy W H n dp kd true pv (Pm.cx ⟨W,H,n,dp⟩ k) E bN bD G N cap (Pm.cC ⟨W,H,n,dp⟩ k) fl B X F aO K S l v u w0 Xy.m Xy.n Xy.d Xy.s Xy.k hD (raw.below hu) len Fx hau hf hN hcap (Pm.yC _ _) (by
     have:=Pm.E6 ⟨W,H,n,dp⟩ k hlt ⟨by rw[hps.1];exact h1,by rw[hps.2];exact h2⟩
     omega) hch hn hW.2 hH.2 ⟨by show Pm.ox k<=8;omega,by show Pm.oY k<=8;omega,s4.2⟩ s3 ⟨by rw[hps.1];omega,by rw[hps.1];omega⟩ (by rw[hps.2];omega)
    rw[show LC (Pm.cx ⟨W,H,n,dp⟩ k)=.agg #[.int .i64 (Pm.ox k:Nat),.int .i64 (Pm.oY k:Nat),.int .i64 (Pm.j5 k:Nat),.int .i64 (Pm.mC k:Nat),.int .i64 ((Pm.cx ⟨W,H,n,dp⟩ k).C:Nat),.int .i64 ((Pm.cx ⟨W,H,n,dp⟩ k).R:Nat)] from rfl,hps.1,hps.2]at this;exact this
   have pq:Hid (¬(0<C/\0<R)->Pm.nA ⟨W,H,n,dp⟩ S (Pm.rY l) fl k/\Pm.cC ⟨W,H,n,dp⟩ (k+1)=Pm.cC ⟨W,H,n,dp⟩ k):=fun hno=>by
    refine⟨fun c1 c2=>?_,?_⟩
    ·rw[hps.1]at c1;rw[hps.2]at c2;exact absurd ⟨c1,c2⟩ hno
    ·rw[hps.1,hps.2,aai hno]at hon;rw[hon];rfl
   have qu:Hid (0<C/\0<R->Pm.cC ⟨W,H,n,dp⟩ (k+1)=Pm.cC ⟨W,H,n,dp⟩ k+Pm.c8 ⟨W,H,n,dp⟩ (Pm.cx ⟨W,H,n,dp⟩ k)):=fun Hw=>by
    have Fu:0<(Pm.cx ⟨W,H,n,dp⟩ k).C/\0<(Pm.cx ⟨W,H,n,dp⟩ k).R:=by rw[hps.1,hps.2];exact Hw
    rw[aaj Fu]at hon;exact hon
   have SW:Hid (_):=hkp;have Bf:Hid (_):=Be;obtain⟨c0,hc0⟩:∃c0,c0=Pm.ox k:=⟨_,rfl⟩
   obtain⟨r0,Df⟩:∃r0,r0=Pm.oY k:=⟨_,rfl⟩
   obtain⟨cs,hcs⟩:∃cs,cs=Pm.j5 k:=⟨_,rfl⟩
   obtain⟨rs,hrs⟩:∃rs,rs=Pm.mC k:=⟨_,rfl⟩
   rw[<-hc0,<-Df,<-hcs,<-hrs]at Bf hidx;rw[<-hc0,<-hcs]at pM;rw[<-Df,<-hrs]at yR;clear hps hon hE hap hr0 hk0 hD hf hN hsz raw len Fx Tr own hE2 Ts Be e1 e2 hC hR t1 t2 s1 s2 s3 s4 hkp hc0 Df hcs hrs hXw;go_wp2_with fail;refine (pM _).mono ?_;rintro e w' ⟨rfl,rfl⟩;go_wp2_with fail;refine (yR _).mono ?_;rintro e w' ⟨rfl,rfl⟩;have WW:Kp (Rw X v0) (w.alloc (.cells #[.int .i64 (W:Nat),.int .i64 (H:Nat),.int .i64 kd,.int .i64 (dp:Nat),.bool true,pv,.slice (some ⟨G,0,none⟩) N cap] 24)) (wr.alloc (.cells #[.int .i64 (c0:Nat),.int .i64 (r0:Nat),.int .i64 (cs:Nat),.int .i64 (rs:Nat),.int .i64 (C:Nat),.int .i64 (R:Nat)] 93)):=SW.out.alloc _;have bA:=ae wr (.cells #[.int .i64 (c0:Nat),.int .i64 (r0:Nat),.int .i64 (cs:Nat),.int .i64 (rs:Nat),.int .i64 (C:Nat),.int .i64 (R:Nat)] 93);have HA:Hid (_/\_):=⟨WW,bA⟩
   have L0:Hid (¬(0<C/\0<R)->gL (wr.alloc (.cells #[.int .i64 (c0:Nat),.int .i64 (r0:Nat),.int .i64 (cs:Nat),.int .i64 (rs:Nat),.int .i64 (C:Nat),.int .i64 (R:Nat)] 93)) B X l v/\l.length=Pm.cC ⟨W,H,n,dp⟩ (k+1)/\(∀y∈l,0<=y/\y<256)/\(∀q,q<k+1->Pm.nA ⟨W,H,n,dp⟩ S (Pm.rY l) fl q)/\(v.ownBlock=v0.ownBlock\/∃b,v.ownBlock=some b/\w.heap.size<b)):=fun hno=>by
    obtain⟨raw,len,Fx,Tr,own⟩:=HL.out;obtain⟨p1,p2⟩:=pq.out hno;refine⟨raw.below bA,by rw[p2];exact len,Fx,fun q hq=>?_,own⟩;rcases aba q k with h|h
    ·exact Tr q h
    ·obtain rfl:q=k:=by omega
     exact p1
   clear WW bA;by_cases d1:0<C
   ·by_cases d2:0<R
    ·have hoff:=qu.out ⟨d1,d2⟩;have HY:Hid (_):=hoff;have hcl:=Bf.out d1 d2 _ HA.out.2;clear hoff qu pq L0;go_wp2_with fail;refine hcl.mono ?_;rintro e w1 ⟨rfl,l',v',g1,g2,g3,g4,g5,g6,g7⟩
     have HDn:Hid (gL w1 B X l' v'/\l'.length=Pm.cC ⟨W,H,n,dp⟩ (k+1)/\(∀y∈l',0<=y/\y<256)/\(∀q,q<k+1->Pm.nA ⟨W,H,n,dp⟩ S (Pm.rY l') fl q)/\(v'.ownBlock=v0.ownBlock\/∃b,v'.ownBlock=some b/\w.heap.size<b)):=by
      obtain⟨raw,len,Fx,Tr,own⟩:=HL.out;refine⟨g1,by rw[HY.out];exact g2,g3,fun q hq=>?_,?_⟩
      ·rcases aba q k with h|h
       ·refine LZ (by omega) (Tr q h) g4 ?_;rw[len];have:=Pm.ux ⟨W,H,n,dp⟩ (q+1) (k-(q+1)) (by omega);rw[show q+1+(k-(q+1))=k by omega]at this;exact this
       ·obtain rfl:q=k:=by omega
        exact fun _ _=>g5
      ·rcases g6 with h|⟨b,h,hb⟩
       ·rw[h];exact own
       ·exact .inr ⟨b,h,by rw[aas]at hb;omega⟩
     have HKn:Hid (Kp (Rw X v0) (w.alloc (.cells #[.int .i64 (W:Nat),.int .i64 (H:Nat),.int .i64 kd,.int .i64 (dp:Nat),.bool true,pv,.slice (some ⟨G,0,none⟩) N cap] 24)) w1):=by
      refine HA.out.1.then g7 (fun i hi e=>?_)
      rcases e with e|e
      ·exact .inl e
      ·rcases HL.out.2.2.2.2 with h|⟨b,h,hb⟩
       ·exact .inr (by rw[<-h];exact e)
       ·rw[h]at e;have:=aaH e;rw[aas]at hi;omega
     clear g1 g2 g3 g4 g5 g6 g7 hcl HL;go_wp2
     go_roundw
     case rel=>exact⟨k+1,l',v',by omega,by go_num,HDn,HKn.out⟩
     case measure=>simp[intOf];omega
    ·have HDn:Hid (_):=L0.out (fun h=>d2 h.2);clear qu pq L0;go_wp2
     go_roundw
     case rel=>exact⟨k+1,l,v,by omega,by go_num,HDn,HA.out.1⟩
     case measure=>simp[intOf];omega
   ·have HDn:Hid (_):=L0.out (fun h=>d1 h.1);clear qu pq L0;go_wp2
    go_roundw
    case rel=>exact⟨k+1,l,v,by omega,by go_num,HDn,HA.out.1⟩
    case measure=>simp[intOf];omega
  ·have hke:k=7:=by omega
   subst hke;have HDn:Hid (_/\_):=⟨HL.out,(Kp.aF (S:=Rw X v0) HE.out.2.2.2).trans hkp⟩
   clear HL hkp;go_wp2
   go_end0
   obtain⟨⟨raw,len,Fx,Tr,own⟩,kp⟩:=HDn.out;refine⟨rfl,l,v,raw,?_,Fx,?_,?_,kp⟩
   ·rw[len];exact HRN.out.symm
   ·unfold Pm.Written;rw[aaj rfl];exact Tr
   ·rcases own with h|⟨b,h,hb⟩
    ·exact .inl h
    ·exact .inr ⟨b,h,by omega⟩
end Go.Proofs.YtmfijackgekioabGreatDoor
