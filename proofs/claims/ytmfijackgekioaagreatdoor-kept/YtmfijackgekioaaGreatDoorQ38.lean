import Derived.Test.YtmfijackgekioaaGreatDoorQ36
import Derived.Test.YtmfijackgekioaaGreatDoorQ37
import Derived.Lib.SliceRun
set_option maxHeartbeats 1000000
set_option maxRecDepth 100000
namespace Go.Proofs.YtmfijackgekioaaGreatDoor
open Go.RowKit Go.Maps
theorem wR {R:Nat}:∀(xs:List Int) (o:Nat) (w:World) (l:List Int),cq w R l->o+xs.length<=l.length->cq (w.setCells R o (cK xs)) R (l.take o++xs++l.drop (o+xs.length))/\Kp (·=R) w (w.setCells R o (cK xs))
 | [],o,w,l,h,_=>by
  refine⟨?_,Kp.refl _ _⟩;rw[List.append_nil,List.length_nil,Nat.add_zero,List.take_append_drop];exact h
 | x::r,o,w,l,h,hl=>by
  rw[List.length_cons]at hl;obtain⟨h1,h2⟩:=wR r (o+1) (w.setCell ⟨R,o,none⟩ (.int .u8 x)) (l.set o x) (h.set o x) (by rw[List.length_set];omega);refine⟨?_,((Kp.refl (·=R) w).setCell (p:=⟨R,o,none⟩) (.inl rfl) (.int .u8 x)).trans h2⟩
  have e:(l.set o x).take (o+1)++r++(l.set o x).drop (o+1+r.length)=l.take o++(x::r)++l.drop (o+(x::r).length):=by
   rw[List.take_succ_eq_append_getElem (by rw[List.length_set];omega),List.take_set_of_le (Nat.le_refl _),List.getElem_set_self,List.drop_set_of_lt (by omega),List.length_cons,show o+1+r.length=o+(r.length+1) by omega];simp only[List.append_assoc,List.cons_append,List.nil_append]
  rw[<-e];exact h1
theorem Wy (w:World):(zeroValue 5).run Tryz.prog w=.ok (.int .u8 0) w:=by kernel_rfl
theorem Ha {w:World}{R n c:Nat}{l:List Int}(h:cq w R l)(hl:l.length=n)(hn:0<n):∃v,(∀ty,(Builtin.clear_ #[107] ty #[.slice (some ⟨R,0,none⟩) n c]).run Tryz.prog w=.ok (.tuple #[]) v)/\cq v R (List.replicate n 0)/\Kp (·=R) w v:=by
 have e:cK (List.replicate n 0)=List.replicate n (.int .u8 0):=by simp[cK]
 obtain⟨h1,h2⟩:=wR (List.replicate n 0) 0 w l h (by rw[List.length_replicate];omega);refine⟨_,fun ty=>?_,?_,h2⟩
 ·rw[e];exact Lib.run_clear_slice w _ _ ty _ Tryz.underlying107 Wy rfl rfl R 0 n c hn (fun j hj=>by rw[Nat.zero_add,h.cell j (by omega)];rfl) (fun j _=>h.frozen _)
 ·rw[List.take_zero,List.nil_append,List.length_replicate,List.drop_of_length_le (by omega),List.append_nil]at h1;exact h1
theorem Og (R n dp:Nat)(w:World): Calls Tryz.prog 149 #[.slice (some ⟨R,0,none⟩) n n,.int .i64 (dp:Nat)] w fun e w'=>e=.returned (P8 (w.heap.size+2) (w.heap.size+1) w.heap.size)/\iw w' (w.heap.size+2) (w.heap.size+1) w.heap.size R dp n 0/\Below w.heap.size w w':=by
 obtain⟨k0,q0,q1,q2⟩:=jC w (.cells #[.slice (some ⟨R,0,none⟩) n n] 107) (.cells #[.int .i64 (dp:Nat)] 3) (.cells #[.int .i64 0] 3)
 go_enter Tryz.func149,Tryz.ntmps149
 go_wp2
 go_ret
 exact⟨rfl,⟨q2,q1,q0⟩,k0⟩
structure uJ (w0:World) (B X fl lead F:Nat) (aN:Array Value) (K:Nat->Prop):Prop where
 call:∀args w,(callFunc F args).run Tryz.prog w=.ok (.enter F args) w
 low:∀j,K j->j<w0.heap.size
 does:∀(u:World) (n R A:Nat) (r a l:List Int) (v:Value),(∀j,K j->u.heap[j]?=w0.heap[j]?)->(∀j,K j->v.ownBlock≠some j)->YM u B X n R A r a l v->n<=1000000->Calls Tryz.prog F (#[.slice (some ⟨R,0,none⟩) n n,.slice (some ⟨A,0,none⟩) n n]++aN) u fun e u'=>Dh fl lead n r a l B X v u e u'
structure nA (u:World) (E bN bD P0 G N cap W H n:Nat) (kd:Int) (dp:Nat) (ps:Bool) (pv dv:Value) (p:Pm.Ps):Prop where
 m:u.heap[E]?=some (.cells (aE W H kd dp ps pv (.slice (some ⟨G,0,none⟩) N cap)) 30 (0,0))
 n:bu u bN (.int .i64 (n:Nat)) 3
 d:bu u bD dv 128
 pa:u.heap[P0]?=some (.cells #[.int .i64 (p.c0:Nat),.int .i64 (p.r0:Nat),.int .i64 (p.cs:Nat),.int .i64 (p.rs:Nat),.int .i64 (p.C:Nat),.int .i64 (p.R:Nat)] 122 (0,0))
theorem nA.kept {u u':World}{E bN bD P0 G N cap W H n:Nat}{kd:Int}{dp:Nat}{ps:Bool}{pv dv:Value}{p:Pm.Ps}(h:nA u E bN bD P0 G N cap W H n kd dp ps pv dv p)(k:∀j,j=E\/j=bN\/j=bD\/j=P0->u'.heap[j]?=u.heap[j]?):nA u' E bN bD P0 G N cap W H n kd dp ps pv dv p :=
 ⟨(k _ (.inl rfl)).trans h.m,(k _ (.inr (.inl rfl))).trans h.n,(k _ (.inr (.inr (.inl rfl)))).trans h.d,(k _ (.inr (.inr (.inr rfl)))).trans h.pa⟩
theorem nA.lt {u:World}{E bN bD P0 G N cap W H n:Nat}{kd:Int}{dp:Nat}{ps:Bool}{pv dv:Value}{p:Pm.Ps}(h:nA u E bN bD P0 G N cap W H n kd dp ps pv dv p)(j:Nat)(hj:j=E\/j=bN\/j=bD\/j=P0):j<u.heap.size:=by
 rcases hj with rfl|rfl|rfl|rfl
 ·exact lt_of_block h.m
 ·exact lt_of_block h.n
 ·exact lt_of_block h.d
 ·exact lt_of_block h.pa
theorem nA.below {u u':World}{E bN bD P0 G N cap W H n:Nat}{kd:Int}{dp:Nat}{ps:Bool}{pv dv:Value}{p:Pm.Ps}(h:nA u E bN bD P0 G N cap W H n kd dp ps pv dv p)(k:Below u.heap.size u u'):nA u' E bN bD P0 G N cap W H n kd dp ps pv dv p:=h.kept (fun j hj=>k.block j (h.lt j hj))
theorem nA.kp {u u':World}{K:Nat->Prop}{E bN bD P0 G N cap W H n:Nat}{kd:Int}{dp:Nat}{ps:Bool}{pv dv:Value}{p:Pm.Ps}(h:nA u E bN bD P0 G N cap W H n kd dp ps pv dv p)(k:Kp K u u')(hk:∀j,j=E\/j=bN\/j=bD\/j=P0->¬K j):nA u' E bN bD P0 G N cap W H n kd dp ps pv dv p:=h.kept (fun j hj=>k.block j (h.lt j hj) (hk j hj))
theorem E3 {u:World}{E bN bD P0 G N cap W H n:Nat}{kd:Int}{dp:Nat}{ps:Bool}{pv dv:Value}{p:Pm.Ps}(h:nA u E bN bD P0 G N cap W H n kd dp ps pv dv p): (u.cell? ⟨E,0,none⟩=some (.int .i64 (W:Nat))/\u.cell? ⟨E,1,none⟩=some (.int .i64 (H:Nat))/\u.cell? ⟨E,2,none⟩=some (.int .i64 kd)/\u.cell? ⟨E,3,none⟩=some (.int .i64 (dp:Nat))/\u.cell? ⟨E,4,none⟩=some (.bool ps)/\u.cell? ⟨E,5,none⟩=some pv/\u.cell? ⟨E,6,none⟩=some (.slice (some ⟨G,0,none⟩) N cap)) /\ u.cell? ⟨bN,0,none⟩=some (.int .i64 (n:Nat))/\u.cell? ⟨bD,0,none⟩=some dv /\ (u.cell? ⟨P0,0,none⟩=some (.int .i64 (p.c0:Nat))/\u.cell? ⟨P0,1,none⟩=some (.int .i64 (p.r0:Nat))/\u.cell? ⟨P0,2,none⟩=some (.int .i64 (p.cs:Nat))/\u.cell? ⟨P0,3,none⟩=some (.int .i64 (p.rs:Nat))/\u.cell? ⟨P0,4,none⟩=some (.int .i64 (p.C:Nat))/\u.cell? ⟨P0,5,none⟩=some (.int .i64 (p.R:Nat))):=by
 obtain⟨a0,a1,a2,a3,a4,a5,a6⟩:=aJ h.m;obtain⟨x0,x1,x2,x3,x4,x5,_⟩:=pS h.pa;exact⟨⟨a0,a1,a2,a3,a4,a5,a6⟩,h.n.cell,h.d.cell,x0,x1,x2,x3,x4,x5⟩
structure P9 (w wr:World) (m:Pm.cZ) (S:List Int) (p:Pm.Ps) (o fl B X ra aa size j:Nat) (l0 l:List Int) (v0 v:Value):Prop where
 raw:gF wr B X l v
 len:l.length=o+j*(1+size)
 EZ:∀y∈l,0<=y/\y<256
 pre:l0 <+: l
 rows:∀i,i<j->Pm.nk m S p (Pm.rQ l) o fl i
 ab:cq wr aa (Pm.cF m S p j)
 ro:∃rl,cq wr ra rl/\rl.length=size
 kp:Kp (Rw X v0) w wr
 own:v.ownBlock=v0.ownBlock\/∃b,v.ownBlock=some b/\w.heap.size<=b
 ne:v.ownBlock≠some ra/\v.ownBlock≠some aa/\v.ownBlock≠some w.heap.size
 fresh:w.heap.size<ra/\w.heap.size<aa/\ra≠aa
theorem Oh {m:Pm.cZ}{S:List Int}{p:Pm.Ps}{o fl j:Nat}{l l':List Int}(hlen:l.length=o+j*(1+Pm.rowLen p.C m.bits))(hb:∀y∈l,0<=y/\y<256)(h:Wrote fl m.lead (Pm.rowLen p.C m.bits) (Pm.cF m S p j) (Pm.iD m S p j) l l')(hr:∀i,i<j->Pm.nk m S p (Pm.rQ l) o fl i): l'.length=o+(j+1)*(1+Pm.rowLen p.C m.bits)/\(∀y∈l',0<=y/\y<256)/\l <+: l'/\∀i,i<j+1->Pm.nk m S p (Pm.rQ l') o fl i:=by
 have hle:=h.len;obtain⟨f,h4,h5,rfl⟩:=h
 have hold:∀i,i<l.length->Pm.rQ (l++(f:Int)::cW f m.lead (Pm.aj (Pm.cF m S p j)) (Pm.aj (Pm.iD m S p j)) (Pm.rowLen p.C m.bits) (Pm.rowLen p.C m.bits)) i=Pm.rQ l i:=fun i hi=>by
  unfold Pm.rQ Pm.aj;rw[List.getD_eq_getElem?_getD,List.getD_eq_getElem?_getD,List.getElem?_append_left hi]
 have hnew:∀i,Pm.rQ (l++(f:Int)::cW f m.lead (Pm.aj (Pm.cF m S p j)) (Pm.aj (Pm.iD m S p j)) (Pm.rowLen p.C m.bits) (Pm.rowLen p.C m.bits)) (l.length+i)=Pm.rQ ((f:Int)::cW f m.lead (Pm.aj (Pm.cF m S p j)) (Pm.aj (Pm.iD m S p j)) (Pm.rowLen p.C m.bits) (Pm.rowLen p.C m.bits)) i:=fun i=>by
  unfold Pm.rQ Pm.aj;rw[List.getD_eq_getElem?_getD,List.getD_eq_getElem?_getD,List.getElem?_append_right (by omega),Nat.add_sub_cancel_left]
 have h0:Pm.rQ (l++(f:Int)::cW f m.lead (Pm.aj (Pm.cF m S p j)) (Pm.aj (Pm.iD m S p j)) (Pm.rowLen p.C m.bits) (Pm.rowLen p.C m.bits)) (o+j*(1+Pm.rowLen p.C m.bits))=f:=by
  have:=hnew 0;rw[Nat.add_zero,hlen]at this;rw[this];show ((f:Int)).toNat=f;omega
 refine⟨by rw[hle,hlen,Nat.succ_mul];omega,fun y hy=>?_,List.prefix_append _ _,fun i hi=>?_⟩
 ·rcases List.mem_append.1 hy with hy|hy
  ·exact hb y hy
  ·rcases List.mem_cons.1 hy with rfl|hy
   ·omega
   ·obtain⟨k,hk,rfl⟩:=List.mem_iff_getElem.1 hy;have:=nz f m.lead (Pm.aj (Pm.cF m S p j)) (Pm.aj (Pm.iD m S p j)) (Pm.rowLen p.C m.bits) (Pm.rowLen p.C m.bits) k;unfold Pm.aj at this;rw[List.getD_eq_getElem?_getD,List.getElem?_eq_getElem hk]at this;exact this
 ·rcases Nat.lt_or_ge i j with hij|hij
  ·refine (hr i hij).congr (fun k hk=>hold k ?_);have:(i+1)*(1+Pm.rowLen p.C m.bits)<=j*(1+Pm.rowLen p.C m.bits):=Nat.mul_le_mul_right _ hij;omega
  ·obtain rfl:i=j:=by omega
   refine⟨by rw[h0];exact h4,fun e=>by rw[h0];exact h5 e,fun k hk=>?_⟩;rw[h0];have e:=hnew (1+k);rw[<-Nat.add_assoc,hlen]at e;rw[e]
   have e2:Pm.rQ ((f:Int)::cW f m.lead (Pm.aj (Pm.cF m S p i)) (Pm.aj (Pm.iD m S p i)) (Pm.rowLen p.C m.bits) (Pm.rowLen p.C m.bits)) (1+k)=(Pm.aj (cW f m.lead (Pm.aj (Pm.cF m S p i)) (Pm.aj (Pm.iD m S p i)) (Pm.rowLen p.C m.bits) (Pm.rowLen p.C m.bits)) k).toNat:=by
    unfold Pm.rQ Pm.aj;rw[Nat.add_comm 1 k,List.getD_cons_succ]
   rw[e2,ko _ _ _ _ _ _ _ hk,if_pos hk];have:=Pm.rC f m.lead (Pm.aj (Pm.cF m S p i)) (Pm.aj (Pm.iD m S p i)) k;omega
structure rG (u w0:World) (E bN bD P0 G N cap W H n:Nat) (kd:Int) (dp:Nat) (ps:Bool) (pv dv:Value) (p:Pm.Ps) (S:List Int) (K:Nat->Prop):Prop where
 env:nA u E bN bD P0 G N cap W H n kd dp ps pv dv p
 ints:gT u G S
 held:∀j,K j->u.heap[j]?=w0.heap[j]?
theorem rG.kp {u u' w0:World}{Q:Nat->Prop}{E bN bD P0 G N cap W H n:Nat}{kd:Int}{dp:Nat}{ps:Bool}{pv dv:Value}{p:Pm.Ps}{S:List Int}{K:Nat->Prop}(h:rG u w0 E bN bD P0 G N cap W H n kd dp ps pv dv p S K)(hlow:∀j,K j->j<u.heap.size)(k:Kp Q u u')(hk:∀j,(j=E\/j=bN\/j=bD\/j=P0)\/j=G\/K j->¬Q j):rG u' w0 E bN bD P0 G N cap W H n kd dp ps pv dv p S K :=
 ⟨h.env.kp k (fun j hj=>hk j (.inl hj)),h.ints.kp k (hk G (.inr (.inl rfl))),fun j hj=>(k.block j (hlow j hj) (hk j (.inr (.inr hj)))).trans (h.held j hj)⟩
theorem rG.below {u u' w0:World}{E bN bD P0 G N cap W H n:Nat}{kd:Int}{dp:Nat}{ps:Bool}{pv dv:Value}{p:Pm.Ps}{S:List Int}{K:Nat->Prop}(h:rG u w0 E bN bD P0 G N cap W H n kd dp ps pv dv p S K)(hlow:∀j,K j->j<u.heap.size)(k:Below u.heap.size u u'):rG u' w0 E bN bD P0 G N cap W H n kd dp ps pv dv p S K :=
 h.kp hlow (Kp.aG (S:=fun _=>False) k) (fun _ _ e=>e)
structure lJ (w:World) (E bN bD G B X:Nat) (v0:Value) (K:Nat->Prop):Prop where
 lt:∀j,(j=E\/j=bN\/j=bD)\/j=G\/K j->j<w.heap.size/\j≠X/\v0.ownBlock≠some j
 low:B<=w.heap.size
def yv (w:World)(m:Pm.cZ)(S:List Int)(p:Pm.Ps)(o fl B X:Nat)(l0:List Int)(v0:Value)(e:Ending)(w':World):Prop :=
 e=.returned (.tuple #[])/\∃l v,gF w' B X l v/\l.length=o+Pm.cM m p/\(∀y∈l,0<=y/\y<256)/\l0 <+: l/\(∀i,i<p.R->Pm.nk m S p (Pm.rQ l) o fl i)/\(v.ownBlock=v0.ownBlock\/∃b,v.ownBlock=some b/\w.heap.size<=b)/\Kp (Rw X v0) w w'
theorem Qa (W H n dp:Nat)(kd:Int)(ps:Bool)(pv:Value)(p:Pm.Ps)(E bN bD G N cap o fl B X F:Nat)(aN:Array Value)(K:Nat->Prop)(S l0:List Int)(v0:Value)(w w0:World)(hm:w.heap[E]?=some (.cells (aE W H kd dp ps pv (.slice (some ⟨G,0,none⟩) N cap)) 30 (0,0)))(hbN:bu w bN (.int .i64 (n:Nat)) 3)(hbD:bu w bD (.func (.func F) #[] aN) 128)(hS:gT w G S)(hK:∀j,K j->w.heap[j]?=w0.heap[j]?)(hD:uJ w0 B X fl (Pm.cZ.lead ⟨W,H,n,dp⟩) F aN K)(hraw:gF w B X l0 v0)(hl0:l0.length=o)(hby:∀y∈l0,0<=y/\y<256)(hap:lJ w E bN bD G B X v0 K)(hf:Pm.Fits ⟨W,H,n,dp⟩ S)(hN:S.length=N)(hcap:N<=cap)(hin:p.In W H)(hol:o+Pm.cM ⟨W,H,n,dp⟩ p<=5000000)(hch:Pm.chan kd dp=(n:Int))(hn:1<=n/\n<=4)(hW:W<=5000)(hH:H<=5000)(hps:p.c0<=8/\p.r0<=8/\p.rs<=8)(hcs:1<=p.cs/\p.cs<=8)(hC:1<=p.C/\p.C<=5000)(hR:p.R<=5000): Calls Tryz.prog 147 #[KW p,.pointer (some ⟨E,0,none⟩),.pointer (some ⟨bN,0,none⟩),.pointer (some ⟨bD,0,none⟩)] w fun e w'=>yv w ⟨W,H,n,dp⟩ S p o fl B X l0 v0 e w':=by
 have hdp:=kj kd dp (by rw[hch];omega);have hcall:=hD.call;have hrb:=fun u=>uy W H kd dp ps pv (.slice (some ⟨G,0,none⟩) N cap) (p.c0:Nat) (p.r0:Nat) (p.cs:Nat) (p.rs:Nat) (p.C:Nat) (p.R:Nat) u (by omega) (by rw[hch];omega)
 have Sv:(((p.C:Nat):Int)*(Pm.chan kd dp*(dp:Int))+7)/8=((Pm.rowLen p.C (n*dp):Nat):Int):=by
  rw[hch];unfold Pm.rowLen;push_cast;rfl
 rw[Sv]at hrb;have zm:dp<=16/\1<=dp:=by rcases hdp with h|h|h|h|h<;>omega
 have hsz:Pm.rowLen p.C (n*dp)<=1000000/\0<Pm.rowLen p.C (n*dp):=by
  unfold Pm.rowLen;have h1:n*dp<=4*16:=Nat.mul_le_mul hn.2 zm.1;have h2:p.C*(n*dp)<=5000*64:=Nat.mul_le_mul hC.2 h1;have h3:1*1<=n*dp:=Nat.mul_le_mul hn.1 zm.2;have h4:1*1<=p.C*(n*dp):=Nat.mul_le_mul hC.1 (by omega);omega
 have Wn:Hid (∃size,size=Pm.rowLen p.C (n*dp)):=⟨_,rfl⟩
 obtain⟨size,hsize⟩:=Wn.out;rw[<-hsize]at hrb hsz;have sZ:Hid (size=Pm.rowLen p.C (n*dp)):=hsize;obtain⟨Z,hZ⟩:∃Z:List Value,Z=List.replicate size (.int .u8 0):=⟨_,rfl⟩
 have hmk:=fun u=>yt size (by omega) Z hZ u;have HZ:Hid (Z=cK (List.replicate size 0)):=by show _=_;rw[hZ];simp[cK]
 have k0:=ae w (.cells #[.int .i64 (p.c0:Nat),.int .i64 (p.r0:Nat),.int .i64 (p.cs:Nat),.int .i64 (p.rs:Nat),.int .i64 (p.C:Nat),.int .i64 (p.R:Nat)] 122);have q0:=ah w (.cells #[.int .i64 (p.c0:Nat),.int .i64 (p.r0:Nat),.int .i64 (p.cs:Nat),.int .i64 (p.rs:Nat),.int .i64 (p.C:Nat),.int .i64 (p.R:Nat)] 122);have z0:=aJ ((k0.block _ (lt_of_block hm)).trans hm);have K0:Hid (_/\_/\_/\_/\_/\_/\_):=⟨hm,hbN,hbD,hS,hK,hraw,q0⟩
 have tA:Hid (_/\_/\_/\_/\_/\_):=⟨hin,hol,hN,hf,hl0,hby⟩
 have HD:Hid (_):=hD;have Wz:Hid (_):=hap;clear hsize hZ Wn hm hbN hbD hS hK hraw q0 hin hol hN Sv hf hl0 hby hD hap
 go_enter Tryz.func147,Tryz.ntmps147
 go_wp2_with fail;refine (hrb _).mono ?_;rintro e w1 ⟨rfl,b1⟩;go_wp2_with fail;have yr:Below w.heap.size w w1:=k0.trans (b1.mono (by simp));have q1:=(b1.block _ (by simp)).trans K0.out.2.2.2.2.2.2;have hlt1:=lt_of_block q1;have xx:Hid (_/\_):=⟨yr,q1⟩
 clear yr q1 b1 k0 z0 hrb;apply KX (F:=fun A B u=>Below w.heap.size w u/\u.heap[w.heap.size]?=some (.cells #[.int .i64 (p.c0:Nat),.int .i64 (p.r0:Nat),.int .i64 (p.cs:Nat),.int .i64 (p.rs:Nat),.int .i64 (p.C:Nat),.int .i64 (p.R:Nat)] 122 (0,0))/\cq u A (List.replicate size 0)/\cq u B (List.replicate size 0)/\w.heap.size<A/\w.heap.size<B/\A≠B)
 ·intro rest;obtain⟨kk,y0,y1⟩:=bJ w1 (.cells Z.toArray 5) (.cells Z.toArray 5);have Ns:Hid (Below w1.heap.size w1 _/\_/\_):=⟨kk,y0,y1⟩
  clear kk y0 y1
  go_region
  ·have hF:Below w.heap.size w ((w1.alloc (.cells Z.toArray 5)).alloc (.cells Z.toArray 5)).drew/\((w1.alloc (.cells Z.toArray 5)).alloc (.cells Z.toArray 5)).drew.heap[w.heap.size]?=some (.cells #[.int .i64 (p.c0:Nat),.int .i64 (p.r0:Nat),.int .i64 (p.cs:Nat),.int .i64 (p.rs:Nat),.int .i64 (p.C:Nat),.int .i64 (p.R:Nat)] 122 (0,0))/\cq ((w1.alloc (.cells Z.toArray 5)).alloc (.cells Z.toArray 5)).drew w1.heap.size (List.replicate size 0)/\cq ((w1.alloc (.cells Z.toArray 5)).alloc (.cells Z.toArray 5)).drew (w1.heap.size+1) (List.replicate size 0)/\w.heap.size<w1.heap.size/\w.heap.size<w1.heap.size+1/\w1.heap.size≠w1.heap.size+1:=by
    obtain⟨kk,y0,y1⟩:=Ns.out;rw[HZ.out]at y0 y1 kk ⊢;exact⟨(xx.out.1.trans (kk.mono (by omega))).drew,(kk.block _ hlt1).trans xx.out.2,y0,y1,by omega,by omega,by omega⟩
   revert hF;generalize World.drew _=u;generalize w1.heap.size+1=A2;generalize w1.heap.size=A1;intro hF;have r:=rest A1 A2 u hF;exact r
  ·have hF:Below w.heap.size w ((w1.alloc (.cells Z.toArray 5)).alloc (.cells Z.toArray 5)).drew/\((w1.alloc (.cells Z.toArray 5)).alloc (.cells Z.toArray 5)).drew.heap[w.heap.size]?=some (.cells #[.int .i64 (p.c0:Nat),.int .i64 (p.r0:Nat),.int .i64 (p.cs:Nat),.int .i64 (p.rs:Nat),.int .i64 (p.C:Nat),.int .i64 (p.R:Nat)] 122 (0,0))/\cq ((w1.alloc (.cells Z.toArray 5)).alloc (.cells Z.toArray 5)).drew (w1.heap.size+1) (List.replicate size 0)/\cq ((w1.alloc (.cells Z.toArray 5)).alloc (.cells Z.toArray 5)).drew w1.heap.size (List.replicate size 0)/\w.heap.size<w1.heap.size+1/\w.heap.size<w1.heap.size/\w1.heap.size+1≠w1.heap.size:=by
    obtain⟨kk,y0,y1⟩:=Ns.out;rw[HZ.out]at y0 y1 kk ⊢;exact⟨(xx.out.1.trans (kk.mono (by omega))).drew,(kk.block _ hlt1).trans xx.out.2,y1,y0,by omega,by omega,by omega⟩
   revert hF;generalize World.drew _=u;generalize w1.heap.size+1=A2;generalize w1.heap.size=A1;intro hF;have r:=rest A2 A1 u hF;exact r
 ·intro A1 A2 u hu;clear xx hlt1 hmk HZ;obtain⟨ku,pu,u1,u2,l1,l2,YI⟩:=hu;obtain⟨x0,x1,x2,x3,x4,x5,xl⟩:=pS pu;have HKU:Hid (_/\_/\_/\_):=⟨ku,pu,u1,u2⟩
  clear ku pu u1 u2;go_wp2
  go_loopw [6,7,19] (fun rv av ix wr=>∃(j ra aa:Nat) (l:List Int) (v:Value),j<=p.R/\ix=.int .i64 j/\rv=.slice (some ⟨ra,0,none⟩) size size/\av=.slice (some ⟨aa,0,none⟩) size size/\Hid (P9 w wr ⟨W,H,n,dp⟩ S p o fl B X ra aa size j l0 l v0 v)/\Hid (rG wr w0 E bN bD w.heap.size G N cap W H n kd dp ps pv (.func (.func F) #[] aN) p S K)) (fun _ _ ix _=>p.R-(intOf ix).toNat)
  case atStart =>
   obtain⟨ku,pu,u1,u2⟩:=HKU.out;obtain⟨hm,hbN,hbD,hS,hK,hraw,_⟩:=K0.out;obtain⟨hin,hol,hN,hf,hl0,hby⟩:=tA.out;refine⟨0,A1,A2,l0,v0,Nat.zero_le _,rfl,rfl,rfl,?_,?_⟩
   ·refine⟨hraw.below ku,by rw[Nat.zero_mul,Nat.add_zero];exact hl0,hby,List.prefix_rfl,fun i hi=>absurd hi (Nat.not_lt_zero _),?_,⟨_,u1,by simp⟩,Kp.aG ku,.inl rfl,⟨fun e=>?_,fun e=>?_,fun e=>?_⟩,⟨l1,l2,YI⟩⟩
    ·show cq u A2 (List.replicate (Pm.rowLen p.C (n*dp)) 0);rw[<-sZ.out];exact u2
    ·have:=(hraw.lt _ e).2;omega
    ·have:=(hraw.lt _ e).2;omega
    ·have:=(hraw.lt _ e).2;omega
   ·exact⟨⟨(ku.block E (lt_of_block hm)).trans hm,(ku.block bN (lt_of_block hbN)).trans hbN,(ku.block bD (lt_of_block hbD)).trans hbD,pu⟩,hS.below ku,fun j hj=>(ku.block j (Wz.out.lt j (.inr (.inr hj))).1).trans (hK j hj)⟩
  case round =>
   obtain⟨j,ra,aa,l,v,hj,rfl,rfl,rfl,HI,HW⟩:=hrel;by_cases hlt:j<p.R
   ·have hlt':(j:Int)<(p.R:Int):=by omega
    obtain⟨hin,hol,hN,hf,hl0,hby⟩:=tA.out;obtain⟨rl,hBr,hrl⟩:=HI.out.ro;obtain⟨f1,f2,f3⟩:=HI.out.fresh;obtain⟨n1,n2,n3⟩:=HI.out.ne;have hkz:=HI.out.kp.size;have lK:∀i,K i->i<wr.heap.size:=fun i hi=>Nat.lt_of_lt_of_le (Wz.out.lt i (.inr (.inr hi))).1 hkz;have lA:=Wz.out.lt;have lB:=Wz.out.low
    have qK:∀i,(i=E\/i=bN\/i=bD\/i=w.heap.size)\/i=G\/K i->i<=w.heap.size/\i≠X/\v.ownBlock≠some i:=fun i hi=>by
     have lX:=lt_of_block K0.out.2.2.2.2.2.1.box;by_cases e:i=w.heap.size
     ·subst e;exact⟨Nat.le_refl _,by omega,n3⟩
     ·have:=lA i (by rcases hi with (h|h|h|h)|h;exact .inl (.inl h);exact .inl (.inr (.inl h));exact .inl (.inr (.inr h));exact absurd h e;exact .inr h);refine⟨by omega,this.2.1,?_⟩;rcases HI.out.own with h|⟨b,h,hb⟩
      ·rw[h];exact this.2.2
      ·rw[h];intro e2;have:=Option.some.inj e2;omega
    obtain⟨v1,hcl,hB1,kF⟩:=Ha (c:=size) hBr hrl hsz.2;have W1:=HW.out.kp lK kF (fun i hi=>by have:=(qK i hi).1;omega);have lX:=lt_of_block HI.out.raw.box;have lXw:=lt_of_block K0.out.2.2.2.2.2.1.box
    have GV:=HI.out.raw.kept (w':=v1) (fun i hi=>kF.block i (by rcases hi with rfl|hi;exact lX;exact (HI.out.raw.lt i hi).2) (fun e=>by
     rcases hi with rfl|hi
     ·omega
     ·rw[e]at hi;exact n1 hi))
    have ab1:cq v1 aa (Pm.cF ⟨W,H,n,dp⟩ S p j):=(kF.block aa (lt_of_block HI.out.ab) (by omega)).trans HI.out.ab;have hz1:=kF.size;have lra:=lt_of_block hB1;have laa:=lt_of_block ab1;have hfs:=fun u=>pR W H n j kd dp ps pv (.slice (some ⟨G,0,none⟩) N cap) p u hch hW (by omega) hps hn.2
    have hidx:∀k,k<p.C*n->Pm.dC p W n j+Pm.od n p.cs k<N:=fun k hk=>by
     rw[<-Pm.sD,<-hN,hf.len];exact Pm.Ps.C3 hin hlt hk
    have PF:Pm.dC p W n j<N:=by
     have:=hidx 0 (Nat.mul_pos hC.1 hn.1);omega
    have hNb:N<=100000000:=by
     rw[<-hN,hf.len];have:W*H*n<=5000*5000*4:=Nat.mul_le_mul (Nat.mul_le_mul hW hH) hn.2;exact Nat.le_trans this (by omega)
    have HV:Hid (∀k,k<p.C*n->Pm.yj S p W n j k=Pm.aj S (Pm.dC p W n j+Pm.od n p.cs k)):=fun k _=>by unfold Pm.yj;rw[Pm.sD]
    obtain⟨Fs,hFs⟩:∃Fs,Fs=Pm.dC p W n j:=⟨_,rfl⟩
    rw[<-hFs]at hfs hidx PF HV;have HIX:Hid (_):=hidx;have HX:Hid (_/\_/\_/\_/\_/\_):=⟨W1,GV,hB1,ab1,kF,qK⟩
    have Oi:Hid (_):=HI.out;have hFN:(Fs:Int)<=(N:Int):=by omega
    have aaR:N≠Fs:=by omega
    have eFN:(N:Int)-(Fs:Int)=((N-Fs:Nat):Int):=by omega
    clear W1 GV hB1 ab1 kF qK hBr hrl hidx hFs HI HW hin hol hf hl0 hby lA lB;go_wp2_with fail;have hS1:nA v1.drew E bN bD w.heap.size G N cap W H n kd dp ps pv (.func (.func F) #[] aN) p:=HX.out.1.env.kept (fun _ _=>rfl);refine ax (by kernel_rfl) (fun u=>nA u E bN bD w.heap.size G N cap W H n kd dp ps pv (.func (.func F) #[] aN) p) 99 ?_;refine ap [0,1,2,3,4] ?_
    iterate 5 (refine ay (v:=?_) (T:=?_) ?ht rfl rfl (by kernel_rfl) (fun _ _ _ h=>h) ?hy hS1 ?_;(case hy=>intro w hSw;have vn := E3 hSw; go_simp;try with_reducible rfl);case ht=>go_simp;try with_reducible rfl)
    refine ai ?_;refine af (i:=5) (by kernel_rfl) rfl (fun Kc hKc=>?_);go_simp;refine (hfs _).mono ?_;rintro e v3 ⟨rfl,b3⟩;have S3:=hS1.below b3;refine hKc _ _ (fun _=>S3) ?_;clear hKc Kc;have hFc:(Fs:Int)<=(cap:Int):=by omega
    refine ap [6,7] ?_
    iterate 2 (refine ay (v:=?_) (T:=?_) ?ht rfl rfl (by kernel_rfl) (fun _ _ _ h=>h) ?hy S3 ?_;(case hy=>intro w hSw;(try dsimp only at hSw); go_simp;try with_reducible rfl);case ht=>go_simp;try with_reducible rfl)
    refine ai ?_;refine ak (by kernel_rfl) ?_ _;have z1:v1.drew.heap.size=v1.heap.size:=rfl;have Ir:Below v1.heap.size v1 v3:=((Below.refl _ v1).drew).trans (b3.mono (by rw[z1];exact Nat.le_refl _));have lK1:∀i,K i->i<v1.heap.size:=fun i hi=>Nat.lt_of_lt_of_le (lK i hi) hz1;have W3:=HX.out.1.below lK1 Ir;have z3:=Ir.size;have lK3:∀i,K i->i<v3.heap.size:=fun i hi=>Nat.lt_of_lt_of_le (lK1 i hi) z3;have mq:=HX.out.2.1.below Ir;have Le:cq v3 ra (List.replicate size 0):=(Ir.block ra lra).trans HX.out.2.2.1;have WD:cq v3 aa (Pm.cF ⟨W,H,n,dp⟩ S p j):=(Ir.block aa laa).trans HX.out.2.2.2.1;have hpk:=Og ra size dp v3.drew;have EW:Hid (_/\_/\_/\_/\_):=⟨W3,mq,Le,WD,Ir⟩
    clear W3 mq Le WD Ir b3 S3 hS1 hfs;go_wp2_with fail;have S4:nA v3.drew E bN bD w.heap.size G N cap W H n kd dp ps pv (.func (.func F) #[] aN) p:=EW.out.1.env.kept (fun _ _=>rfl);refine ax (by kernel_rfl) (fun u=>nA u E bN bD w.heap.size G N cap W H n kd dp ps pv (.func (.func F) #[] aN) p) 99 ?_;refine ap [0,1,2,3,4,5,6,7,8] ?_
    iterate 9 (refine ay (v:=?_) (T:=?_) ?ht rfl rfl (by kernel_rfl) (fun _ _ _ h=>h) ?hy S4 ?_;(case hy=>intro w hSw;have vn := E3 hSw; go_simp;try with_reducible rfl);case ht=>go_simp;try with_reducible rfl)
    refine ai ?_;refine af (i:=9) (by kernel_rfl) rfl (fun Kc hKc=>?_);go_simp;refine hpk.mono ?_;rintro e v5 ⟨rfl,YN,b5⟩;obtain⟨W3,mq,Le,WD,Ir⟩:=EW.out;have z3d:v3.drew.heap.size=v3.heap.size:=rfl;rw[z3d]at YN;have yx:Below v3.heap.size v3 v5:=((Below.refl _ v3).drew).trans (b5.mono (by rw[z3d];exact Nat.le_refl _));have W5:=W3.below lK3 yx;have z5:=yx.size;have Lf:=mq.below yx;have WE:cq v5 ra (List.replicate size 0):=(yx.block ra (by omega)).trans Le;have WF:cq v5 aa (Pm.cF ⟨W,H,n,dp⟩ S p j):=(yx.block aa (by omega)).trans WD;have qK:=HX.out.2.2.2.2.2;have lG:=(qK G (.inr (.inl rfl))).1;have lrb:=lt_of_block YN.f;have hpi:=Oe (Pm.yj S p W n j) S n p.cs p.C dp size Fs (N-Fs) (cap-Fs) G (v3.heap.size+2) (v3.heap.size+1) v3.heap.size ra v5 YN ⟨⟨by omega,by omega,by omega,by omega,by omega⟩⟩ WE W5.ints ⟨by omega,by omega⟩ (fun k hk=>⟨HV.out k hk,by rw[hN];exact HIX.out k hk,by have:=HIX.out k hk;omega⟩) (fun k hk=>⟨tA.out.2.2.2.1.get _,by rw[sZ.out];exact Pm.yi p.C n dp k hdp hk⟩) hdp hC.2 hn hcs (by omega) hsz.1;have WG:Hid (_/\_/\_/\_):=⟨W5,Lf,WF,yx⟩
    have S5:=W5.env;have lK5:∀i,K i->i<v5.heap.size:=fun i hi=>Nat.lt_of_lt_of_le (lK3 i hi) z5;clear W3 mq Le WD Ir W5 Lf WE WF b5 yx YN hpk qK;refine hKc _ _ (fun _=>S5) ?_;clear hKc Kc;refine af (i:=10) (by kernel_rfl) rfl (fun Kc hKc=>?_);go_simp;refine hpi.mono ?_;rintro e v6 ⟨rfl,hrow,og⟩;obtain⟨W5,Lf,WF,yx⟩:=WG.out;have qK:=HX.out.2.2.2.2.2;have W6:=W5.kp lK5 og (fun i hi=>by have:=(qK i hi).1;omega)
    have WH:=Lf.kept (w':=v6) (fun i hi=>og.block i (by rcases hi with rfl|hi;omega;have:=(HX.out.2.1.lt i hi).2;omega) (fun e=>by
     rcases hi with rfl|hi
     ·omega
     ·rcases e with e|e
      ·rw[e]at hi;exact n1 hi
      ·have:=(HX.out.2.1.lt i hi).2;omega))
    have Ui:cq v6 aa (Pm.cF ⟨W,H,n,dp⟩ S p j):=(og.block aa (by omega) (by omega)).trans WF;have z6:=og.size;have lK6:∀i,K i->i<v6.heap.size:=fun i hi=>Nat.lt_of_lt_of_le (lK5 i hi) z6;have iI:Pm.rowLen p.C (Pm.cZ.bits ⟨W,H,n,dp⟩)=size:=sZ.out.symm;have Qb:Pm.bq (Pm.yj S p W n j) dp size (p.C*n)=Pm.iD ⟨W,H,n,dp⟩ S p j:=by unfold Pm.iD;rw[iI]
    rw[Qb]at hrow;have hfit:=tA.out.2.2.2.1;have gR:∀i,0<=Pm.aj (Pm.iD ⟨W,H,n,dp⟩ S p j) i/\Pm.aj (Pm.iD ⟨W,H,n,dp⟩ S p j) i<256:=Pm.ui (Pm.uw hfit p j);have gA:∀i,0<=Pm.aj (Pm.cF ⟨W,H,n,dp⟩ S p j) i/\Pm.aj (Pm.cF ⟨W,H,n,dp⟩ S p j) i<256:=Pm.ui (Pm.C4 hfit p j)
    have hll:l.length+size<=99999999:=by
     have h1:=Oi.out.len;have h2:=tA.out.2.1;have h3:Pm.cM ⟨W,H,n,dp⟩ p=p.R*(1+size):=by unfold Pm.cM;rw[iI]
     have h4:j*(1+size)<=p.R*(1+size):=Nat.mul_le_mul_right _ hj;omega
    have WI:YM v6 B X size ra aa (Pm.iD ⟨W,H,n,dp⟩ S p j) (Pm.cF ⟨W,H,n,dp⟩ S p j) l v:=⟨WH,by have:=Wz.out.low;omega,hrow,Ui,by rw[Pm.nj];exact iI,by rw[Pm.uu];exact iI,gR,gA,⟨by omega,by omega⟩,⟨n1,n2⟩,hll⟩
    have hdo:=HD.out.does v6 size ra aa _ _ l v W6.held (fun i hi=>(qK i (.inr (.inr hi))).2.2) WI hsz.1;have S6:=W6.env;have d6:=S6.d.cell;have wT:Hid (_/\_/\_/\_/\_):=⟨W6,hrow,Ui,og,yx⟩
    clear W5 Lf WF yx W6 WH Ui hrow og WI gR gA qK hpi WG Qb;refine hKc _ _ (fun _=>S6) ?_;clear hKc Kc;refine ak (by kernel_rfl) ?_ _;clear S6 S5 S4;go_wp2_with fail;refine hdo.mono ?_;rintro e v7 ⟨rfl,v',l',hwr,WJ,SI,Bq⟩;obtain⟨W6,hrow,Ui,og,yx⟩:=wT.out;have qK:=HX.out.2.2.2.2.2;have Ir:=EW.out.2.2.2.2;have kF:=HX.out.2.2.2.2.1;have WK:Wrote fl (Pm.cZ.lead ⟨W,H,n,dp⟩) (Pm.rowLen p.C (Pm.cZ.bits ⟨W,H,n,dp⟩)) (Pm.cF ⟨W,H,n,dp⟩ S p j) (Pm.iD ⟨W,H,n,dp⟩ S p j) l l':=by rw[iI];exact hwr
    obtain⟨g1,g2,g3,g4⟩:=Oh (by rw[iI];exact Oi.out.len) Oi.out.EZ WK Oi.out.rows;rw[iI]at g1;have z7:=Bq.size
    have hKp:Kp (Rw X v0) w v7:=by
     refine ((((Oi.out.kp.then kF (fun i hi e=>?_)).then (Kp.aG (S:=fun _=>False) Ir) (fun i hi e=>e.elim)).then (Kp.aG (S:=fun _=>False) yx) (fun i hi e=>e.elim)).then og (fun i hi e=>?_)).then Bq (fun i hi e=>?_)
     ·omega
     ·omega
     ·rcases e with e|e
      ·exact .inl e
      ·rcases Oi.out.own with h|⟨b,h,hb⟩
       ·exact .inr (by rw[<-h];exact e)
       ·rw[h]at e;have:=Option.some.inj e;omega
    have hown:v'.ownBlock=v0.ownBlock\/∃b,v'.ownBlock=some b/\w.heap.size<=b:=by
     rcases SI with h|⟨b,h,hb⟩
     ·rw[h];exact Oi.out.own
     ·exact .inr ⟨b,h,by omega⟩
    have hne:v'.ownBlock≠some aa/\v'.ownBlock≠some ra/\v'.ownBlock≠some w.heap.size:=by
     rcases SI with h|⟨b,h,hb⟩
     ·rw[h];exact⟨n2,n1,n3⟩
     ·rw[h];refine⟨fun e=>?_,fun e=>?_,fun e=>?_⟩<;>(have:=Option.some.inj e;omega)
    have HF:Hid (P9 w v7 ⟨W,H,n,dp⟩ S p o fl B X aa ra size (j+1) l0 l' v0 v') :=
     ⟨WJ,g1,g2,Oi.out.pre.trans g3,g4,(Bq.block ra (by omega) (fun e=>by rcases e with e|e;omega;exact n1 e)).trans hrow,⟨_,(Bq.block aa (by omega) (fun e=>by rcases e with e|e;omega;exact n2 e)).trans Ui,by rw[Pm.uu];exact iI⟩,hKp,hown,hne,⟨f2,f1,fun e=>f3 e.symm⟩⟩
    have WL:Hid (rG v7 w0 E bN bD w.heap.size G N cap W H n kd dp ps pv (.func (.func F) #[] aN) p S K):=W6.kp lK6 Bq (fun i hi e=>by
     have:=qK i hi;rcases e with e|e
     ·exact this.2.1 e
     ·exact this.2.2 e)
    clear W6 hrow Ui og yx qK Ir kF hwr WK g1 g2 g3 g4 hKp hown hne WJ SI Bq hdo HX EW wT Oi;go_wp2
    go_roundw
    case rel=>exact⟨j+1,aa,ra,l',v',by omega,by go_num,rfl,rfl,HF,WL⟩
    case measure=>simp[intOf];omega
   ·have Jc:j=p.R:=by omega
    subst Jc;have HDn:Hid (_):=HI.out;clear HI;go_wp2
    go_end0
    refine⟨rfl,l,v,HDn.out.raw,?_,HDn.out.EZ,HDn.out.pre,HDn.out.rows,HDn.out.own,HDn.out.kp⟩;rw[HDn.out.len,sZ.out];rfl
structure yy (w w0:World) (E bN bD G N cap W H n:Nat) (kd:Int) (dp:Nat) (ps:Bool) (pv:Value) (F:Nat) (aN:Array Value) (S:List Int) (K:Nat->Prop):Prop where
 m:w.heap[E]?=some (.cells (aE W H kd dp ps pv (.slice (some ⟨G,0,none⟩) N cap)) 30 (0,0))
 n:bu w bN (.int .i64 (n:Nat)) 3
 d:bu w bD (.func (.func F) #[] aN) 128
 s:gT w G S
 k:∀j,K j->w.heap[j]?=w0.heap[j]?
theorem yy.kp {w w' w0:World}{E bN bD G N cap W H n B X:Nat}{kd:Int}{dp:Nat}{ps:Bool}{pv:Value}{F:Nat}{aN:Array Value}{S:List Int}{K:Nat->Prop}{v:Value}(h:yy w w0 E bN bD G N cap W H n kd dp ps pv F aN S K)(ha:lJ w E bN bD G B X v K)(k:Kp (Rw X v) w w'):yy w' w0 E bN bD G N cap W H n kd dp ps pv F aN S K:=by
 have key:∀j,(j=E\/j=bN\/j=bD)\/j=G\/K j->¬Rw X v j:=fun j hj e=>by
  have:=ha.lt j hj;rcases e with e|e
  ·exact this.2.1 e
  ·exact this.2.2 e
 exact⟨(k.block E (lt_of_block h.m) (key E (.inl (.inl rfl)))).trans h.m,(k.block bN (lt_of_block h.n) (key bN (.inl (.inr (.inl rfl))))).trans h.n,(k.block bD (lt_of_block h.d) (key bD (.inl (.inr (.inr rfl))))).trans h.d,h.s.kp k (key G (.inr (.inl rfl))),fun j hj=>(k.block j (ha.lt j (.inr (.inr hj))).1 (key j (.inr (.inr hj)))).trans (h.k j hj)⟩
theorem yy.below {w w' w0:World}{E bN bD G N cap W H n B X:Nat}{kd:Int}{dp:Nat}{ps:Bool}{pv:Value}{F:Nat}{aN:Array Value}{S:List Int}{K:Nat->Prop}{v:Value}(h:yy w w0 E bN bD G N cap W H n kd dp ps pv F aN S K)(ha:lJ w E bN bD G B X v K)(k:Below w.heap.size w w'):yy w' w0 E bN bD G N cap W H n kd dp ps pv F aN S K:=h.kp ha (Kp.aG k)
theorem lJ.next {w w':World}{E bN bD G B X:Nat}{v v':Value}{K:Nat->Prop}(h:lJ w E bN bD G B X v K)(hz:w.heap.size<=w'.heap.size)(ho:v'.ownBlock=v.ownBlock\/∃b,v'.ownBlock=some b/\w.heap.size<=b):lJ w' E bN bD G B X v' K:=by
 refine⟨fun j hj=>?_,Nat.le_trans h.low hz⟩;obtain⟨a1,a2,a3⟩:=h.lt j hj;refine⟨Nat.lt_of_lt_of_le a1 hz,a2,?_⟩;rcases ho with e|⟨b,e,hb⟩
 ·rw[e];exact a3
 ·rw[e];intro e2;have:=Option.some.inj e2;omega
theorem Oj {l l':List Int}(h:l <+: l'){i:Nat}(hi:i<l.length):Pm.rQ l' i=Pm.rQ l i:=by
 obtain⟨r,rfl⟩:=h;unfold Pm.rQ Pm.aj;rw[List.getD_eq_getElem?_getD,List.getD_eq_getElem?_getD,List.getElem?_append_left hi]
theorem Lg {m:Pm.cZ}{S l l':List Int}{fl k:Nat}(hk:k<7)(h:Pm.np m S (Pm.rQ l) fl k)(hp:l <+: l')(hl:Pm.cj m (k+1)<=l.length):Pm.np m S (Pm.rQ l') fl k:=fun c1 c2 j hj=>by
 refine (h c1 c2 j hj).congr (fun i hi=>Oj hp ?_);have hn:=Pm.j8 m k hk;rw[if_pos ⟨c1,c2⟩]at hn;unfold Pm.cM at hn;have:(j+1)*(1+Pm.rowLen (Pm.bY m k).C m.bits)<=(Pm.bY m k).R*(1+Pm.rowLen (Pm.bY m k).C m.bits):=Nat.mul_le_mul_right _ hj;omega
def lO (w:World)(m:Pm.cZ)(S:List Int)(on:Bool)(fl B X:Nat)(v0:Value)(e:Ending)(w':World):Prop :=
 e=.returned (.tuple #[])/\∃l v,gF w' B X l v/\(l.length:Int)=Pm.raw m.W m.H m.bits on/\(∀y∈l,0<=y/\y<256)/\Pm.Written m S (Pm.rQ l) fl on/\(v.ownBlock=v0.ownBlock\/∃b,v.ownBlock=some b/\w.heap.size<=b)/\Kp (Rw X v0) w w'
theorem uK (args:Array Value)(w:World):(callFunc 147 args).run Tryz.prog w=.ok (.enter 147 args) w:=by kernel_rfl
abbrev Dj (E bN bD:Nat):Value:=.func (.func 147) #[] #[.pointer (some ⟨E,0,none⟩),.pointer (some ⟨bN,0,none⟩),.pointer (some ⟨bD,0,none⟩)]
theorem WM (W H n dp:Nat)(kd:Int)(pv:Value)(E bN bD G N cap fl B X F:Nat)(aN:Array Value)(K:Nat->Prop)(S:List Int)(v0:Value)(w w0:World)(hE:yy w w0 E bN bD G N cap W H n kd dp false pv F aN S K)(hD:uJ w0 B X fl (Pm.cZ.lead ⟨W,H,n,dp⟩) F aN K)(hraw:gF w B X [] v0)(hap:lJ w E bN bD G B X v0 K)(hf:Pm.Fits ⟨W,H,n,dp⟩ S)(hN:S.length=N)(hcap:N<=cap)(hol:Pm.raw W H (Pm.cZ.bits ⟨W,H,n,dp⟩:Nat) false<=5000000)(hch:Pm.chan kd dp=(n:Int))(hn:1<=n/\n<=4)(hW:1<=W/\W<=5000)(hH:1<=H/\H<=5000): Calls Tryz.prog 92 #[img W H kd dp false pv (.slice (some ⟨G,0,none⟩) N cap),Dj E bN bD] w fun e w'=>lO w ⟨W,H,n,dp⟩ S false fl B X v0 e w':=by
 have hcall:=uK;have hk0:=ae w (.cells #[.int .i64 (W:Nat),.int .i64 (H:Nat),.int .i64 kd,.int .i64 (dp:Nat),.bool false,pv,.slice (some ⟨G,0,none⟩) N cap] 30);have hrn:=Pm.nN ⟨W,H,n,dp⟩ false;simp only[Bool.false_eq_true,if_false]at hrn;have hE1:=hE.below hap hk0;have WN:=hap.next (v':=v0) hk0.size (.inl rfl);have hp:=Qa W H n dp kd false pv (Pm.j6 ⟨W,H,n,dp⟩) E bN bD G N cap 0 fl B X F aN K S [] v0 _ w0 hE1.m hE1.n hE1.d hE1.s hE1.k hD (hraw.below hk0) rfl (fun y hy=>absurd hy (List.not_mem_nil)) WN hf hN hcap (Pm.ur _) (by rw[hrn]at hol;omega) hch hn hW.2 hH.2 ⟨by show 0<=8;omega,by show 0<=8;omega,by show 1<=8;omega⟩ ⟨by show 1<=1;omega,by show 1<=8;omega⟩ hW hH.2
 have HO:Hid (∀e w',yv (w.alloc (.cells #[.int .i64 (W:Nat),.int .i64 (H:Nat),.int .i64 kd,.int .i64 (dp:Nat),.bool false,pv,.slice (some ⟨G,0,none⟩) N cap] 30)) ⟨W,H,n,dp⟩ S (Pm.j6 ⟨W,H,n,dp⟩) 0 fl B X [] v0 e w'->lO w ⟨W,H,n,dp⟩ S false fl B X v0 e w'):=fun e w' ⟨he,l,v,h1,h2,h3,_,h4,h5,h6⟩=>by
  refine⟨he,l,v,h1,?_,h3,?_,?_,(Kp.aG (S:=Rw X v0) hk0).trans h6⟩
  ·rw[h2,Nat.zero_add];exact hrn.symm
  ·unfold Pm.Written;rw[if_neg (by decide)];exact h4
  ·rcases h5 with h5|⟨b,h5,hb⟩
   ·exact .inl h5
   ·exact .inr ⟨b,h5,Nat.le_trans hk0.size hb⟩
 clear hE hraw hk0 hrn hol hE1 WN hap hf hN hcap hD
 go_enter Tryz.func92,Tryz.ntmps92
 go_wp2_with fail;refine hp.mono ?_;intro e w1 he;have HD:Hid (lO w ⟨W,H,n,dp⟩ S false fl B X v0 e w1):=HO.out e w1 he;obtain⟨rfl,_⟩:=he;clear hp HO;go_wp2
 go_end0
 exact HD.out
theorem SJ (W H n dp:Nat)(kd:Int)(pv:Value)(E bN bD G N cap fl B X F:Nat)(aN:Array Value)(K:Nat->Prop)(S:List Int)(v0:Value)(w w0:World)(tt:TypeId)(fr:Nat×Nat)(jl:w.heap[0]?=some (.cells cA tt fr))(hE:yy w w0 E bN bD G N cap W H n kd dp true pv F aN S K)(hD:uJ w0 B X fl (Pm.cZ.lead ⟨W,H,n,dp⟩) F aN K)(hraw:gF w B X [] v0)(hap:lJ w E bN bD G B X v0 K)(hf:Pm.Fits ⟨W,H,n,dp⟩ S)(hN:S.length=N)(hcap:N<=cap)(hol:Pm.raw W H (Pm.cZ.bits ⟨W,H,n,dp⟩:Nat) true<=5000000)(hch:Pm.chan kd dp=(n:Int))(hn:1<=n/\n<=4)(hW:1<=W/\W<=5000)(hH:1<=H/\H<=5000): Calls Tryz.prog 92 #[img W H kd dp true pv (.slice (some ⟨G,0,none⟩) N cap),Dj E bN bD] w fun e w'=>lO w ⟨W,H,n,dp⟩ S true fl B X v0 e w':=by
 have hcall:=uK;have Mi:Hid (w.heap[0]?=some (.cells cA tt fr)):=jl;have hrn:=Pm.nN ⟨W,H,n,dp⟩ true;simp only[if_true]at hrn;have HRN:Hid (_):=hrn;have hsz:Pm.cj ⟨W,H,n,dp⟩ 7<=5000000:=by rw[hrn]at hol;omega
 have hk0:=ae w (.cells #[.int .i64 (W:Nat),.int .i64 (H:Nat),.int .i64 kd,.int .i64 (dp:Nat),.bool true,pv,.slice (some ⟨G,0,none⟩) N cap] 30);have HE:Hid (_/\_/\_/\_):=⟨hE.below hap hk0,hap.next (v':=v0) hk0.size (.inl rfl),hraw.below hk0,hk0⟩
 have HFF:Hid (_/\_/\_/\_):=⟨hD,hf,hN,hsz⟩
 have BW:Hid (_):=hraw;clear jl hE hap hraw hD hf hN hsz hol hrn hk0
 go_enter Tryz.func92,Tryz.ntmps92
 go_wp2_with (refine wpList_load_row rfl 178 _ rfl 0 rfl tt cA fr _ (am Mi.out _) Tryz.underlying178 rfl uA ?_)
 go_loopw [17] (fun i wr=>∃(k:Nat) (l:List Int) (v:Value),k<=7/\i=.int .i64 k/\Hid (gF wr B X l v/\l.length=Pm.cj ⟨W,H,n,dp⟩ k/\(∀y∈l,0<=y/\y<256)/\(∀q,q<k->Pm.np ⟨W,H,n,dp⟩ S (Pm.rQ l) fl q)/\(v.ownBlock=v0.ownBlock\/∃b,v.ownBlock=some b/\w.heap.size<b))/\Kp (Rw X v0) (w.alloc (.cells #[.int .i64 (W:Nat),.int .i64 (H:Nat),.int .i64 kd,.int .i64 (dp:Nat),.bool true,pv,.slice (some ⟨G,0,none⟩) N cap] 30)) wr) (fun i _=>7-(intOf i).toNat)
 case atStart=>exact⟨0,[],v0,Nat.zero_le _,rfl,⟨HE.out.2.2.1,rfl,fun y hy=>absurd hy (List.not_mem_nil),fun q hq=>absurd hq (Nat.not_lt_zero _),.inl rfl⟩,Kp.refl _ _⟩
 case round =>
  obtain⟨k,l,v,hk,rfl,HL,hkp⟩:=hrel;by_cases hlt:k<7
  ·obtain⟨s1,s2,s3,s4⟩:=AH k;have t1:=Pm.ww k;have t2:=Pm.wx k;have hidx:=fun u=>PU k hlt u;have hsz':=hkp.size;rw[World.size_alloc]at hsz';have lX:=lt_of_block BW.out.box
   have hXw:¬Rw X v0 w.heap.size:=fun e=>by
    rcases e with e|e
    ·omega
    ·have:=(BW.out.lt _ e).2;omega
   have m0:wr.cell? ⟨w.heap.size,0,none⟩=some (.int .i64 (W:Nat)):=(hkp.cell (p:=⟨w.heap.size,0,none⟩) (by simp) hXw).trans (by simp);have m1:wr.cell? ⟨w.heap.size,1,none⟩=some (.int .i64 (H:Nat)):=(hkp.cell (p:=⟨w.heap.size,1,none⟩) (by simp) hXw).trans (by simp);have hlt2:w.heap.size<wr.heap.size:=by omega
   have e1:=Pm.qJ (Pm.oQ k) (Pm.j5 k) W t1;have e2:=Pm.qJ (Pm.o6 k) (Pm.mo k) H t2;have Yy:=kn (Pm.oQ k) (Pm.j5 k) W t1;have YL:=kn (Pm.o6 k) (Pm.mo k) H t2;have pD:=fun u=>iW (Pm.oQ k:Nat) (Pm.j5 k:Nat) (W:Nat) u (by omega) (by omega) (by omega) (by omega);have yu:=fun u=>iW (Pm.o6 k:Nat) (Pm.mo k:Nat) (H:Nat) u (by omega) (by omega) (by omega) (by omega);rw[e1]at pD;rw[e2]at yu;have hon:=Pm.j8 ⟨W,H,n,dp⟩ k hlt;have hps:((Pm.bY ⟨W,H,n,dp⟩ k).C=(W+(Pm.j5 k-1-Pm.oQ k))/Pm.j5 k)/\((Pm.bY ⟨W,H,n,dp⟩ k).R=(H+(Pm.mo k-1-Pm.o6 k))/Pm.mo k):=⟨rfl,rfl⟩
   obtain⟨C,hC⟩:∃C,C=(W+(Pm.j5 k-1-Pm.oQ k))/Pm.j5 k:=⟨_,rfl⟩
   obtain⟨R,hR⟩:∃R,R=(H+(Pm.mo k-1-Pm.o6 k))/Pm.mo k:=⟨_,rfl⟩
   rw[<-hC]at pD Yy hps;rw[<-hR]at yu YL hps;obtain⟨hE,hap,hr0,hk0⟩:=HE.out;obtain⟨hD,hf,hN,hsz⟩:=HFF.out;obtain⟨raw,len,EZ,SK,own⟩:=HL.out;have hE2:=hE.kp hap hkp
   have SL:=hap.next (v':=v) hkp.size (by
    rcases own with h|⟨b,h,hb⟩
    ·exact .inl h
    ·exact .inr ⟨b,h,by rw[World.size_alloc];omega⟩)
   have AK:0<C->0<R->∀u,Below wr.heap.size wr u->Calls Tryz.prog 147 #[.agg #[.int .i64 (Pm.oQ k:Nat),.int .i64 (Pm.o6 k:Nat),.int .i64 (Pm.j5 k:Nat),.int .i64 (Pm.mo k:Nat),.int .i64 (C:Nat),.int .i64 (R:Nat)],.pointer (some ⟨E,0,none⟩),.pointer (some ⟨bN,0,none⟩),.pointer (some ⟨bD,0,none⟩)] u fun e w'=>yv u ⟨W,H,n,dp⟩ S (Pm.bY ⟨W,H,n,dp⟩ k) (Pm.cj ⟨W,H,n,dp⟩ k) fl B X l v e w':=fun h1 h2 u hu=>by
    have WO:=hE2.below SL hu;have hau:=SL.next (v':=v) hu.size (.inl rfl)
    have:=Qa W H n dp kd true pv (Pm.bY ⟨W,H,n,dp⟩ k) E bN bD G N cap (Pm.cj ⟨W,H,n,dp⟩ k) fl B X F aN K S l v u w0 WO.m WO.n WO.d WO.s WO.k hD (raw.below hu) len EZ hau hf hN hcap (Pm.yh _ _) (by
     have:=Pm.ED ⟨W,H,n,dp⟩ k hlt ⟨by rw[hps.1];exact h1,by rw[hps.2];exact h2⟩
     omega) hch hn hW.2 hH.2 ⟨by show Pm.oQ k<=8;omega,by show Pm.o6 k<=8;omega,s4.2⟩ s3 ⟨by rw[hps.1];omega,by rw[hps.1];omega⟩ (by rw[hps.2];omega)
    rw[show KW (Pm.bY ⟨W,H,n,dp⟩ k)=.agg #[.int .i64 (Pm.oQ k:Nat),.int .i64 (Pm.o6 k:Nat),.int .i64 (Pm.j5 k:Nat),.int .i64 (Pm.mo k:Nat),.int .i64 ((Pm.bY ⟨W,H,n,dp⟩ k).C:Nat),.int .i64 ((Pm.bY ⟨W,H,n,dp⟩ k).R:Nat)] from rfl,hps.1,hps.2]at this;exact this
   have oY:Hid (¬(0<C/\0<R)->Pm.np ⟨W,H,n,dp⟩ S (Pm.rQ l) fl k/\Pm.cj ⟨W,H,n,dp⟩ (k+1)=Pm.cj ⟨W,H,n,dp⟩ k):=fun hno=>by
    refine⟨fun c1 c2=>?_,?_⟩
    ·rw[hps.1]at c1;rw[hps.2]at c2;exact absurd ⟨c1,c2⟩ hno
    ·rw[hps.1,hps.2,if_neg hno]at hon;rw[hon];rfl
   have qo:Hid (0<C/\0<R->Pm.cj ⟨W,H,n,dp⟩ (k+1)=Pm.cj ⟨W,H,n,dp⟩ k+Pm.cM ⟨W,H,n,dp⟩ (Pm.bY ⟨W,H,n,dp⟩ k)):=fun G0=>by
    have EX:0<(Pm.bY ⟨W,H,n,dp⟩ k).C/\0<(Pm.bY ⟨W,H,n,dp⟩ k).R:=by rw[hps.1,hps.2];exact G0
    rw[if_pos EX]at hon;exact hon
   have Sp:Hid (_):=hkp;have AL:Hid (_):=AK;obtain⟨c0,hc0⟩:∃c0,c0=Pm.oQ k:=⟨_,rfl⟩
   obtain⟨r0,CG⟩:∃r0,r0=Pm.o6 k:=⟨_,rfl⟩
   obtain⟨cs,hcs⟩:∃cs,cs=Pm.j5 k:=⟨_,rfl⟩
   obtain⟨rs,hrs⟩:∃rs,rs=Pm.mo k:=⟨_,rfl⟩
   rw[<-hc0,<-CG,<-hcs,<-hrs]at AL hidx;rw[<-hc0,<-hcs]at pD;rw[<-CG,<-hrs]at yu;clear hps hon hE hap hr0 hk0 hD hf hN hsz raw len EZ SK own hE2 SL AK e1 e2 hC hR t1 t2 s1 s2 s3 s4 hkp hc0 CG hcs hrs hXw;go_wp2_with fail;refine (pD _).mono ?_;rintro e w' ⟨rfl,rfl⟩;go_wp2_with fail;refine (yu _).mono ?_;rintro e w' ⟨rfl,rfl⟩;have Wu:Kp (Rw X v0) (w.alloc (.cells #[.int .i64 (W:Nat),.int .i64 (H:Nat),.int .i64 kd,.int .i64 (dp:Nat),.bool true,pv,.slice (some ⟨G,0,none⟩) N cap] 30)) (wr.alloc (.cells #[.int .i64 (c0:Nat),.int .i64 (r0:Nat),.int .i64 (cs:Nat),.int .i64 (rs:Nat),.int .i64 (C:Nat),.int .i64 (R:Nat)] 122)):=Sp.out.alloc _;have bA:=ae wr (.cells #[.int .i64 (c0:Nat),.int .i64 (r0:Nat),.int .i64 (cs:Nat),.int .i64 (rs:Nat),.int .i64 (C:Nat),.int .i64 (R:Nat)] 122);have HA:Hid (_/\_):=⟨Wu,bA⟩
   have Lh:Hid (¬(0<C/\0<R)->gF (wr.alloc (.cells #[.int .i64 (c0:Nat),.int .i64 (r0:Nat),.int .i64 (cs:Nat),.int .i64 (rs:Nat),.int .i64 (C:Nat),.int .i64 (R:Nat)] 122)) B X l v/\l.length=Pm.cj ⟨W,H,n,dp⟩ (k+1)/\(∀y∈l,0<=y/\y<256)/\(∀q,q<k+1->Pm.np ⟨W,H,n,dp⟩ S (Pm.rQ l) fl q)/\(v.ownBlock=v0.ownBlock\/∃b,v.ownBlock=some b/\w.heap.size<b)):=fun hno=>by
    obtain⟨raw,len,EZ,SK,own⟩:=HL.out;obtain⟨p1,p2⟩:=oY.out hno;refine⟨raw.below bA,by rw[p2];exact len,EZ,fun q hq=>?_,own⟩;rcases Nat.lt_or_ge q k with h|h
    ·exact SK q h
    ·obtain rfl:q=k:=by omega
     exact p1
   clear Wu bA;by_cases d1:0<C
   ·by_cases d2:0<R
    ·have hoff:=qo.out ⟨d1,d2⟩;have HY:Hid (_):=hoff;have hcl:=AL.out d1 d2 _ HA.out.2;clear hoff qo oY Lh;go_wp2_with fail;refine hcl.mono ?_;rintro e w1 ⟨rfl,l',v',g1,g2,g3,g4,g5,g6,g7⟩
     have HDn:Hid (gF w1 B X l' v'/\l'.length=Pm.cj ⟨W,H,n,dp⟩ (k+1)/\(∀y∈l',0<=y/\y<256)/\(∀q,q<k+1->Pm.np ⟨W,H,n,dp⟩ S (Pm.rQ l') fl q)/\(v'.ownBlock=v0.ownBlock\/∃b,v'.ownBlock=some b/\w.heap.size<b)):=by
      obtain⟨raw,len,EZ,SK,own⟩:=HL.out;refine⟨g1,by rw[HY.out];exact g2,g3,fun q hq=>?_,?_⟩
      ·rcases Nat.lt_or_ge q k with h|h
       ·refine Lg (by omega) (SK q h) g4 ?_;rw[len];have:=Pm.ut ⟨W,H,n,dp⟩ (q+1) (k-(q+1)) (by omega);rw[show q+1+(k-(q+1))=k by omega]at this;exact this
       ·obtain rfl:q=k:=by omega
        exact fun _ _=>g5
      ·rcases g6 with h|⟨b,h,hb⟩
       ·rw[h];exact own
       ·exact .inr ⟨b,h,by rw[World.size_alloc]at hb;omega⟩
     have HKn:Hid (Kp (Rw X v0) (w.alloc (.cells #[.int .i64 (W:Nat),.int .i64 (H:Nat),.int .i64 kd,.int .i64 (dp:Nat),.bool true,pv,.slice (some ⟨G,0,none⟩) N cap] 30)) w1):=by
      refine HA.out.1.then g7 (fun i hi e=>?_)
      rcases e with e|e
      ·exact .inl e
      ·rcases HL.out.2.2.2.2 with h|⟨b,h,hb⟩
       ·exact .inr (by rw[<-h];exact e)
       ·rw[h]at e;have:=Option.some.inj e;rw[World.size_alloc]at hi;omega
     clear g1 g2 g3 g4 g5 g6 g7 hcl HL;go_wp2
     go_roundw
     case rel=>exact⟨k+1,l',v',by omega,by go_num,HDn,HKn.out⟩
     case measure=>simp[intOf];omega
    ·have HDn:Hid (_):=Lh.out (fun h=>d2 h.2);clear qo oY Lh;go_wp2
     go_roundw
     case rel=>exact⟨k+1,l,v,by omega,by go_num,HDn,HA.out.1⟩
     case measure=>simp[intOf];omega
   ·have HDn:Hid (_):=Lh.out (fun h=>d1 h.1);clear qo oY Lh;go_wp2
    go_roundw
    case rel=>exact⟨k+1,l,v,by omega,by go_num,HDn,HA.out.1⟩
    case measure=>simp[intOf];omega
  ·have hke:k=7:=by omega
   subst hke;have HDn:Hid (_/\_):=⟨HL.out,(Kp.aG (S:=Rw X v0) HE.out.2.2.2).trans hkp⟩
   clear HL hkp;go_wp2
   go_end0
   obtain⟨⟨raw,len,EZ,SK,own⟩,kp⟩:=HDn.out;refine⟨rfl,l,v,raw,?_,EZ,?_,?_,kp⟩
   ·rw[len];exact HRN.out.symm
   ·unfold Pm.Written;rw[if_pos rfl];exact SK
   ·rcases own with h|⟨b,h,hb⟩
    ·exact .inl h
    ·exact .inr ⟨b,h,by omega⟩
end Go.Proofs.YtmfijackgekioaaGreatDoor
