import Derived.Test.YtmfijackgekioaaGreatDoorQ39
import Derived.Lib.Builder
import Derived.Lib.AppendStr
import Derived.Laws.Externs
set_option maxHeartbeats 1000000
set_option maxRecDepth 100000
namespace Go.Proofs.YtmfijackgekioaaGreatDoor
open Go.RowKit Go.Maps
theorem Tryz.infoBuilder:(Tryz.prog.info? 134).map (·.size)=some 2:=by kernel_rfl
theorem Tryz.liesBuilder:liesAt Tryz.prog Tryz.prog.depth 134 (2/Tryz.prog.cellsOf 134) 0 134 1=true:=by kernel_rfl
theorem F0 (x:Value)(u:World):(callFunc 195 #[x]).run Tryz.prog u=.ok (.value x) u:=by
 rw[run_callFunc_extern Tryz.func195 (by kernel_rfl) (by kernel_rfl) (by kernel_rfl) (e:=Extern.AbiNoEscape.same) (by kernel_rfl)];rw[Lib.run_noEscape];rfl
structure lu (w:World) (B b:Nat) (l:List UInt8) (v:Value):Prop where
 low:B<=b
 blk:∃p,w.heap[b]?=some (.cells #[p,v] 134 (0,0))/\(p=.pointer none\/p=.pointer (some ⟨b,0,none⟩))
 own:w.ownsRow B 5 1 v l.length (l.map bG)
theorem lu.lt {w:World}{B b:Nat}{l:List UInt8}{v:Value}(h:lu w B b l v):b<w.heap.size:=by
 obtain⟨p,hb,_⟩:=h.blk;exact aab hb
theorem lu.ne {w:World}{B b:Nat}{l:List UInt8}{v:Value}(h:lu w B b l v){j:Nat}{cs:Array Value}{t:TypeId}{fr:Nat×Nat}(hj:w.heap[j]?=some (.cells cs t fr))(ht:t≠5):v.ownBlock≠some j:=Lib.ownBlock_ne h.own hj ht
theorem lu.kept {w w':World}{B b:Nat}{l:List UInt8}{v:Value}(h:lu w B b l v)(k:∀j,j=b\/v.ownBlock=some j->w'.heap[j]?=w.heap[j]?):lu w' B b l v:=by
 obtain⟨p,hb,hp⟩:=h.blk;exact⟨h.low,⟨p,(k b (.inl rfl)).trans hb,hp⟩,bK h.own (fun g hg=>k g (.inr hg))⟩
theorem lu.below {w w':World}{B b:Nat}{l:List UInt8}{v:Value}(h:lu w B b l v)(k:Below w.heap.size w w'):lu w' B b l v :=
 h.kept (fun j hj=>k.block j (by rcases hj with rfl|hj;exact h.lt;exact (h.own.lt j hj).2))
theorem Cp (B b:Nat)(l:List UInt8)(v:Value)(w:World)(h:lu w B b l v): Calls Tryz.prog 150 #[.pointer (some ⟨b,0,none⟩)] w fun e w'=>e=.returned (.tuple #[])/\w'.heap[b]?=some (.cells #[.pointer (some ⟨b,0,none⟩),v] 134 (0,0))/\w'.ownsRow B 5 1 v l.length (l.map bG)/\Kp (·=b) w w':=by
 obtain⟨j,hj,hjs⟩:=acm.1 Tryz.infoBuilder;obtain⟨p,hb,rfl|rfl⟩:=h.blk
 ·have c0:w.cell? ⟨b,0,none⟩=some (.pointer none):=aan _ _ _ _ _ _ hb;have fz:=aaE w b 0 _ _ hb;have hsh:w.shape? b=some (134,2):=by simp[World.shape?,hb]
  have r1:=Lib.run_to_unsafe (P:=Tryz.prog) w ⟨b,0,none⟩ Tryz.underlying132 Tryz.underlying226 hj (by rw[hjs];decide) hsh (Nat.zero_lt_succ 1);have r2:=Lib.run_from_unsafe (P:=Tryz.prog) w ⟨b,0,none⟩ Tryz.underlying226 Tryz.underlying132 hj hsh Tryz.liesBuilder;have lb:=aab hb
  have HF:Hid ((w.setCell ⟨b,0,none⟩ (.pointer (some ⟨b,0,none⟩))).heap[b]?=some (.cells #[.pointer (some ⟨b,0,none⟩),v] 134 (0,0))/\(w.setCell ⟨b,0,none⟩ (.pointer (some ⟨b,0,none⟩))).ownsRow B 5 1 v l.length (l.map bG)/\Kp (·=b) w (w.setCell ⟨b,0,none⟩ (.pointer (some ⟨b,0,none⟩)))):=by
   refine⟨(aat w b 0 _ _ _ hb).trans rfl,bK h.own (fun g hg=>aag _ ⟨b,0,none⟩ _ g (fun e=>?_)),(Kp.refl (·=b) w).setCell (p:=⟨b,0,none⟩) (.inl rfl) _⟩;exact h.ne hb (by decide) (by rw[hg];exact abq some e)
  have hes:=F0;clear h hb
  go_enter Tryz.func150,Tryz.ntmps150
  go_wp2
  go_end0
  exact⟨rfl,HF.out⟩
 ·have c0:w.cell? ⟨b,0,none⟩=some (.pointer (some ⟨b,0,none⟩)):=aan _ _ _ _ _ _ hb;have r1:=Lib.run_neq_ptr_same (P:=Tryz.prog) w ⟨b,0,none⟩ Tryz.underlying132 hj;have HF:Hid (_/\_):=⟨hb,h.own⟩
  clear h hb
  go_enter Tryz.func150,Tryz.ntmps150
  go_wp2
  go_end0
  exact⟨rfl,HF.out.1,HF.out.2,Kp.refl _ _⟩
theorem jS (B b:Nat)(l:List UInt8)(s:ByteArray)(v:Value)(w:World)(h:lu w B b l v)(hB:B<=w.heap.size)(hz:l.length+s.size<=1000000000): Calls Tryz.prog 104 #[.pointer (some ⟨b,0,none⟩),.string s] w fun e w'=>e=.returned (.tuple #[.int .i64 s.size,.nilIface])/\∃v',lu w' B b (l++s.data.toList) v'/\Kp (Rw b v) w w'/\Below B w w':=by
 have hcc:=Cp B b l v w h;have HH:Hid (_):=h;clear h
 go_enter Tryz.func104,Tryz.ntmps104
 go_wp2_with fail;refine hcc.mono ?_;rintro e w1 ⟨rfl,hb,hown,pD⟩;obtain⟨i0,hi,hz0,hz1,hz2⟩:=aaX Tryz.infoByte;have z1:=pD.size;obtain⟨v',w2,hr,ho',hg',_⟩:=Lib.run_append_own_string (P:=Tryz.prog) w1 B 107 9 107 5 i0 Tryz.underlying107 Tryz.underlying9 hi hz0 hz1 hz2 v l.length (l.map bG) hown s (by unfold maxLen;omega) (by omega) (by omega);have hne:v.ownBlock≠some b:=Lib.ownBlock_ne hown hb (by decide);have lb:=aab hb;have hb2:w2.heap[b]?=some (.cells #[.pointer (some ⟨b,0,none⟩),v] 134 (0,0)):=(hg'.block b lb (fun e=>hne e.symm)).trans hb;have c1:w1.cell? ⟨b,1,none⟩=some v:=aan _ _ _ _ _ _ hb;have d1:w2.cell? ⟨b,1,none⟩=some v:=aan _ _ _ _ _ _ hb2;have f1:w2.frozen? ⟨b,1,none⟩=false:=aaE w2 b 1 _ _ hb2;have hne2:v'.ownBlock≠some b:=Lib.ownBlock_ne ho' hb2 (by decide)
 have HF:Hid (lu (w2.setCell ⟨b,1,none⟩ v') B b (l++s.data.toList) v'/\Kp (Rw b v) w (w2.setCell ⟨b,1,none⟩ v')/\Below B w (w2.setCell ⟨b,1,none⟩ v')):=by
  have kA:Kp (Rw b v) w (w2.setCell ⟨b,1,none⟩ v'):=by
   have k1:Kp (Rw b v) w w1:=⟨pD.os,pD.tape,pD.output,pD.size,fun k hk hs=>pD.block k hk (fun e=>hs (.inl e))⟩
   exact (Kp.grown k1 hg' (fun k hk=>.inl (.inr hk))).setCell (p:=⟨b,1,none⟩) (.inl (.inl rfl)) _
  refine⟨⟨HH.out.low,⟨_,(aat w2 b 1 _ _ v' hb2).trans rfl,.inr rfl⟩,bK ?_ (fun g hg=>aag _ ⟨b,1,none⟩ _ g (fun e=>hne2 (by rw[hg];exact abq some e)))⟩,kA,kA.below hB (fun k _ e=>?_)⟩
  ·rw[aac,abo,cy];exact ho'
  ·rcases e with e|e
   ·rw[e];exact HH.out.low
   ·exact (HH.out.own.lt k e).1
 obtain⟨ao,cp,hv⟩:∃ao cp,v=.slice ao l.length cp:=by
  rcases hown.2 with⟨rfl,h00⟩|⟨g',cap,cur,rfl,_⟩
  ·exact⟨none,0,by rw[h00]⟩
  ·exact⟨_,_,rfl⟩
 obtain⟨ao',cp',hv'⟩:∃ao cp,v'=.slice ao (l.length+s.size) cp:=by
  rcases ho'.2 with⟨rfl,h00⟩|⟨g',cap,cur,rfl,_⟩
  ·exact⟨none,0,by rw[h00]⟩
  ·exact⟨_,_,rfl⟩
 obtain⟨m0,hm0⟩:∃m0,m0=l.length:=⟨_,rfl⟩
 obtain⟨m1,hm1⟩:∃m1,m1=l.length+s.size:=⟨_,rfl⟩
 rw[<-hm0]at hv;rw[<-hm1]at hv';subst hv hv';clear hb hb2 hown ho' hg' hne hne2 pD z1 hm0 hm1 hcc HH hz;go_wp2_with (at_builtin;refine aa6 _ rfl (.tmp 12) (.tmp 13) _ _ rfl _ _ rfl rfl _ _ hr ?_);exact aal (v:=.tuple #[.int .i64 s.size,.nilIface]) (by simp[results,Tryz.results104,go_sem]) rfl ⟨rfl,_,HF.out⟩
structure jT (B b:Nat) (w w':World):Prop where
 below:Below B w w'
 typ:∀j cs t fr,w.heap[j]?=some (.cells cs t fr)->t≠5->j≠b->w'.heap[j]?=some (.cells cs t fr)
theorem jT.refl (B b:Nat)(w:World):jT B b w w:=⟨aak _ _,fun _ _ _ _ h _ _=>h⟩
theorem jT.trans {B b:Nat}{u v w:World}(h:jT B b u v)(k:jT B b v w):jT B b u w:=⟨h.below.trans k.below,fun j cs t fr hj ht hb=>k.typ j cs t fr (h.typ j cs t fr hj ht hb) ht hb⟩
theorem jT.aJ {B b:Nat}{w w':World}(k:Below w.heap.size w w')(hB:B<=w.heap.size):jT B b w w':=⟨k.mono hB,fun j _ _ _ hj _ _=>(k.block j (aab hj)).trans hj⟩
theorem jT.fW {B b:Nat}{l:List UInt8}{v:Value}{w w':World}(h:lu w B b l v)(k:Kp (Rw b v) w w')(kb:Below B w w'):jT B b w w':=⟨kb,fun j _ _ _ hj ht hb=>(k.block j (aab hj) (fun e=>by
 rcases e with e|e
 ·exact hb e
 ·exact h.ne hj ht e)).trans hj⟩
theorem jT.size {B b:Nat}{w w':World}(h:jT B b w w'):w.heap.size<=w'.heap.size:=h.below.size
theorem yd {w:World}{j:Nat}{a c:Value}{t:TypeId}(h:w.heap[j]?=some (.cells #[a,c] t (0,0))):w.cell? ⟨j,0,none⟩=some a/\w.cell? ⟨j,1,none⟩=some c:=⟨aan _ _ _ _ _ _ h,aan _ _ _ _ _ _ h⟩
theorem YT (B b:Nat)(l:List UInt8)(c:Ch)(v:Value)(w:World)(h:lu w B b l v)(hB:B<=w.heap.size)(hz:l.length+12+c.name.size+c.data.size<=900000000): Calls Tryz.prog 105 #[.agg #[.string c.name,.string c.data],.pointer (some ⟨b,0,none⟩)] w fun e w'=>e=.returned (.tuple #[])/\∃v',lu w' B b (l++(four (c.data.size:Int)++(c.name.data.toList++(c.data.data.toList++four (nK (c.name++c.data)))))) v'/\jT B b w w':=by
 have k0:=ag w (.cells #[.string c.name,.string c.data] 94);have q0:=ak w (.cells #[.string c.name,.string c.data] 94);have h0:=h.below k0;have z0:(w.alloc (.cells #[.string c.name,.string c.data] 94)).heap.size=w.heap.size+1:=by simp
 have lb:=h.lt;have hf1:=fun u=>py c.data.size u (by omega);obtain⟨cr,hcr⟩:∃cr:Nat,nK (c.name++c.data)=(cr:Int):=⟨(nK (c.name++c.data)).toNat,by have:=(oI (c.name++c.data)).1;omega⟩
 have hcb:cr<4294967296:=by have:=(oI (c.name++c.data)).2;omega
 have hcc:=fun u=>Wo (c.name++c.data) u (by unfold maxLen;rw[ByteArray.size_append];omega);have ecr:4294967295-(Mx.kZ (c.name++c.data).data.toList:Int)=(cr:Int):=hcr;rw[ecr]at hcc;have hf2:=fun u=>py cr u hcb;have aeH:(c.name.size+c.data.size:Nat)<=maxLen:=by unfold maxLen;omega
 obtain⟨x0,x1⟩:=yd q0;have HH:Hid (_/\_/\_/\_):=⟨h0,q0,k0,hcr⟩
 have hl4:∀a,(four a).length=4:=fun _=>rfl;clear h h0 q0 k0 hcr ecr
 go_enter Tryz.func105,Tryz.ntmps105
 go_wp2_with fail;refine (hf1 _).mono ?_;rintro e w1 ⟨rfl,b1⟩;obtain⟨h0,q0,k0,hcr⟩:=HH.out;have zb1:=b1.size;rw[z0]at zb1;have h1:=h0.below b1;have q1:=(b1.block w.heap.size (by omega)).trans q0;have t1:jT B b w w1:=(jT.aJ k0 hB).trans (jT.aJ b1 (by omega));have hs1:=jS B b l ⟨(four (c.data.size:Int)).toArray⟩ v w1 h1 (by omega) (by show _+4<=_;omega);have HX1:Hid (_/\_/\_):=⟨h1,q1,t1⟩
 clear h0 q0 k0 h1 q1 t1 b1 hf1 x0 x1;go_wp2_with fail;refine hs1.mono ?_;rintro e w2 ⟨rfl,v2,h2,m9,RF⟩;obtain⟨h1,q1,t1⟩:=HX1.out;have t2:=jT.fW h1 m9 RF;have q2:=t2.typ _ _ _ _ q1 (by decide) (by omega);have zb2:=t2.size;obtain⟨x0,x1⟩:=yd q2;have hs2:=jS B b _ c.name v2 w2 h2 (by omega) (by rw[aac,hl4];omega);have On:Hid (_/\_/\_):=⟨h2,q2,t1.trans t2⟩
 clear h1 q1 t1 t2 h2 q2 m9 RF hs1 HX1;go_wp2_with fail;refine hs2.mono ?_;rintro e w3 ⟨rfl,v3,h3,wO,bl3⟩;obtain⟨h2,q2,t2⟩:=On.out;have t3:=jT.fW h2 wO bl3;have q3:=t3.typ _ _ _ _ q2 (by decide) (by omega);have zb3:=t3.size;obtain⟨x0,x1⟩:=yd q3;have hs3:=jS B b _ c.data v3 w3 h3 (by omega) (by rw[aac,aac,hl4,cy];omega);have JV:Hid (_/\_/\_):=⟨h3,q3,t2.trans t3⟩
 clear h2 q2 t2 t3 h3 q3 wO bl3 hs2 On;go_wp2_with fail;refine hs3.mono ?_;rintro e w4 ⟨rfl,v4,h4,AG,bl4⟩;obtain⟨h3,q3,t3⟩:=JV.out;have t4:=jT.fW h3 AG bl4;have q4:=t4.typ _ _ _ _ q3 (by decide) (by omega);have zb4:=t4.size;obtain⟨x0,x1⟩:=yd q4;have HX4:Hid (_/\_/\_):=⟨h4,q4,t3.trans t4⟩
 clear h3 q3 t3 t4 h4 q4 AG bl4 hs3 JV;go_wp2_with fail;refine (hcc _).mono ?_;rintro e w' ⟨rfl,rfl⟩;go_wp2_with fail;refine (hf2 _).mono ?_;rintro e w5 ⟨rfl,b5⟩;obtain⟨h4,q4,t4⟩:=HX4.out;have zb5:=b5.size;have h5:=h4.below b5;have t5:jT B b w w5:=t4.trans (jT.aJ b5 (by omega));have hs5:=jS B b _ ⟨(four (cr:Int)).toArray⟩ v4 w5 h5 (by omega) (by simp only[aac,hl4,cy];show _+4<=_;omega);have UK:Hid (_/\_):=⟨h5,t5⟩
 clear h4 q4 t4 b5 h5 t5 HX4 hcc hf2 x0 x1;go_wp2_with fail;refine hs5.mono ?_;rintro e w6 ⟨rfl,v6,h6,iV,bl6⟩;obtain⟨h5,t5⟩:=UK.out;have HF:Hid (_/\_):=⟨h6,t5.trans (jT.fW h5 iV bl6)⟩
 clear h5 t5 h6 iV bl6 hs5 UK;go_wp2
 go_end0
 refine⟨rfl,v6,?_,HF.out.2⟩;have:=HF.out.1;rw[<-hcr]at this;simp only[aaq]at this;exact this
theorem Cq (W H n dp:Nat)(kd:Int)(ps:Bool)(pv:Value)(G N cap fl B X F:Nat)(aN:Array Value)(K:Nat->Prop)(S:List Int)(v0:Value)(w w0:World)(tt:TypeId)(fr:Nat×Nat)(rK:w.heap[0]?=some (.cells dL tt fr))(hS:gy w G S)(hK:∀j,K j->w.heap[j]?=w0.heap[j]?)(hD:ul w0 B X fl (Pm.cD.lead ⟨W,H,n,dp⟩) F aN K)(hraw:fO w B X [] v0)(hap:∀j,j=G\/K j->j<w.heap.size/\j≠X/\v0.ownBlock≠some j)(hB:B<=w.heap.size)(hf:Pm.Fits ⟨W,H,n,dp⟩ S)(hN:S.length=N)(hcap:N<=cap)(hol:Pm.raw W H (Pm.cD.bits ⟨W,H,n,dp⟩:Nat) ps<=5000000)(hch:Pm.chan kd dp=(n:Int))(hn:1<=n/\n<=4)(hW:1<=W/\W<=5000)(hH:1<=H/\H<=5000): Calls Tryz.prog 103 #[img W H kd dp ps pv (.slice (some ⟨G,0,none⟩) N cap),.func (.func F) #[] aN] w fun e w'=>kO w ⟨W,H,n,dp⟩ S ps fl B X v0 e w':=by
 have hcs:=fun u=>oD kd dp u;rw[hch]at hcs;obtain⟨k0,q0,q1,q2⟩:=mL w (.cells (aH W H kd dp ps pv (.slice (some ⟨G,0,none⟩) N cap)) 30) (.cells #[.func (.func F) #[] aN] 128) (.cells #[.int .i64 (n:Nat)] 3);have lX:=aab hraw.box;have hE:xY _ w0 w.heap.size (w.heap.size+2) (w.heap.size+1) G N cap W H n kd dp ps pv F aN S K:=⟨q0,q2,q1,hS.below k0,fun j hj=>(k0.block j (hap j (.inr hj)).1).trans (hK j hj)⟩
 have hA:kN (((w.alloc (.cells (aH W H kd dp ps pv (.slice (some ⟨G,0,none⟩) N cap)) 30)).alloc (.cells #[.func (.func F) #[] aN] 128)).alloc (.cells #[.int .i64 (n:Nat)] 3)) w.heap.size (w.heap.size+2) (w.heap.size+1) G B X v0 K:=by
  refine⟨fun j hj=>?_,aaz hB k0.size⟩;have hz:(((w.alloc (.cells (aH W H kd dp ps pv (.slice (some ⟨G,0,none⟩) N cap)) 30)).alloc (.cells #[.func (.func F) #[] aN] 128)).alloc (.cells #[.int .i64 (n:Nat)] 3)).heap.size=w.heap.size+3:=by simp
  rw[hz];rcases hj with hj|hj
  ·refine⟨by omega,by omega,fun e=>?_⟩;have:=(hraw.lt _ e).2;omega
  ·obtain⟨a1,a2,a3⟩:=hap j hj;exact⟨by omega,a2,a3⟩
 have J9:Calls Tryz.prog 92 #[img W H kd dp ps pv (.slice (some ⟨G,0,none⟩) N cap),Cm w.heap.size (w.heap.size+2) (w.heap.size+1)] (((w.alloc (.cells (aH W H kd dp ps pv (.slice (some ⟨G,0,none⟩) N cap)) 30)).alloc (.cells #[.func (.func F) #[] aN] 128)).alloc (.cells #[.int .i64 (n:Nat)] 3)) fun e w'=>kO (((w.alloc (.cells (aH W H kd dp ps pv (.slice (some ⟨G,0,none⟩) N cap)) 30)).alloc (.cells #[.func (.func F) #[] aN] 128)).alloc (.cells #[.int .i64 (n:Nat)] 3)) ⟨W,H,n,dp⟩ S ps fl B X v0 e w':=by
  cases ps with
  | false=>exact UR W H n dp kd pv w.heap.size (w.heap.size+2) (w.heap.size+1) G N cap fl B X F aN K S v0 _ w0 hE hD (hraw.below k0) hA hf hN hcap hol hch hn hW hH
  | true=>exact Qv W H n dp kd pv w.heap.size (w.heap.size+2) (w.heap.size+1) G N cap fl B X F aN K S v0 _ w0 tt fr ((k0.block _ (aab rK)).trans rK) hE hD (hraw.below k0) hA hf hN hcap hol hch hn hW hH
 obtain⟨x0,x1,x2,x3,x4,x5,x6⟩:=aI q0
 have HO:Hid (∀e w',kO (((w.alloc (.cells (aH W H kd dp ps pv (.slice (some ⟨G,0,none⟩) N cap)) 30)).alloc (.cells #[.func (.func F) #[] aN] 128)).alloc (.cells #[.int .i64 (n:Nat)] 3)) ⟨W,H,n,dp⟩ S ps fl B X v0 e w'->kO w ⟨W,H,n,dp⟩ S ps fl B X v0 e w'):=fun e w' ⟨he,l,v,h1,h2,h3,h4,h5,h6⟩=>by
  refine⟨he,l,v,h1,h2,h3,h4,?_,(Kp.aJ (S:=Rw X v0) k0).trans h6⟩;rcases h5 with h5|⟨b,h5,hb⟩
  ·exact .inl h5
  ·exact .inr ⟨b,h5,aaz k0.size hb⟩
 clear hE hA hS hK hD hraw hap hf hN hol rK q0 q1 q2 k0 hcap
 go_enter Tryz.func103,Tryz.ntmps103
 go_wp2_with fail;refine (hcs _).mono ?_;rintro e w' ⟨rfl,rfl⟩;go_wp2_with fail;refine J9.mono ?_;intro e w1 he;have HDn:Hid (kO w ⟨W,H,n,dp⟩ S ps fl B X v0 e w1):=HO.out e w1 he;obtain⟨rfl,_⟩:=he;clear J9 HO;go_wp2
 go_end0
 exact HDn.out
theorem Ka (args:Array Value)(w:World):(callFunc 142 args).run Tryz.prog w=.ok (.enter 142 args) w:=by kernel_rfl
theorem Kb (args:Array Value)(w:World):(callFunc 145 args).run Tryz.prog w=.ok (.enter 145 args) w:=by kernel_rfl
theorem F3 (fl lead B X:Nat)(w:World)(hfl:fl<=5)(hld:1<=lead/\lead<=8)(hX:X<w.heap.size): Calls Tryz.prog 100 #[.int .i64 (fl:Nat),.int .i64 (lead:Nat),gU X] w fun e w'=>∃F aN K,e=.returned (.func (.func F) #[] aN)/\ul w' B X fl lead F aN K/\(∀j,K j->w.heap.size<=j)/\Below w.heap.size w w':=by
 by_cases h5:fl=5
 ·subst h5;obtain⟨k0,q0,q1,q2⟩:=mL w (.cells #[.int .i64 5] 3) (.cells #[.int .i64 (lead:Nat)] 3) (.cells #[gU X] 130)
  have HD:Hid (ul (((w.alloc (.cells #[.int .i64 5] 3)).alloc (.cells #[.int .i64 (lead:Nat)] 3)).alloc (.cells #[gU X] 130)) B X 5 lead 142 #[.pointer (some ⟨w.heap.size+2,0,none⟩),.pointer (some ⟨w.heap.size+1,0,none⟩)] (fun j=>j=w.heap.size+1\/j=w.heap.size+2)):=by
   refine⟨Ka,fun j hj=>?_,fun u n R A r a l v hu hv hin hn=>?_⟩
   ·have hz:(((w.alloc (.cells #[.int .i64 5] 3)).alloc (.cells #[.int .i64 (lead:Nat)] 3)).alloc (.cells #[gU X] 130)).heap.size=w.heap.size+3:=by simp
    rw[hz];omega
   ·exact MN lead n B X R A (w.heap.size+2) (w.heap.size+1) r a l v u hin ((hu _ (.inr rfl)).trans q2) ((hu _ (.inl rfl)).trans q1) ⟨by omega,by omega⟩ ⟨hv _ (.inr rfl),hv _ (.inl rfl)⟩ hld hn
  have HK:Hid (_):=k0;clear k0 q0 q1 q2
  go_enter Tryz.func100,Tryz.ntmps100
  go_wp2
  go_ret
  exact⟨_,_,_,rfl,HD.out,fun j hj=>by omega,HK.out⟩
 ·have YU:fl<=4:=by omega
  have htk:=fun u=>zR fl u;have h5':((fl:Int)==5)=false:=by rw[aam];omega
  have wF:IntKind.u8.wrap (fl:Int)=(fl:Int):=by rw[abT];omega
  obtain⟨k0,q0,q1,q2,q3⟩:=sf w (.cells #[.int .i64 (fl:Nat)] 3) (.cells #[.int .i64 (lead:Nat)] 3) (.cells #[gU X] 130) (.cells #[.func (.func (gZ fl)) #[] #[]] 193)
  have HD:Hid (ul ((((w.alloc (.cells #[.int .i64 (fl:Nat)] 3)).alloc (.cells #[.int .i64 (lead:Nat)] 3)).alloc (.cells #[gU X] 130)).alloc (.cells #[.func (.func (gZ fl)) #[] #[]] 193)) B X fl lead 145 #[.pointer (some ⟨w.heap.size+2,0,none⟩),.pointer (some ⟨w.heap.size,0,none⟩),.pointer (some ⟨w.heap.size+1,0,none⟩),.pointer (some ⟨w.heap.size+3,0,none⟩)] (fun j=>j=w.heap.size\/j=w.heap.size+1\/j=w.heap.size+2\/j=w.heap.size+3)):=by
   refine⟨Kb,fun j hj=>?_,fun u n R A r a l v hu hv hin hn=>?_⟩
   ·have hz:((((w.alloc (.cells #[.int .i64 (fl:Nat)] 3)).alloc (.cells #[.int .i64 (lead:Nat)] 3)).alloc (.cells #[gU X] 130)).alloc (.cells #[.func (.func (gZ fl)) #[] #[]] 193)).heap.size=w.heap.size+4:=by simp
    rw[hz];omega
   ·exact ML fl lead n B X R A (w.heap.size+2) w.heap.size (w.heap.size+1) (w.heap.size+3) r a l v u hin ((hu _ (.inr (.inr (.inl rfl)))).trans q2) ((hu _ (.inl rfl)).trans q0) ((hu _ (.inr (.inl rfl))).trans q1) ((hu _ (.inr (.inr (.inr rfl)))).trans q3) ⟨by omega,by omega,by omega,by omega⟩ ⟨hv _ (.inr (.inr (.inl rfl))),hv _ (.inl rfl),hv _ (.inr (.inl rfl)),hv _ (.inr (.inr (.inr rfl)))⟩ YU hld hn
  have HK:Hid (_):=k0;clear k0 q0 q1 q2 q3
  go_enter Tryz.func100,Tryz.ntmps100
  go_wp2_with fail;refine (htk _).mono ?_;intro e w' he;cases he with
  | no h4=>omega
  | ok h4 =>
   go_wp2
   go_ret
   exact⟨_,_,_,rfl,HD.out,fun j hj=>by omega,HK.out⟩
theorem F4 (n:Nat)(hn:n<=100000000)(Z:List Value)(hZ:Z=List.replicate n (.int .u8 0))(u:World): (Instr.makeSlice 107 (.int .i64 0) (.int .i64 (n:Int))).run Tryz.prog u=.ok (.slice (some ⟨u.heap.size,0,none⟩) 0 n) (u.alloc (.cells Z.toArray 5)):=by
 obtain⟨i0,hi,hz0,hz1,hz2⟩:=aaX Tryz.infoByte;have h:=run_make (P:=Tryz.prog) u 107 5 i0 (.int .u8 0) Tryz.underlying107 hi hz0 .i64 .i64 0 (n:Int) (by omega) (by omega) (by rw[hz2];omega) (by omega);have e2:(madeCells #[Value.int .u8 0] n)=Z.toArray:=by rw[hZ,<-ab7]
 simpa[hz1,Value.cells,e2]using h
def bytesOf (l:List Int):ByteArray:=⟨(l.map fun y=>UInt8.ofNat y.toNat).toArray⟩
theorem pE {l:List Int}(h:∀y∈l,0<=y/\y<256):dC l=(l.map fun y=>UInt8.ofNat y.toNat).map bG:=by
 rw[List.map_map];refine abn fun y hy=>?_;have:=h y hy;show Value.int .u8 y=.int .u8 ((UInt8.ofNat y.toNat).toNat:Int);rw[ui this.1 this.2]
theorem Cr {l:List Int}(h:∀y∈l,0<=y/\y<256):ae (bytesOf l)=Pm.rm l:=by
 funext i
 unfold ae bytesOf Pm.rm Pm.ap;rw[aaa,aaa,abk];rcases aaL i l.length with hi|hi
 ·rw[aai hi];have:=h _ (aaR hi);have e:=ui this.1 this.2;show (UInt8.ofNat (l[i]).toNat).toNat=(l[i]).toNat;omega
 ·rw[aas hi];rfl
theorem ye (l:List Int):(bytesOf l).size=l.length:=by rw[<-cy];simp[bytesOf]
theorem QG (W H n dp fl:Nat)(kd:Int)(ps:Bool)(pv:Value)(G N cap:Nat)(S:List Int)(w:World)(tt:TypeId)(fr:Nat×Nat)(rK:w.heap[0]?=some (.cells dL tt fr))(hS:gy w G S)(hf:Pm.Fits ⟨W,H,n,dp⟩ S)(hN:S.length=N)(hcap:N<=cap)(hol:Pm.raw W H ((n*dp:Nat):Int) ps<=5000000)(hfl:fl<=5)(hch:Pm.chan kd dp=(n:Int))(hn:1<=n/\n<=4)(hW:1<=W/\W<=5000)(hH:1<=H/\H<=5000): Calls Tryz.prog 62 #[img W H kd dp ps pv (.slice (some ⟨G,0,none⟩) N cap),.int .i64 (fl:Nat)] w fun e w'=>∃T,e=.returned (.string T)/\(T.size:Int)=Pm.raw W H ((n*dp:Nat):Int) ps/\Pm.Written ⟨W,H,n,dp⟩ S (ae T) fl ps/\Below w.heap.size w w':=by
 have hdp:=nD kd dp (by rw[hch];omega);have Oo:=Pm.rF ⟨W,H,n,dp⟩ ps;obtain⟨M,hM⟩:∃M:Nat,Pm.raw W H ((n*dp:Nat):Int) ps=(M:Int):=⟨_,Oo⟩
 have Sn:M<=5000000:=by rw[hM]at hol;omega
 have eb:Pm.chan kd dp*(dp:Int)=((n*dp:Nat):Int):=by rw[hch];push_cast;rfl
 have hk0:=ag w (.cells (aH W H kd dp ps pv (.slice (some ⟨G,0,none⟩) N cap)) 30);have hrs:=NY W H kd dp ps pv (.slice (some ⟨G,0,none⟩) N cap) (w.alloc (.cells (aH W H kd dp ps pv (.slice (some ⟨G,0,none⟩) N cap)) 30)) tt fr ((hk0.block _ (aab rK)).trans rK) (by omega) (by omega) (by rw[hch];omega);rw[eb,hM]at hrs;have hld:=fun u=>TY W H n dp kd ps pv (.slice (some ⟨G,0,none⟩) N cap) u hch hn.1;have hlr:=t7 W H n dp hn hdp;obtain⟨Z,hZ⟩:∃Z:List Value,Z=List.replicate M (.int .u8 0):=⟨_,rfl⟩
 have hmk:=fun u=>F4 M (by omega) Z hZ u;have HZ:Hid (Z.length=M):=by show _=_;rw[hZ,abh]
 have q0:=ak w (.cells (aH W H kd dp ps pv (.slice (some ⟨G,0,none⟩) N cap)) 30);have HH:Hid (_/\_/\_/\_/\_/\_/\_):=⟨rK,hS,hf,hN,hM,q0,hk0⟩
 obtain⟨x0,x1,x2,x3,x4,x5,x6⟩:=aI q0;clear rK hS hf hN hol hM Oo eb hZ q0 hk0
 go_enter Tryz.func62,Tryz.ntmps62
 go_wp2_with fail;refine hrs.mono ?_;rintro e w1 ⟨rfl,b1⟩;obtain⟨rK,hS,hf,hN,hM,q0,hk0⟩:=HH.out;have z0:(w.alloc (.cells (aH W H kd dp ps pv (.slice (some ⟨G,0,none⟩) N cap)) 30)).heap.size=w.heap.size+1:=by simp
 have zb:=b1.size;rw[z0]at zb;have Jz:Below w.heap.size w w1:=hk0.trans (b1.mono (by omega));obtain⟨k2,g0,g1⟩:=bO w1 (.cells Z.toArray 5) (.cells #[.slice (some ⟨w1.heap.size,0,none⟩) 0 M] 107);have e0:=(k2.block w.heap.size (by omega)).trans ((b1.block w.heap.size (by omega)).trans q0);obtain⟨y0,y1,y2,y3,y4,y5,y6⟩:=aI e0;have z2:((w1.alloc (.cells Z.toArray 5)).alloc (.cells #[.slice (some ⟨w1.heap.size,0,none⟩) 0 M] 107)).heap.size=w1.heap.size+2:=by simp
 have Kd:fO ((w1.alloc (.cells Z.toArray 5)).alloc (.cells #[.slice (some ⟨w1.heap.size,0,none⟩) 0 M] 107)) w.heap.size (w1.heap.size+1) [] (.slice (some ⟨w1.heap.size,0,none⟩) 0 M):=by
  refine⟨g1,⟨rfl,.inr ⟨w1.heap.size,M,_,rfl,by omega,g0,aaj _,by unfold maxLen;omega,?_,?_⟩⟩,fun e=>?_⟩
  ·rw[List.size_toArray,HZ.out,Nat.mul_one]
  ·simp[dC]
  ·have:w1.heap.size=_:=aay e;omega
 have U5:Below w.heap.size w ((w1.alloc (.cells Z.toArray 5)).alloc (.cells #[.slice (some ⟨w1.heap.size,0,none⟩) 0 M] 107)):=Jz.trans (k2.mono (by omega));have HH2:Hid (_/\_/\_):=⟨e0,Kd,U5⟩
 clear rK hS hf hN hM q0 hk0 Jz k2 g0 g1 e0 Kd U5 b1 hrs x0 x1 x2 x3 x4 x5 x6;go_wp2_with fail;refine (hld _).mono ?_;rintro e w3 ⟨rfl,b3⟩;obtain⟨e0,Kd,U5⟩:=HH2.out;have zb3:=b3.size;rw[z2]at zb3;have e3:=(b3.block w.heap.size (by rw[z2];omega)).trans e0;have um:=Kd.below b3;have U6:=U5.trans (b3.mono (by rw[z2];omega));have hwo:=F3 fl (Pm.cD.lead ⟨W,H,n,dp⟩) w.heap.size (w1.heap.size+1) w3 hfl hlr (by omega);obtain⟨y0,y1,y2,y3,y4,y5,y6⟩:=aI e3;have HH3:Hid (_/\_/\_):=⟨e3,um,U6⟩
 clear e0 Kd U5 HH2 e3 um U6 b3 hld z2;go_wp2_with fail;refine hwo.mono ?_;rintro e w4 ⟨F,aN,K,rfl,hD,hK,b4⟩;obtain⟨e3,um,U6⟩:=HH3.out;obtain⟨rK,hS,hf,hN,hM,q0,hk0⟩:=HH.out;have zb4:=b4.size;have e4:=(b4.block w.heap.size (by omega)).trans e3;have U7:=um.below b4;have Wa:=U6.trans (b4.mono (by omega));have lG:=hS.lt
 have J9:=Cq W H n dp kd ps pv G N cap fl w.heap.size (w1.heap.size+1) F aN K S (.slice (some ⟨w1.heap.size,0,none⟩) 0 M) w4 w4 tt fr ((Wa.block _ (aab rK)).trans rK) (hS.below Wa) (fun _ _=>rfl) hD U7 (fun j hj=>by
  rcases hj with rfl|hj
  ·refine⟨by omega,by omega,fun e=>?_⟩;have:w1.heap.size=_:=aay e;omega
  ·have h1:=hK j hj;refine⟨hD.low j hj,by omega,fun e=>?_⟩;have:w1.heap.size=_:=aay e
   omega) (by omega) hf hN hcap (by show Pm.raw W H ((n*dp:Nat):Int) ps<=5000000;rw[hM];omega) hch hn hW hH
 obtain⟨y0,y1,y2,y3,y4,y5,y6⟩:=aI e4;have HM:Hid (Pm.raw W H ((n*dp:Nat):Int) ps=(M:Int)):=hM;have HH4:Hid (_):=Wa;clear e3 um U6 HH3 rK hS hf hN hM q0 hk0 HH e4 U7 Wa b4 hD hwo;go_wp2_with fail;refine J9.mono ?_;rintro e w5 ⟨rfl,l,v,g1,g2,g3,g4,g5,g6⟩
 have hst:(convert 107 9 v).run Tryz.prog w5=.ok (.string (bytesOf l)) w5:=by
  have ho:=g1.own;rw[pE g3]at ho;exact dI ho (by rw[abE])
 have c5:=g1.box.cell
 have HF:Hid (((bytesOf l).size:Int)=Pm.raw W H ((n*dp:Nat):Int) ps/\Pm.Written ⟨W,H,n,dp⟩ S (ae (bytesOf l)) fl ps/\Below w.heap.size w w5):=by
  refine⟨by rw[ye];exact g2,by rw[Cr g3];exact g4,HH4.out.trans (g6.below (by omega) (fun k _ e=>?_))⟩;rcases e with e|e
  ·omega
  ·have:w1.heap.size=_:=aay e;omega
 clear g1 g2 g3 g4 g5 g6 J9 HH4;generalize bytesOf l=T at *;go_wp2
 go_ret
 exact⟨T,rfl,HF.out⟩
end Go.Proofs.YtmfijackgekioaaGreatDoor
