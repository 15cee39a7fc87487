import Derived.Test.YtmfijackgekioabGreatDoorQ32
import Derived.Test.YtmfijackgekioabGreatDoorQ37
import Derived.Lib.Builder
import Derived.Lib.AppendStr
import Derived.Laws.Externs
set_option maxHeartbeats 1000000
set_option maxRecDepth 100000
namespace Go.Proofs.YtmfijackgekioabGreatDoor
open Go.RowKit Go.Maps
theorem Tryz.infoBuilder:(Tryz.prog.info? 132).map (·.size)=some 2:=by kernel_rfl
theorem Tryz.liesBuilder:liesAt Tryz.prog Tryz.prog.depth 132 (2/Tryz.prog.cellsOf 132) 0 132 1=true:=by kernel_rfl
theorem Im (x:Value)(u:World):(callFunc 154 #[x]).run Tryz.prog u=.ok (.value x) u:=by
 rw[run_callFunc_extern Tryz.func154 (by kernel_rfl) (by kernel_rfl) (by kernel_rfl) (e:=Extern.AbiNoEscape.same) (by kernel_rfl)];rw[Lib.run_noEscape];rfl
structure mG (w:World) (B b:Nat) (l:List UInt8) (v:Value):Prop where
 low:B<=b
 blk:∃p,w.heap[b]?=some (.cells #[p,v] 132 (0,0))/\(p=.pointer none\/p=.pointer (some ⟨b,0,none⟩))
 own:w.ownsRow B 5 1 v l.length (l.map cm)
theorem mG.lt {w:World}{B b:Nat}{l:List UInt8}{v:Value}(h:mG w B b l v):b<w.heap.size:=by
 obtain⟨p,hb,_⟩:=h.blk;exact aaa hb
theorem mG.ne {w:World}{B b:Nat}{l:List UInt8}{v:Value}(h:mG w B b l v){j:Nat}{cs:Array Value}{t:TypeId}{fr:Nat×Nat}(hj:w.heap[j]?=some (.cells cs t fr))(ht:t≠5):v.ownBlock≠some j:=Lib.ownBlock_ne h.own hj ht
theorem mG.kept {w w':World}{B b:Nat}{l:List UInt8}{v:Value}(h:mG w B b l v)(k:∀j,j=b\/v.ownBlock=some j->w'.heap[j]?=w.heap[j]?):mG w' B b l v:=by
 obtain⟨p,hb,hp⟩:=h.blk;exact⟨h.low,⟨p,(k b (.inl rfl)).trans hb,hp⟩,aJ h.own (fun g hg=>k g (.inr hg))⟩
theorem mG.below {w w':World}{B b:Nat}{l:List UInt8}{v:Value}(h:mG w B b l v)(k:Below w.heap.size w w'):mG w' B b l v :=
 h.kept (fun j hj=>k.block j (by rcases hj with rfl|hj;exact h.lt;exact (h.own.lt j hj).2))
theorem D8 (B b:Nat)(l:List UInt8)(v:Value)(w:World)(h:mG w B b l v): Calls Tryz.prog 128 #[.pointer (some ⟨b,0,none⟩)] w fun e w'=>e=.returned (.tuple #[])/\w'.heap[b]?=some (.cells #[.pointer (some ⟨b,0,none⟩),v] 132 (0,0))/\w'.ownsRow B 5 1 v l.length (l.map cm)/\Kp (·=b) w w':=by
 obtain⟨j,hj,hjs⟩:=Option.map_eq_some_iff.1 Tryz.infoBuilder;obtain⟨p,hb,rfl|rfl⟩:=h.blk
 ·have c0:w.cell? ⟨b,0,none⟩=some (.pointer none):=aat _ _ _ _ _ _ hb;have fz:=aaI w b 0 _ _ hb;have hsh:w.shape? b=some (132,2):=by simp[World.shape?,hb]
  have r1:=Lib.run_to_unsafe (P:=Tryz.prog) w ⟨b,0,none⟩ Tryz.underlying130 Tryz.underlying195 hj (by rw[hjs];decide) hsh (Nat.zero_lt_succ 1);have r2:=Lib.run_from_unsafe (P:=Tryz.prog) w ⟨b,0,none⟩ Tryz.underlying195 Tryz.underlying130 hj hsh Tryz.liesBuilder;have lb:=aaa hb
  have HF:Hid ((w.setCell ⟨b,0,none⟩ (.pointer (some ⟨b,0,none⟩))).heap[b]?=some (.cells #[.pointer (some ⟨b,0,none⟩),v] 132 (0,0))/\(w.setCell ⟨b,0,none⟩ (.pointer (some ⟨b,0,none⟩))).ownsRow B 5 1 v l.length (l.map cm)/\Kp (·=b) w (w.setCell ⟨b,0,none⟩ (.pointer (some ⟨b,0,none⟩)))):=by
   refine⟨(aau w b 0 _ _ _ hb).trans rfl,aJ h.own (fun g hg=>aak _ ⟨b,0,none⟩ _ g (fun e=>?_)),(Kp.refl (·=b) w).setCell (p:=⟨b,0,none⟩) (.inl rfl) _⟩;exact h.ne hb (by decide) (by rw[hg];exact abV some e)
  have hes:=Im;clear h hb
  go_enter Tryz.func128,Tryz.ntmps128
  go_wp2
  go_end0
  exact⟨rfl,HF.out⟩
 ·have c0:w.cell? ⟨b,0,none⟩=some (.pointer (some ⟨b,0,none⟩)):=aat _ _ _ _ _ _ hb;have r1:=Lib.run_neq_ptr_same (P:=Tryz.prog) w ⟨b,0,none⟩ Tryz.underlying130 hj;have HF:Hid (_/\_):=⟨hb,h.own⟩
  clear h hb
  go_enter Tryz.func128,Tryz.ntmps128
  go_wp2
  go_end0
  exact⟨rfl,HF.out.1,HF.out.2,Kp.refl _ _⟩
theorem kJ (B b:Nat)(l:List UInt8)(s:ByteArray)(v:Value)(w:World)(h:mG w B b l v)(hB:B<=w.heap.size)(hz:l.length+s.size<=1000000000): Calls Tryz.prog 85 #[.pointer (some ⟨b,0,none⟩),.string s] w fun e w'=>e=.returned (.tuple #[.int .i64 s.size,.nilIface])/\∃v',mG w' B b (l++s.data.toList) v'/\Kp (Rw b v) w w'/\Below B w w':=by
 have hcc:=D8 B b l v w h;have HH:Hid (_):=h;clear h
 go_enter Tryz.func85,Tryz.ntmps85
 go_wp2_with fail;refine hcc.mono ?_;rintro e w1 ⟨rfl,hb,hown,kQ⟩;obtain⟨i0,hi,hz0,hz1,hz2⟩:=abu Tryz.infoByte;have z1:=kQ.size;obtain⟨v',w2,hr,ho',hg',_⟩:=Lib.run_append_own_string (P:=Tryz.prog) w1 B 36 9 36 5 i0 Tryz.underlying36 Tryz.underlying9 hi hz0 hz1 hz2 v l.length (l.map cm) hown s (by unfold maxLen;omega) (by omega) (by omega);have hne:v.ownBlock≠some b:=Lib.ownBlock_ne hown hb (by decide);have lb:=aaa hb;have hb2:w2.heap[b]?=some (.cells #[.pointer (some ⟨b,0,none⟩),v] 132 (0,0)):=(hg'.block b lb (fun e=>hne e.symm)).trans hb;have c1:w1.cell? ⟨b,1,none⟩=some v:=aat _ _ _ _ _ _ hb;have d1:w2.cell? ⟨b,1,none⟩=some v:=aat _ _ _ _ _ _ hb2;have f1:w2.frozen? ⟨b,1,none⟩=false:=aaI w2 b 1 _ _ hb2;have hne2:v'.ownBlock≠some b:=Lib.ownBlock_ne ho' hb2 (by decide)
 have HF:Hid (mG (w2.setCell ⟨b,1,none⟩ v') B b (l++s.data.toList) v'/\Kp (Rw b v) w (w2.setCell ⟨b,1,none⟩ v')/\Below B w (w2.setCell ⟨b,1,none⟩ v')):=by
  have kA:Kp (Rw b v) w (w2.setCell ⟨b,1,none⟩ v'):=by
   have k1:Kp (Rw b v) w w1:=⟨kQ.os,kQ.tape,kQ.output,kQ.size,fun k hk hs=>kQ.block k hk (fun e=>hs (.inl e))⟩
   exact (Kp.grown k1 hg' (fun k hk=>.inl (.inr hk))).setCell (p:=⟨b,1,none⟩) (.inl (.inl rfl)) _
  refine⟨⟨HH.out.low,⟨_,(aau w2 b 1 _ _ v' hb2).trans rfl,.inr rfl⟩,aJ ?_ (fun g hg=>aak _ ⟨b,1,none⟩ _ g (fun e=>hne2 (by rw[hg];exact abV some e)))⟩,kA,kA.below hB (fun k _ e=>?_)⟩
  ·rw[aac,ab5,cj];exact ho'
  ·rcases e with e|e
   ·rw[e];exact HH.out.low
   ·exact (HH.out.own.lt k e).1
 obtain⟨ao,cp,hv⟩:∃ao cp,v=.slice ao l.length cp:=by
  rcases hown.2 with⟨rfl,h00⟩|⟨g',cap,cur,rfl,_⟩
  ·exact⟨none,0,by rw[h00]⟩
  ·exact⟨_,_,rfl⟩
 obtain⟨UM,cp',hv'⟩:∃ao cp,v'=.slice ao (l.length+s.size) cp:=by
  rcases ho'.2 with⟨rfl,h00⟩|⟨g',cap,cur,rfl,_⟩
  ·exact⟨none,0,by rw[h00]⟩
  ·exact⟨_,_,rfl⟩
 obtain⟨m0,hm0⟩:∃m0,m0=l.length:=⟨_,rfl⟩
 obtain⟨m1,hm1⟩:∃m1,m1=l.length+s.size:=⟨_,rfl⟩
 rw[<-hm0]at hv;rw[<-hm1]at hv';subst hv hv';clear hb hb2 hown ho' hg' hne hne2 kQ z1 hm0 hm1 hcc HH hz;go_wp2_with (at_builtin;refine aaX _ rfl (.tmp 12) (.tmp 13) _ _ rfl _ _ rfl rfl _ _ hr ?_);exact aaF (v:=.tuple #[.int .i64 s.size,.nilIface]) (by simp[results,Tryz.results85,go_sem]) rfl ⟨rfl,_,HF.out⟩
structure kK (B b:Nat) (w w':World):Prop where
 below:Below B w w'
 typ:∀j cs t fr,w.heap[j]?=some (.cells cs t fr)->t≠5->j≠b->w'.heap[j]?=some (.cells cs t fr)
theorem kK.refl (B b:Nat)(w:World):kK B b w w:=⟨aav _ _,fun _ _ _ _ h _ _=>h⟩
theorem kK.trans {B b:Nat}{u v w:World}(h:kK B b u v)(k:kK B b v w):kK B b u w:=⟨h.below.trans k.below,fun j cs t fr hj ht hb=>k.typ j cs t fr (h.typ j cs t fr hj ht hb) ht hb⟩
theorem kK.aF {B b:Nat}{w w':World}(k:Below w.heap.size w w')(hB:B<=w.heap.size):kK B b w w':=⟨k.mono hB,fun j _ _ _ hj _ _=>(k.block j (aaa hj)).trans hj⟩
theorem kK.jx {B b:Nat}{l:List UInt8}{v:Value}{w w':World}(h:mG w B b l v)(k:Kp (Rw b v) w w')(kb:Below B w w'):kK B b w w':=⟨kb,fun j _ _ _ hj ht hb=>(k.block j (aaa hj) (fun e=>by
 rcases e with e|e
 ·exact hb e
 ·exact h.ne hj ht e)).trans hj⟩
theorem kK.size {B b:Nat}{w w':World}(h:kK B b w w'):w.heap.size<=w'.heap.size:=h.below.size
theorem zi {w:World}{j:Nat}{a c:Value}{t:TypeId}(h:w.heap[j]?=some (.cells #[a,c] t (0,0))):w.cell? ⟨j,0,none⟩=some a/\w.cell? ⟨j,1,none⟩=some c:=⟨aat _ _ _ _ _ _ h,aat _ _ _ _ _ _ h⟩
theorem abM (B b:Nat)(l:List UInt8)(c:Ch)(v:Value)(w:World)(h:mG w B b l v)(hB:B<=w.heap.size)(hz:l.length+12+c.name.size+c.data.size<=900000000): Calls Tryz.prog 86 #[.agg #[.string c.name,.string c.data],.pointer (some ⟨b,0,none⟩)] w fun e w'=>e=.returned (.tuple #[])/\∃v',mG w' B b (l++(four (c.data.size:Int)++(c.name.data.toList++(c.data.data.toList++four (lU (c.name++c.data)))))) v'/\kK B b w w':=by
 have k0:=ae w (.cells #[.string c.name,.string c.data] 83);have q0:=ah w (.cells #[.string c.name,.string c.data] 83);have h0:=h.below k0;have z0:(w.alloc (.cells #[.string c.name,.string c.data] 83)).heap.size=w.heap.size+1:=by simp
 have lb:=h.lt;have hf1:=fun u=>pW c.data.size u (by omega);obtain⟨cr,hcr⟩:∃cr:Nat,lU (c.name++c.data)=(cr:Int):=⟨(lU (c.name++c.data)).toNat,by have:=(l7 (c.name++c.data)).1;omega⟩
 have hcb:cr<4294967296:=by have:=(l7 (c.name++c.data)).2;omega
 have hcc:=fun u=>QN (c.name++c.data) u (by unfold maxLen;rw[ByteArray.size_append];omega);have ecr:4294967295-(Mx.oE (c.name++c.data).data.toList:Int)=(cr:Int):=hcr;rw[ecr]at hcc;have hf2:=fun u=>pW cr u hcb;have ahj:(c.name.size+c.data.size:Nat)<=maxLen:=by unfold maxLen;omega
 obtain⟨x0,x1⟩:=zi q0;have HH:Hid (_/\_/\_/\_):=⟨h0,q0,k0,hcr⟩
 have hl4:∀a,(four a).length=4:=fun _=>rfl;clear h h0 q0 k0 hcr ecr
 go_enter Tryz.func86,Tryz.ntmps86
 go_wp2_with fail;refine (hf1 _).mono ?_;rintro e w1 ⟨rfl,b1⟩;obtain⟨h0,q0,k0,hcr⟩:=HH.out;have zb1:=b1.size;rw[z0]at zb1;have h1:=h0.below b1;have q1:=(b1.block w.heap.size (by omega)).trans q0;have t1:kK B b w w1:=(kK.aF k0 hB).trans (kK.aF b1 (by omega));have hs1:=kJ B b l ⟨(four (c.data.size:Int)).toArray⟩ v w1 h1 (by omega) (by show _+4<=_;omega);have HX1:Hid (_/\_/\_):=⟨h1,q1,t1⟩
 clear h0 q0 k0 h1 q1 t1 b1 hf1 x0 x1;go_wp2_with fail;refine hs1.mono ?_;rintro e w2 ⟨rfl,v2,h2,uZ,UL⟩;obtain⟨h1,q1,t1⟩:=HX1.out;have t2:=kK.jx h1 uZ UL;have q2:=t2.typ _ _ _ _ q1 (by decide) (by omega);have zb2:=t2.size;obtain⟨x0,x1⟩:=zi q2;have hs2:=kJ B b _ c.name v2 w2 h2 (by omega) (by rw[aac,hl4];omega);have BP:Hid (_/\_/\_):=⟨h2,q2,t1.trans t2⟩
 clear h1 q1 t1 t2 h2 q2 uZ UL hs1 HX1;go_wp2_with fail;refine hs2.mono ?_;rintro e w3 ⟨rfl,v3,h3,BS,bl3⟩;obtain⟨h2,q2,t2⟩:=BP.out;have t3:=kK.jx h2 BS bl3;have q3:=t3.typ _ _ _ _ q2 (by decide) (by omega);have zb3:=t3.size;obtain⟨x0,x1⟩:=zi q3;have hs3:=kJ B b _ c.data v3 w3 h3 (by omega) (by rw[aac,aac,hl4,cj];omega);have Ft:Hid (_/\_/\_):=⟨h3,q3,t2.trans t3⟩
 clear h2 q2 t2 t3 h3 q3 BS bl3 hs2 BP;go_wp2_with fail;refine hs3.mono ?_;rintro e w4 ⟨rfl,v4,h4,OD,bl4⟩;obtain⟨h3,q3,t3⟩:=Ft.out;have t4:=kK.jx h3 OD bl4;have q4:=t4.typ _ _ _ _ q3 (by decide) (by omega);have zb4:=t4.size;obtain⟨x0,x1⟩:=zi q4;have HX4:Hid (_/\_/\_):=⟨h4,q4,t3.trans t4⟩
 clear h3 q3 t3 t4 h4 q4 OD bl4 hs3 Ft;go_wp2_with fail;refine (hcc _).mono ?_;rintro e w' ⟨rfl,rfl⟩;go_wp2_with fail;refine (hf2 _).mono ?_;rintro e w5 ⟨rfl,b5⟩;obtain⟨h4,q4,t4⟩:=HX4.out;have zb5:=b5.size;have h5:=h4.below b5;have t5:kK B b w w5:=t4.trans (kK.aF b5 (by omega));have hs5:=kJ B b _ ⟨(four (cr:Int)).toArray⟩ v4 w5 h5 (by omega) (by simp only[aac,hl4,cj];show _+4<=_;omega);have Xo:Hid (_/\_):=⟨h5,t5⟩
 clear h4 q4 t4 b5 h5 t5 HX4 hcc hf2 x0 x1;go_wp2_with fail;refine hs5.mono ?_;rintro e w6 ⟨rfl,v6,h6,oC,bl6⟩;obtain⟨h5,t5⟩:=Xo.out;have HF:Hid (_/\_):=⟨h6,t5.trans (kK.jx h5 oC bl6)⟩
 clear h5 t5 h6 oC bl6 hs5 Xo;go_wp2
 go_end0
 refine⟨rfl,v6,?_,HF.out.2⟩;have:=HF.out.1;rw[<-hcr]at this;simp only[aaw]at this;exact this
end Go.Proofs.YtmfijackgekioabGreatDoor
