import Derived.Test.YtmfijackgekioabGreatDoorQ24
set_option maxHeartbeats 4000000
set_option maxRecDepth 100000
namespace Go.Proofs.YtmfijackgekioabGreatDoor
section
open Go.RowKit
theorem Tryz.infoPlan:(Tryz.prog.info? 163).map (fun i=>(i.zero,i.size,i.bytes))=some (some (.agg #[.int .i64 0,.nilFunc]),2,16):=by kernel_rfl
abbrev Pl:=Nat×Nat×Array Value
def lC (x:Pl):List Value:=[.int .i64 (x.1:Nat),.func (.func x.2.1) #[] x.2.2]
def dV (l:List Pl):List Value:=l.flatMap lC
theorem Dp:∀u l,u∈dV l->u.oneCell'=true:=fun u l h=>by
 obtain⟨x,_,hx⟩:=List.mem_flatMap.1 h;simp only[lC,ab9,abw,or_false]at hx;rcases hx with rfl|rfl<;>rfl
structure pP (w w':World) (v:Value) (B:Nat) (W:List Int) (T:List UInt8) (p q:Nat) (last:Bool) (km C:Nat):Prop where
 ex:∃x r,w'.ownsRow w.heap.size 163 2 v (x::r).length (dV (x::r))/\x.1=(W.length+10)/8*8+32+8*(q-p)/\(∀y∈x::r,jn w' B W T p q last km y.1 y.2.1 y.2.2/\y.1<=90000000)/\r.length<=2/\(1<=km->∃y∈r,y.1=W.length+3+C)
 be:Below w.heap.size w w'
theorem ug {w u:World}(hb:w.heap.size<=u.heap.size)(x:Pl):(u.alloc (.cells #[.int .i64 (x.1:Nat),.func (.func x.2.1) #[] x.2.2] 163)).ownsRow w.heap.size 163 2 (.slice (some ⟨u.heap.size,0,none⟩) 1 1) 1 (dV [x]) :=
 ⟨rfl,.inr ⟨u.heap.size,1,_,rfl,hb,ah u _,aah _,by unfold maxLen;omega,rfl,rfl⟩⟩
theorem uh (u:World)(x:Pl):Src (u.alloc (.cells #[.int .i64 (x.1:Nat),.func (.func x.2.1) #[] x.2.2] 163)) 2 (.slice (some ⟨u.heap.size,0,none⟩) 1 1) 1 (dV [x]):=by
 refine⟨⟨_,_,rfl,(fun e=>nomatch e),fun ad e hne=>?_⟩,rfl,fun y hy=>Dp y _ hy⟩;cases e;refine⟨by simp,fun j y hj=>?_⟩;rw[eJ,aaO,aR (ah u _)];simpa[dV,lC]using hj
theorem ui {w w':World}{base n:Nat}{v:Value}{xs:List Value}(h:w.ownsRow base 163 2 v n xs)(g:w.grownBy w' v.ownBlock):Kq w w':=fun k cs t fr hk ht=>by
 refine g.block k (aaa hk) (fun e=>?_);rcases h.2 with⟨rfl,_⟩|⟨b,cap,cur,rfl,_,hg,_⟩
 ·cases e
 ·simp only[Value.ownBlock,acw]at e;subst e;rw[hk]at hg;simp at hg;exact ht hg.2.1
theorem Sv (B:Nat)(last:Bool)(s:ByteArray)(sv:Value)(W:List Int)(w:World)(h:aA w B W)(T:List UInt8)(p q:Nat)(hs:s.data.toList=(T.take q).drop p)(hpq:p<=q)(hq:q<=T.length)(h6:q-p<=65535)(hW:W.length<=80000000)(C:Nat): Calls Tryz.prog 117 #[.pointer (some ⟨B,0,none⟩),.string s,sv,.bool last,.int .i64 0] w fun e w'=>∃v,e=.returned v/\pP w w' v B W T p q last 0 C:=by
 have hE:(W.length+10)/8*8+32+8*(q-p)<=90000000:=by omega
 go_enter Tryz.func117,Tryz.ntmps117
 go_wp2_with fail;refine (ly B last s W w h T p q hs hpq hq h6 (by omega)).mono ?_;rintro e w1 ⟨aO,rfl,hb1,hp1⟩;generalize Wc:(W.length+10)/8*8+32+8*(q-p)=E at *;have own:=ug (w:=w) (u:=w1) hb1.size (E,161,aO);have hb2:Below w.heap.size w (w1.alloc (.cells #[.int .i64 (E:Nat),.func (.func 161) #[] aO] 163)):=hb1.trans ((ae w1 _).mono hb1.size);have hp2:=hp1.below (ae w1 (.cells #[.int .i64 (E:Nat),.func (.func 161) #[] aO] 163));have HH:Hid (_/\_/\_):=⟨own,hb2,hp2⟩
 clear own hb2 hp2 hp1 h hs;go_wp2
 go_ret
 refine⟨_,rfl,⟨(E,161,aO),[],HH.out.1,Wc.symm,fun y hy=>?_,by simp,fun h=>absurd h (by decide)⟩,HH.out.2.1⟩;rw[abK.1 hy];exact⟨HH.out.2.2,hE⟩
theorem aA.kq {w w':World}{B:Nat}{W:List Int}(h:aA w B W)(k:Kq w w'):aA w' B W:=by
 obtain⟨pv,P,h⟩:=h;refine⟨pv,P,(k _ _ _ _ h.blk (by decide)).trans h.blk,aJ h.own (fun g hg=>?_),h.hold⟩;rcases h.own.2 with⟨rfl,_⟩|⟨b,cap,cur,rfl,_,hb,_⟩
 ·simp[Value.ownBlock]at hg
 ·simp only[Value.ownBlock,acw]at hg;subst hg;exact k _ _ _ _ hb (by decide)
theorem Steps.fresh {w:World}{sv:Value}{steps:List (Nat×Nat)}{B:Nat}(h:Steps w sv steps B):Steps w sv steps w.heap.size :=
 ⟨h.1,fun hn=>by
  obtain⟨SB,cap,h1,h2,h3⟩:=h.2 hn
  exact⟨SB,cap,h1,by have:=h3.lt;omega,h3⟩⟩
theorem Sw (B:Nat)(last:Bool)(s:ByteArray)(ao:Option Addr)(cap:Nat)(steps:List (Nat×Nat))(W:List Int)(w:World)(h:aA w B W)(T:List UInt8)(p q:Nat)(hp:Part T p q s steps)(hst:Steps w (.slice ao steps.length cap) steps B)(hsv:∀SB cap',Value.slice ao steps.length cap=.slice (some ⟨SB,0,none⟩) steps.length cap'->SB<w.heap.size)(hW:W.length<=80000000): Calls Tryz.prog 117 #[.pointer (some ⟨B,0,none⟩),.string s,.slice ao steps.length cap,.bool last,.int .i64 1] w fun e w'=>∃v,e=.returned v/\pP w w' v B W T p q last 1 (ay Rf.bQ bd (ar s.data.toList 0 steps)).length:=by
 obtain⟨i0,hi,hz0,hz1,hz2⟩:=abu Tryz.infoPlan;have hsm:=hp.small;have hE:(W.length+10)/8*8+32+8*(q-p)<=90000000:=by omega
 have aaN:=hp.size
 go_enter Tryz.func117,Tryz.ntmps117
 go_wp2_with fail;refine (ly B last s W w h T p q hp.txt hp.le hp.qt hp.small (by omega)).mono ?_;rintro e w1 ⟨iM,rfl,hb1,hp1⟩;generalize Wc:(W.length+10)/8*8+32+8*(q-p)=E0 at *;have own:=ug (w:=w) (u:=w1) hb1.size (E0,161,iM);have k2:=ae w1 (.cells #[.int .i64 (E0:Nat),.func (.func 161) #[] iM] 163);go_wp2_with fail;generalize hw2:w1.alloc (.cells #[.int .i64 (E0:Nat),.func (.func 161) #[] iM] 163)=w2 at *;have own:w2.ownsRow w.heap.size 163 2 (.slice (some ⟨w1.heap.size,0,none⟩) 1 1) 1 (dV [(E0,161,iM)]):=own;have B2:Below w.heap.size w w2:=hb1.trans (k2.mono hb1.size);have st2:=hst.below B2;have hty:=wK ao cap s steps w2 st2.fresh (by omega) hp.ok (fun SB cap' e=>by have:=hsv SB cap' e;have:=B2.size;omega);refine hty.mono ?_;rintro e w3 ⟨Sy,Di,rfl,a1,a2,hb3,Y0,hDi⟩;clear hty;generalize hex:aW (ar s.data.toList 0 steps)=ex at *;go_wp2_with fail;have k4:=ae w3 (.cells #[.slice (some ⟨Sy,0,none⟩) 286 286,.slice (some ⟨Di,0,none⟩) 30 30,.int .i64 ex] 191);have x4:=ah w3 (.cells #[.slice (some ⟨Sy,0,none⟩) 286 286,.slice (some ⟨Di,0,none⟩) 30 30,.int .i64 ex] 191);generalize hw4:w3.alloc (.cells #[.slice (some ⟨Sy,0,none⟩) 286 286,.slice (some ⟨Di,0,none⟩) 30 30,.int .i64 ex] 191)=w4 at *;have Od:Below w2.heap.size w2 w4:=hb3.trans (k4.mono hb3.size);have B4:Below w.heap.size w w4:=B2.trans (Od.mono B2.size);have hfp:=rD B last s ao cap steps W w4 (h.below B4) T p q Sy Di hp (hst.below B4) (a1.keep k4) (a2.keep k4) hW;rw[hex]at hfp;refine hfp.mono ?_;rintro e w5 ⟨E1,eO,rfl,hb5,Wd,hE1,KH⟩;have HE1:Hid (E1=W.length+3+(ay Rf.bQ bd (ar s.data.toList 0 steps)).length):=KH;clear KH;clear hfp;have yz:=uh w5 (E1,170,eO);have k6:=ae w5 (.cells #[.int .i64 (E1:Nat),.func (.func 170) #[] eO] 163);generalize hw6:w5.alloc (.cells #[.int .i64 (E1:Nat),.func (.func 170) #[] eO] 163)=w6 at *;have yz:Src w6 2 (.slice (some ⟨w5.heap.size,0,none⟩) 1 1) 1 (dV [(E1,170,eO)]):=yz;have Qg:Below w4.heap.size w4 w6:=hb5.trans (k6.mono hb5.size);have Oe:Below w2.heap.size w2 w6:=Od.trans (Qg.mono Od.size);have B6:Below w.heap.size w w6:=B2.trans (Oe.mono B2.size);have hg0:w1.heap.size<w2.heap.size:=by rw[<-hw2];simp
 have yA:w6.ownsRow w.heap.size 163 2 (.slice (some ⟨w1.heap.size,0,none⟩) 1 1) 1 (dV [(E0,161,iM)]):=aJ own (fun g hg=>by
  simp only[Value.ownBlock,acw]at hg;subst hg
  exact Oe.block _ hg0)
 obtain⟨v7,w7,VW,KI,Sx⟩:=cR (ty:=159) Tryz.underlying159 hi hz0 hz1 hz2 rfl (by decide) yA yz (by unfold maxLen;omega) (by omega) B6.size;have I2:=ui yA Sx;have B7:Below w.heap.size w w7:=cq B6 Sx (fun k hk=>(yA.lt k hk).1) (aah _);have P0:jn w7 B W T p q last 1 E0 161 iM:=(((hp1.weak (by omega:0<=1)).below k2).below Oe).kq I2;have P1:jn w7 B W T p q last 1 E1 170 eO:=((Wd.weak (by omega:1<=1)).below k6).kq I2;obtain⟨oa7,oc7,rfl⟩:=aV KI;have HR:Hid (_/\_/\_/\_):=⟨KI,B7,P0,P1⟩
 have JR:=B7.size;clear hp1 Wd own yz yA KI Sx P0 P1 B7 B6 Oe Qg Od B4 B2 k2 k4 k6 st2 a1 a2 Y0 hDi hb3 hb5 hg0 h hst hsv hp I2;go_wp2_with (first|fail|(at_builtin;refine aaX _ rfl _ _ _ _ rfl _ _ rfl rfl _ _ VW ?_))
 go_ret
 refine⟨_,rfl,⟨(E0,161,iM),[(E1,170,eO)],HR.out.1,Wc.symm,fun y hy=>?_,by simp,fun _=>⟨_,abJ,HE1.out⟩⟩,HR.out.2.1⟩;rcases ab9.1 hy with rfl|hy
 ·exact⟨HR.out.2.2.1,hE⟩
 ·rw[abK.1 hy];exact⟨HR.out.2.2.2,hE1⟩
theorem Sz (B:Nat)(last:Bool)(s:ByteArray)(ao:Option Addr)(cap:Nat)(steps:List (Nat×Nat))(W:List Int)(w:World)(h:aA w B W)(T:List UInt8)(p q:Nat)(hp:Part T p q s steps)(hst:Steps w (.slice ao steps.length cap) steps B)(hsv:∀SB cap',Value.slice ao steps.length cap=.slice (some ⟨SB,0,none⟩) steps.length cap'->SB<w.heap.size)(hW:W.length<=80000000): Calls Tryz.prog 117 #[.pointer (some ⟨B,0,none⟩),.string s,.slice ao steps.length cap,.bool last,.int .i64 2] w fun e w'=>∃v,e=.returned v/\pP w w' v B W T p q last 2 (ay Rf.bQ bd (ar s.data.toList 0 steps)).length:=by
 obtain⟨i0,hi,hz0,hz1,hz2⟩:=abu Tryz.infoPlan;have hsm:=hp.small;have hE:(W.length+10)/8*8+32+8*(q-p)<=90000000:=by omega
 have aaN:=hp.size
 go_enter Tryz.func117,Tryz.ntmps117
 go_wp2_with fail;refine (ly B last s W w h T p q hp.txt hp.le hp.qt hp.small (by omega)).mono ?_;rintro e w1 ⟨iM,rfl,hb1,hp1⟩;generalize Wc:(W.length+10)/8*8+32+8*(q-p)=E0 at *;have own:=ug (w:=w) (u:=w1) hb1.size (E0,161,iM);have k2:=ae w1 (.cells #[.int .i64 (E0:Nat),.func (.func 161) #[] iM] 163);go_wp2_with fail;generalize hw2:w1.alloc (.cells #[.int .i64 (E0:Nat),.func (.func 161) #[] iM] 163)=w2 at *;have own:w2.ownsRow w.heap.size 163 2 (.slice (some ⟨w1.heap.size,0,none⟩) 1 1) 1 (dV [(E0,161,iM)]):=own;have B2:Below w.heap.size w w2:=hb1.trans (k2.mono hb1.size);have st2:=hst.below B2;have hty:=wK ao cap s steps w2 st2.fresh (by omega) hp.ok (fun SB cap' e=>by have:=hsv SB cap' e;have:=B2.size;omega);refine hty.mono ?_;rintro e w3 ⟨Sy,Di,rfl,a1,a2,hb3,Y0,hDi⟩;clear hty;generalize hex:aW (ar s.data.toList 0 steps)=ex at *;go_wp2_with fail;have k4:=ae w3 (.cells #[.slice (some ⟨Sy,0,none⟩) 286 286,.slice (some ⟨Di,0,none⟩) 30 30,.int .i64 ex] 191);have x4:=ah w3 (.cells #[.slice (some ⟨Sy,0,none⟩) 286 286,.slice (some ⟨Di,0,none⟩) 30 30,.int .i64 ex] 191);generalize hw4:w3.alloc (.cells #[.slice (some ⟨Sy,0,none⟩) 286 286,.slice (some ⟨Di,0,none⟩) 30 30,.int .i64 ex] 191)=w4 at *;have Od:Below w2.heap.size w2 w4:=hb3.trans (k4.mono hb3.size);have B4:Below w.heap.size w w4:=B2.trans (Od.mono B2.size);have hfp:=rD B last s ao cap steps W w4 (h.below B4) T p q Sy Di hp (hst.below B4) (a1.keep k4) (a2.keep k4) hW;rw[hex]at hfp;refine hfp.mono ?_;rintro e w5 ⟨E1,eO,rfl,hb5,Wd,hE1,KH⟩;have HE1:Hid (E1=W.length+3+(ay Rf.bQ bd (ar s.data.toList 0 steps)).length):=KH;clear KH;clear hfp;have yz:=uh w5 (E1,170,eO);have k6:=ae w5 (.cells #[.int .i64 (E1:Nat),.func (.func 170) #[] eO] 163);generalize hw6:w5.alloc (.cells #[.int .i64 (E1:Nat),.func (.func 170) #[] eO] 163)=w6 at *;have yz:Src w6 2 (.slice (some ⟨w5.heap.size,0,none⟩) 1 1) 1 (dV [(E1,170,eO)]):=yz;have Qg:Below w4.heap.size w4 w6:=hb5.trans (k6.mono hb5.size);have Oe:Below w2.heap.size w2 w6:=Od.trans (Qg.mono Od.size);have B6:Below w.heap.size w w6:=B2.trans (Oe.mono B2.size);have hg0:w1.heap.size<w2.heap.size:=by rw[<-hw2];simp
 have yA:w6.ownsRow w.heap.size 163 2 (.slice (some ⟨w1.heap.size,0,none⟩) 1 1) 1 (dV [(E0,161,iM)]):=aJ own (fun g hg=>by
  simp only[Value.ownBlock,acw]at hg;subst hg
  exact Oe.block _ hg0)
 obtain⟨v7,w7,VW,KI,Sx⟩:=cR (ty:=159) Tryz.underlying159 hi hz0 hz1 hz2 rfl (by decide) yA yz (by unfold maxLen;omega) (by omega) B6.size;have I2:=ui yA Sx;have B7:Below w.heap.size w w7:=cq B6 Sx (fun k hk=>(yA.lt k hk).1) (aah _);have P0:jn w7 B W T p q last 2 E0 161 iM:=(((hp1.weak (by omega:0<=2)).below k2).below Oe).kq I2;have P1:jn w7 B W T p q last 2 E1 170 eO:=((Wd.weak (by omega:1<=2)).below k6).kq I2;obtain⟨oa7,oc7,rfl⟩:=aV KI;have HR:Hid (_/\_/\_/\_):=⟨KI,B7,P0,P1⟩
 have W7:aA w7 B W:=(h.below B6).kq I2;have S7:=(hst.below B6).kq I2;have A17:=((a1.keep k4).keep Qg).kq I2;have A27:=((a2.keep k4).keep Qg).kq I2;have X6:=(Qg.block _ (aaa x4)).trans x4;have X7:=(I2 _ _ _ _ X6 (by decide)).trans X6;obtain⟨y0,y1,y2,Qe,Qf⟩:=cells3 X7;have hdp:=vH B last s ao cap steps W w7 W7 T p q Sy Di hp S7 A17 A27 hW;rw[hex]at hdp;have JR:=B7.size;clear hp1 Wd own yz yA KI Sx P0 P1 B7 B6 W7 S7 A17 A27 X6 X7 Oe Qg Od B4 B2 k2 k4 k6 st2 a1 a2 Y0 hDi hb3 hb5 hg0 h hst hsv hp I2;go_wp2_with (first|fail|(at_builtin;refine aaX _ rfl _ _ _ _ rfl _ _ rfl rfl _ _ VW ?_));refine hdp.mono ?_;rintro e w8 ⟨E2,jE,rfl,Ce,hp8,hE2⟩;clear hdp y0 y1 y2 Qe Qf VW;have Og:=uh w8 (E2,174,jE);have k9:=ae w8 (.cells #[.int .i64 (E2:Nat),.func (.func 174) #[] jE] 163);generalize hw9:w8.alloc (.cells #[.int .i64 (E2:Nat),.func (.func 174) #[] jE] 163)=w9 at *;have Og:Src w9 2 (.slice (some ⟨w8.heap.size,0,none⟩) 1 1) 1 (dV [(E2,174,jE)]):=Og;have Wf:Below w7.heap.size w7 w9:=Ce.trans (k9.mono Ce.size);obtain⟨KI,B7,P0,P1⟩:=HR.out;have B9:Below w.heap.size w w9:=B7.trans (Wf.mono B7.size);have ownB:w9.ownsRow w.heap.size 163 2 (.slice oa7 2 oc7) 2 (dV [(E0,161,iM)]++dV [(E1,170,eO)]):=aJ KI (fun g hg=>Wf.block _ (KI.lt g hg).2);obtain⟨v10,ME,aaR,SA,SC⟩:=cR (ty:=159) Tryz.underlying159 hi hz0 hz1 hz2 rfl (by decide) ownB Og (by unfold maxLen;omega) (by omega) B9.size;have Y1:=ui ownB SC;have B10:Below w.heap.size w ME:=cq B9 SC (fun k hk=>(ownB.lt k hk).1) (aah _);have P0':=(P0.below Wf).kq Y1;have P1':=(P1.below Wf).kq Y1;have P2':=(hp8.below k9).kq Y1;obtain⟨agv,agw,rfl⟩:=aV SA;have HS:Hid (_/\_/\_/\_/\_):=⟨SA,B10,P0',P1',P2'⟩
 clear hp8 Og ownB SA SC P0 P1 P0' P1' P2' B10 B9 B7 KI Wf k9 Ce HR Y1;go_wp2_with (first|fail|(at_builtin;refine aaX _ rfl _ _ _ _ rfl _ _ rfl rfl _ _ aaR ?_))
 go_ret
 refine⟨_,rfl,⟨(E0,161,iM),[(E1,170,eO),(E2,174,jE)],HS.out.1,Wc.symm,fun y hy=>?_,by simp,fun _=>⟨_,abJ,HE1.out⟩⟩,HS.out.2.1⟩;rcases ab9.1 hy with rfl|hy
 ·exact⟨HS.out.2.2.1,hE⟩
 ·rcases ab9.1 hy with rfl|hy
  ·exact⟨HS.out.2.2.2.1,hE1⟩
  ·rw[abK.1 hy];exact⟨HS.out.2.2.2.2,hE2⟩
abbrev Wg (x:Pl):Value:=.agg #[.int .i64 (x.1:Nat),.func (.func x.2.1) #[] x.2.2]
theorem Wh (x y:Pl)(w:World):Calls Tryz.prog 119 #[Wg x,Wg y] w fun e w'=>e=.returned (.int .i64 (fh x.1 y.1))/\Below w.heap.size w w':=by
 go_enter Tryz.func119,Tryz.ntmps119
 go_wp2_with (go_at_call 120;refine (qE _ _ _).mono ?_;rintro e w' ⟨rfl,rfl⟩)
 go_ret
 exact⟨rfl,((aav _ _).alloc (aah _) _).alloc (by simp) _⟩
theorem SD (args:Array Value)(w:World):(callFunc 119 args).run Tryz.prog w=.ok (.enter 119 args) w:=by kernel_rfl
theorem Wi (l:List Pl)(j:Nat)(h:j<l.length):(dV l)[j*2]?=some (.int .i64 ((l.getD j (0,0,#[])).1:Nat))/\(dV l)[j*2+1]?=some (.func (.func (l.getD j (0,0,#[])).2.1) #[] (l.getD j (0,0,#[])).2.2):=by
 induction l generalizing j with
 | nil=>simp at h
 | cons x r ih =>
  have e:dV (x::r)=lC x++dV r:=by simp[dV]
  cases j with
  | zero=>rw[e];exact⟨rfl,rfl⟩
  | succ j =>
   have:=ih j (by simpa using h);rw[e,show (j+1)*2=2+j*2 by omega,show 2+j*2+1=2+(j*2+1) by omega];rw[aaM (by simp[lC]),aaM (by simp[lC])];simpa[lC]using this
theorem KJ {w:World}{base g n cap:Nat}{l:List Pl}(h:w.ownsRow base 163 2 (.slice (some ⟨g,0,none⟩) n cap) n (dV l))(hl:l.length=n)(j:Nat)(hj:j<n): w.cell? ⟨g,j*2,none⟩=some (.int .i64 ((l.getD j (0,0,#[])).1:Nat))/\w.cell? ⟨g,j*2+1,none⟩=some (.func (.func (l.getD j (0,0,#[])).2.1) #[] (l.getD j (0,0,#[])).2.2):=by
 obtain⟨a,b⟩:=Wi l j (by omega);exact⟨(h.cellAt (j*2) (by omega)).trans a,(h.cellAt (j*2+1) (by omega)).trans b⟩
theorem Wj (g cap n:Nat)(l:List Pl)(w:World)(hl:l.length=n)(hn:1<=n)(Uv:n<=3)(hg:g<w.heap.size)(hc:∀j,j<n->w.cell? ⟨g,j*2,none⟩=some (.int .i64 ((l.getD j (0,0,#[])).1:Nat))/\w.cell? ⟨g,j*2+1,none⟩=some (.func (.func (l.getD j (0,0,#[])).2.1) #[] (l.getD j (0,0,#[])).2.2)): Calls Tryz.prog 118 #[.slice (some ⟨g,0,none⟩) n cap,.func (.func 119) #[] #[]] w fun e w'=>∃x∈l,e=.returned (Wg x)/\(x.1<=(l.getD 0 (0,0,#[])).1/\∀y∈l,x.1<=y.1)/\Below w.heap.size w w':=by
 have hcall:=SD
 have hmem:∀j,j<n->l.getD j (0,0,#[])∈l:=fun j hj=>by
  rw[aab,aan (by omega)];exact abo _
 obtain⟨x0,x1⟩:=hc 0 (by omega);rw[Nat.zero_mul]at x0 x1;generalize hP0:l.getD 0 (0,0,#[])=P0 at *;have hm0:P0∈l:=by rw[<-hP0];exact hmem 0 (by omega)
 obtain⟨k0,q0,q1⟩:=bH w (.cells #[.int .i64 0,.nilFunc] 163) (.cells #[.int .i64 (P0.1:Nat),.func (.func P0.2.1) #[] P0.2.2] 163)
 go_enter Tryz.func118,Tryz.ntmps118
 go_wp2
 go_loopw [6] (fun iv wr=>∃(k:Nat) (x:Pl),1<=k/\k<=n/\iv=.int .i64 k/\Hid (x∈l/\x.1<=P0.1/\∀j,j<k->x.1<=(l.getD j (0,0,#[])).1)/\Hid (wr.heap[w.heap.size+1]?=some (.cells #[.int .i64 (x.1:Nat),.func (.func x.2.1) #[] x.2.2] 163 (0,0)))/\Hid (wr.heap[w.heap.size]?=some (.cells #[.int .i64 0,.nilFunc] 163 (0,0)))/\Below w.heap.size w wr) (fun iv _=>n-(intOf iv).toNat)
 case atStart=>exact⟨1,P0,aah _,by omega,rfl,⟨hm0,aah _,fun j hj=>by rw[show j=0 by omega,hP0];exact aah _⟩,q1,q0,k0⟩
 case round =>
  clear k0 q0 q1 x0 x1;obtain⟨k,⟨xE,xf,xc⟩,hk1,hkn,rfl,HX,HM,HR,hb⟩:=hrel;by_cases hlt:k<n
  ·have hyc:=hc k hlt;have HY:Hid (l.getD k (0,0,#[])∈l):=hmem k hlt;generalize hYY:l.getD k (0,0,#[])=Y at *;have Ue:Hid (l.getD k (0,0,#[])=Y):=hYY;clear hYY;obtain⟨yE,yf,yc⟩:=Y;have kd:Below wr.heap.size wr wr.drew:=(aav _ _).drew;have Oh:wr.drew.heap[w.heap.size+1]?=some (.cells #[.int .i64 (xE:Nat),.func (.func xf) #[] xc] 163 (0,0)):=HM.out;have Uw:wr.drew.heap[w.heap.size]?=some (.cells #[.int .i64 0,.nilFunc] 163 (0,0)):=HR.out;have hbd:Below w.heap.size w wr.drew:=hb.drew;have hS:wr.drew.cell? ⟨g,k*2,none⟩=some (.int .i64 (yE:Nat))/\wr.drew.cell? ⟨g,k*2+1,none⟩=some (.func (.func yf) #[] yc)/\wr.drew.cell? ⟨w.heap.size+1,0,none⟩=some (.int .i64 (xE:Nat))/\wr.drew.cell? ⟨w.heap.size+1,1,none⟩=some (.func (.func xf) #[] xc):=⟨(hbd.cell hg).trans hyc.1,(hbd.cell hg).trans hyc.2,(aN Oh).1,(aN Oh).2.1⟩
   have EZ:g<wr.drew.heap.size:=aaQ hg hbd.size;have hlm:w.heap.size+1<wr.drew.heap.size:=aaa Oh;have fw:∀u,Below wr.drew.heap.size wr.drew u->u.cell? ⟨g,k*2,none⟩=some (.int .i64 (yE:Nat))/\u.cell? ⟨g,k*2+1,none⟩=some (.func (.func yf) #[] yc)/\u.cell? ⟨w.heap.size+1,0,none⟩=some (.int .i64 (xE:Nat))/\u.cell? ⟨w.heap.size+1,1,none⟩=some (.func (.func xf) #[] xc):=fun u q=>⟨(q.cell EZ).trans hS.1,(q.cell EZ).trans hS.2.1,(q.cell hlm).trans hS.2.2.1,(q.cell hlm).trans hS.2.2.2⟩
   have hcm:=Wh (yE,yf,yc) (xE,xf,xc) wr.drew;have agx:(k:Int)<(n:Int):=by omega
   clear hyc hc hmem HM HR hb kd hm0 hP0;by_cases hy:yE<xE
   ·have ec:fh (yE:Int) (xE:Int)=-1:=by unfold fh;rw[aaj (by omega)]
    simp only at hcm;rw[ec]at hcm;clear ec;go_wp2_with fail;refine ax (fun u=>u.cell? ⟨g,k*2,none⟩=some (.int .i64 (yE:Nat))/\u.cell? ⟨g,k*2+1,none⟩=some (.func (.func yf) #[] yc)/\u.cell? ⟨w.heap.size+1,0,none⟩=some (.int .i64 (xE:Nat))/\u.cell? ⟨w.heap.size+1,1,none⟩=some (.func (.func xf) #[] xc)) 999 ?_;generalize wr.drew=wd at *;refine ap [0,1,2,3,4,5] ?_
    iterate 6 (refine au hS ?_;try simp only[Act.put])
    refine aj ?_;refine ag 6 fun K hK=>?_;go_simp;refine hcm.mono ?_;rintro e w1 ⟨rfl,hb1⟩;have hS1:=fw w1 hb1;refine hK _ _ (fun _=>hS1) ?_;clear hK K;have R1:w1.heap[w.heap.size+1]?=some (.cells #[.int .i64 (xE:Nat),.func (.func xf) #[] xc] 163 (0,0)):=(hb1.block _ (aaa Oh)).trans Oh;have R0:w1.heap[w.heap.size]?=some (.cells #[.int .i64 0,.nilFunc] 163 (0,0)):=(hb1.block _ (aaa Uw)).trans Uw;have B1:Below w.heap.size w w1:=hbd.trans (hb1.mono hbd.size);obtain⟨m0,m1,mz,ml⟩:=aN R1;have HN:Hid (_/\_/\_):=⟨R1,R0,B1⟩
    clear R1 R0 B1 Oh Uw hbd hcm fw hS;obtain⟨g0,g1,_,_⟩:=hS1;have hS1:=And.intro g0 (And.intro g1 (And.intro m0 m1));refine ap [7] ?_
    iterate 1 (refine au hS1 ?_;try simp only[Act.put])
    refine aj ?_;refine am ?_;clear hS1;go_wp2
    go_roundw
    case rel =>
     obtain⟨h1,h0,hb⟩:=HN.out
     exact⟨k+1,(yE,yf,yc),by omega,by omega,by go_num,⟨HY.out,by have:=HX.out.2.1;simp only at this ⊢;omega,fun j hj=>by
      by_cases e:j=k
      ·rw[e,Ue.out];exact aah _
      ·exact abe (acV hy) (HX.out.2.2 j (by omega))⟩,gq h1 _ _,(aak _ ⟨w.heap.size+1,1,none⟩ _ _ (by dsimp only;omega)).trans ((aak _ ⟨w.heap.size+1,0,none⟩ _ _ (by dsimp only;omega)).trans h0),(hb.setCell (p:=⟨w.heap.size+1,0,none⟩) (by dsimp only;omega) _).setCell (p:=⟨w.heap.size+1,1,none⟩) (by dsimp only;omega) _⟩
    case measure=>simp[intOf];omega
   ·have ec:¬fh (yE:Int) (xE:Int)<0:=by unfold fh;rw[aai (by omega)];split<;>omega
    simp only at hcm;generalize fh (yE:Int) (xE:Int)=cv at *;go_wp2_with fail;refine ax (fun u=>u.cell? ⟨g,k*2,none⟩=some (.int .i64 (yE:Nat))/\u.cell? ⟨g,k*2+1,none⟩=some (.func (.func yf) #[] yc)/\u.cell? ⟨w.heap.size+1,0,none⟩=some (.int .i64 (xE:Nat))/\u.cell? ⟨w.heap.size+1,1,none⟩=some (.func (.func xf) #[] xc)) 999 ?_;generalize wr.drew=wd at *;refine ap [0,1,2,3,4,5] ?_
    iterate 6 (refine au hS ?_;try simp only[Act.put])
    refine aj ?_;refine ag 6 fun K hK=>?_;go_simp;refine hcm.mono ?_;rintro e w1 ⟨rfl,hb1⟩;have hS1:=fw w1 hb1;refine hK _ _ (fun _=>hS1) ?_;clear hK K;have R1:w1.heap[w.heap.size+1]?=some (.cells #[.int .i64 (xE:Nat),.func (.func xf) #[] xc] 163 (0,0)):=(hb1.block _ (aaa Oh)).trans Oh;have R0:w1.heap[w.heap.size]?=some (.cells #[.int .i64 0,.nilFunc] 163 (0,0)):=(hb1.block _ (aaa Uw)).trans Uw;have B1:Below w.heap.size w w1:=hbd.trans (hb1.mono hbd.size);obtain⟨m0,m1,mz,ml⟩:=aN R1;have HN:Hid (_/\_/\_):=⟨R1,R0,B1⟩
    clear R1 R0 B1 Oh Uw hbd hcm fw hS;obtain⟨g0,g1,_,_⟩:=hS1;have hS1:=And.intro g0 (And.intro g1 (And.intro m0 m1));refine ap [7] ?_
    iterate 1 (refine au hS1 ?_;try simp only[Act.put])
    refine aj ?_;refine am ?_;clear hS1;go_wp2
    go_roundw
    case rel=>exact⟨k+1,(xE,xf,xc),by omega,by omega,by go_num,⟨HX.out.1,HX.out.2.1,fun j hj=>by
      by_cases e:j=k
      ·rw[e,Ue.out];show xE<=yE;omega
      ·exact HX.out.2.2 j (by omega)⟩,HN.out.1,HN.out.2.1,HN.out.2.2⟩
    case measure=>simp[intOf];omega
  ·obtain⟨m0,m1,mz,ml⟩:=aN HM.out;obtain⟨r0,r1,rz,rl⟩:=aN HR.out;simp only at m0 m1;go_wp2
   refine aaF (v:=Wg (xE,xf,xc)) ?_ rfl ⟨xE,xf,xc,HX.out.1,rfl,⟨HX.out.2.1,fun y1 y2 y3 hy=>by
    obtain⟨j,hj,e⟩:=acK hy;have:=HX.out.2.2 j (by omega);rw[aab,aan hj,e]at this
    exact this⟩,(hb.setCell (p:=⟨w.heap.size,0,none⟩) (by dsimp only;omega) _).setCell (p:=⟨w.heap.size,1,none⟩) (by dsimp only;omega) _⟩
   simp[results,Tryz.results118,go_sem,r0,r1]
def rV (w:World)(F M:Nat)(ea:Option Addr)(en:Nat)(T:ByteArray)(per:Nat):Prop:=w.heap[F]?=some (.cells #[.string T,.map (some M),.slice ea en en,.int .i64 (per:Nat)] 200 (0,0))
theorem rV.cells {w:World}{F M en per:Nat}{ea:Option Addr}{T:ByteArray}(h:rV w F M ea en T per):w.cell? ⟨F,0,none⟩=some (.string T)/\w.cell? ⟨F,1,none⟩=some (.map (some M))/\w.cell? ⟨F,2,none⟩=some (.slice ea en en)/\w.cell? ⟨F,3,none⟩=some (.int .i64 (per:Nat)) :=
 ⟨aat _ _ _ _ _ _ h,aat _ _ _ _ _ _ h,aat _ _ _ _ _ _ h,aat _ _ _ _ _ _ h⟩
theorem KL (F M en per:Nat)(ea:Option Addr)(T:ByteArray)(b p most:Nat)(w:World)(hF:rV w F M ea en T per)(hb:b+most<=T.size)(hp:p+most<=T.size)(hT:T.size<=4500000): Calls Tryz.prog 178 #[.pointer (some ⟨F,0,none⟩),.int .i64 b,.int .i64 p,.int .i64 most] w fun e w'=>∃L:Nat,e=.returned (.int .i64 L)/\L<=most/\(∀k,k<L->T.data.toList.getD (b+k) 0=T.data.toList.getD (p+k) 0)/\(L=most\/T.data.toList.getD (b+L) 0≠T.data.toList.getD (p+L) 0)/\∃n,w'=w.drewN n:=by
 obtain⟨c0,_⟩:=hF.cells;clear hF
 go_enter Tryz.func178,Tryz.ntmps178
 go_wp2
 go_loopw [9] (fun lv wr=>∃(L n:Nat),L<=most/\lv=.int .i64 L/\Hid (∀k,k<L->T.data.toList.getD (b+k) 0=T.data.toList.getD (p+k) 0)/\wr=w.drewN n) (fun lv _=>most-(intOf lv).toNat)
 case atStart=>exact⟨0,0,aaq _,rfl,fun k hk=>by omega,rfl⟩
 case round =>
  obtain⟨L,n,hL,rfl,HR,rfl⟩:=hrel;by_cases hlt:L<most
  ·have x1:=fun u=>xK T (b+L) (by omega) ((b:Int)+(L:Int)) (by omega) u;have x2:=fun u=>xK T (p+L) (by omega) ((p:Int)+(L:Int)) (by omega) u
   have HX:Hid ((T.data.toList.getD (b+L) 0).toNat=(T.data.toList.getD (p+L) 0).toNat->∀k,k<L+1->T.data.toList.getD (b+k) 0=T.data.toList.getD (p+k) 0):=fun hh k hk=>by
    by_cases e:k=L
    ·rw[e];exact UInt8.toNat_inj.1 (by omega)
    ·exact HR.out k (by omega)
   have VS:Hid (¬(T.data.toList.getD (b+L) 0).toNat=(T.data.toList.getD (p+L) 0).toNat->T.data.toList.getD (b+L) 0≠T.data.toList.getD (p+L) 0):=fun hh e=>hh (by rw[e]);have hdec:decide ((L:Int)<(most:Int))=true:=by simp;omega
   have w1:IntKind.i64.wrap ((b:Int)+(L:Int))=(b:Int)+(L:Int):=aao _ (by omega);have w2:IntKind.i64.wrap ((p:Int)+(L:Int))=(p:Int)+(L:Int):=aao _ (by omega);generalize (T.data.toList.getD (b+L) 0).toNat=x at *;generalize (T.data.toList.getD (p+L) 0).toNat=y at *;by_cases hxy:x=y
   ·have hxe:((x:Int)==(y:Int))=true:=by simp[hxy]
    go_wp2
    go_quiet (fail)
    go_wp2
    go_roundw
    case rel=>exact⟨L+1,n+nq,by omega,by go_num,HX.out hxy,rfl⟩
    case measure=>simp[intOf];omega
   ·have hxe:((x:Int)==(y:Int))=false:=by simp;omega
    go_wp2
    go_quiet (fail)
    go_wp2
    go_ret
    exact⟨L,rfl,hL,HR.out,.inr (VS.out hxy),n+nq,by simp⟩
  ·have hdec:decide ((L:Int)<(most:Int))=false:=by simp;omega
   go_wp2
   go_quiet (fail)
   go_wp2
   go_ret
   exact⟨L,rfl,hL,HR.out,.inl (by omega),n+nq,by simp⟩
def mB (T:ByteArray)(p:Nat):Nat:=((T.data.toList.getD p 0).toNat*65536|||(T.data.toList.getD (p+1) 0).toNat*256)|||(T.data.toList.getD (p+2) 0).toNat
theorem iI (T:ByteArray)(p:Nat):mB T p<16777216:=by
 have a:=(T.data.toList.getD p 0).toNat_lt;have b:=(T.data.toList.getD (p+1) 0).toNat_lt;have c:=(T.data.toList.getD (p+2) 0).toNat_lt;exact Nat.or_lt_two_pow (n:=24) (Nat.or_lt_two_pow (by omega) (by omega)) (by omega)
theorem et (F M en per:Nat)(ea:Option Addr)(T:ByteArray)(p:Nat)(w:World)(hF:rV w F M ea en T per)(hp:p+3<=T.size)(hT:T.size<=4500000): Calls Tryz.prog 179 #[.pointer (some ⟨F,0,none⟩),.int .i64 p] w fun e w'=>e=.returned (.int .u32 (mB T p:Nat))/\∃n,w'=w.drewN n:=by
 obtain⟨c0,_⟩:=hF.cells;clear hF;have hU:(T.extract p (p+3)).size=3:=by simp;omega
 obtain⟨U,hUe⟩:∃U,T.extract p (p+3)=U:=⟨_,rfl⟩
 have gu:∀j (h:j<U.size),j<3->U[j].toNat=(T.data.toList.getD (p+j) 0).toNat:=fun j h h3=>by
  rw[byte_at U j h,<-hUe,acs,acF,aco,aab,aab,abZ,aaj (by omega),List.getElem?_drop]
 rw[hUe]at hU;have g0:=gu 0 (by omega) (by omega);have g1:=gu 1 (by omega) (by omega);have g2:=gu 2 (by omega) (by omega);have b0:=(T.data.toList.getD p 0).toNat_lt;have b1:=(T.data.toList.getD (p+1) 0).toNat_lt;have b2:=(T.data.toList.getD (p+2) 0).toNat_lt;unfold mB;have g0:U[0].toNat=(T.data.toList.getD p 0).toNat:=g0;generalize (T.data.toList.getD p 0).toNat=x at *;generalize (T.data.toList.getD (p+1) 0).toNat=y at *;generalize (T.data.toList.getD (p+2) 0).toNat=z at *;clear gu;have o1:=u32_or_nat (x*65536) (y*256) (by omega) (by omega);have hxy:(x*65536|||y*256)<16777216:=Nat.or_lt_two_pow (n:=24) (by omega) (by omega);have o2:=u32_or_nat (x*65536|||y*256) z (by omega) (by omega);have O:Hid (_/\_):=⟨o1,o2⟩
 clear o1 o2 hxy
 go_enter Tryz.func179,Tryz.ntmps179
 go_wp2
 go_quiet (fail)
 go_wp2
 go_ret
 refine⟨abV (fun v=>Ending.returned (Value.int .u32 v)) ?_,⟨_,rfl⟩⟩;have e1:=O.out.1;have e2:=O.out.2;rw[show ((x*65536:Nat):Int)=(x:Int)*65536 by omega,show ((y*256:Nat):Int)=(y:Int)*256 by omega]at e1;rw[e1];exact e2
end
section
open Go.RowKit Go.Maps
theorem bV:Keyed Tryz.prog 73:=int_keyed Tryz.underlying73
theorem aaU (a:Nat)(h:a<16777216):(Lit.int .u32 (a:Int)).wf=true:=by
 have e1:IntKind.u32.min=0:=by decide
 have e2:IntKind.u32.max=4294967295:=by decide
 simp only[Lit.wf,e1,e2,aaS,aaW];omega
theorem uj (a:Nat)(h:a<16777216):keyOf Tryz.prog 73 (.int .u32 (a:Int))=some (.int .u32 (a:Int)):=keyOf_int_mk Tryz.underlying73 (aaU a h)
abbrev mq (a:Nat):Lit:=.int .u32 (a:Int)
theorem Oi (a:Nat)(h:a<16777216):WideAt.IsKeyLit (mq a):=bV.key (uj a h)
structure fa (D:DataW Unit) (T:ByteArray) (lo N:Nat):Prop where
 isMap:IsMap D
 val:∀x:Nat,x<16777216->Maps.has D (mq x)=true->∃v:Nat,D.atKey (mq x) (.lit (.int .i64 0))=.lit (.int .i64 (v:Int))/\v<N/\lo<=v/\mB T v=x/\v+3<=T.size
theorem fa.weak {D:DataW Unit}{T:ByteArray}{lo N lo' N':Nat}(h:fa D T lo N)(h1:lo'<=lo)(h2:N<=N'):fa D T lo' N' :=
 ⟨h.isMap,fun x hx hh=>by obtain⟨v,a,b,c,d⟩:=h.val x hx hh;exact⟨v,a,by omega,by omega,d⟩⟩
theorem fa.put {D:DataW Unit}{T:ByteArray}{lo N p:Nat}(h:fa D T lo N)(h1:lo<=p)(h2:p<N)(h3:p+3<=T.size):fa (D.put (mq (mB T p)) (.lit (.int .i64 (p:Int)))) T lo N:=by
 have hk:=Oi _ (iI T p);refine⟨h.isMap.put _ _,fun x hx hh=>?_⟩;by_cases e:x=mB T p
 ·subst e;exact⟨p,atKey_put_same h.isMap hk _ _,h2,h1,rfl,h3⟩
 ·have hne:mq x≠mq (mB T p):=fun q=>e (by simp only[mq,ab7,acm]at q;omega);rw[has_put_other hne]at hh;obtain⟨v,a,b⟩:=h.val x hx hh;exact⟨v,by rw[atKey_put_other hne];exact a,b⟩
theorem fa.far {D:DataW Unit}{T:ByteArray}{f N:Nat}(h:fa D T f N):fa (D.del (mq (mB T f))) T (f+1) N:=by
 refine⟨h.isMap.del _,fun x hx hh=>?_⟩;by_cases e:x=mB T f
 ·subst e;rw[has_del_same]at hh;cases hh
 ·have hne:mq x≠mq (mB T f):=fun q=>e (by simp only[mq,ab7,acm]at q;omega);rw[has_del_other hne]at hh;obtain⟨v,a,b,c,d,g⟩:=h.val x hx hh;refine⟨v,by rw[atKey_del_other hne];exact a,b,?_,d,g⟩;rcases aba f v with q|q
  ·exact q
  ·have:v=f:=by omega
   subst this;exact absurd d.symm e
theorem fa.near {D:DataW Unit}{T:ByteArray}{f N:Nat}(h:fa D T f N)(c:Int)(hc:D.atKey (mq (mB T f)) (.lit (.int .i64 0))=.lit (.int .i64 c))(hne:c≠(f:Int)):fa D T (f+1) N:=by
 refine⟨h.isMap,fun x hx hh=>?_⟩;obtain⟨v,a,b,cc,d,g⟩:=h.val x hx hh;refine⟨v,a,b,?_,d,g⟩;rcases aba f v with q|q
 ·exact q
 ·have:v=f:=by omega
  subst this;rw[d,a]at hc;simp only[ab3,ab7,acm]at hc;exact absurd hc.symm hne
structure Fd (w:World) (F M G en per:Nat) (T:ByteArray) (N:Nat):Prop where
 box:rV w F M (some ⟨G,0,none⟩) en T per
 map:∃D q,w.ownsMap Tryz.prog 73 (plainElem Tryz.prog 3) M q D/\q<=N/\fa D T (N-32768) N
 Wk:∃es,aQ w G es/\es.length=en/\∀j,-1<=es.getD j 0/\(es.getD j 0<(N:Int)\/es.getD j 0=0)
 sz:en=min T.size 32768
 ne:F≠M/\F≠G/\M≠G
theorem Fd.kept {w w':World}{F M G en per N:Nat}{T:ByteArray}(h:Fd w F M G en per T N)(k:∀j,j=F\/j=M\/j=G->w'.heap[j]?=w.heap[j]?):Fd w' F M G en per T N:=by
 obtain⟨a,⟨D,q,b1,b2⟩,⟨es,c1,c2⟩,d,e⟩:=h;refine⟨(k F (.inl rfl)).trans a,⟨D,q,?_,b2⟩,⟨es,(k G (.inr (.inr rfl))).trans c1,c2⟩,d,e⟩;obtain⟨es',clock,hb,r⟩:=b1;exact⟨es',clock,(k M (.inr (.inl rfl))).trans hb,r⟩
theorem Fd.lt {w:World}{F M G en per N:Nat}{T:ByteArray}(h:Fd w F M G en per T N):F<w.heap.size/\M<w.heap.size/\G<w.heap.size:=by
 obtain⟨D,q,b1,_⟩:=h.map;obtain⟨es,c1,_⟩:=h.Wk;exact⟨aaa h.box,b1.lt,aaa c1⟩
theorem Fd.below {w w':World}{F M G en per N:Nat}{T:ByteArray}(h:Fd w F M G en per T N)(k:Below w.heap.size w w'):Fd w' F M G en per T N:=by
 obtain⟨a,b,c⟩:=h.lt;exact h.kept (fun j hj=>k.block j (by rcases hj with rfl|rfl|rfl<;>assumption))
theorem qK {es:List Int}{N i:Nat}{x:Int}(h:∀j,-1<=es.getD j 0/\(es.getD j 0<(N:Int)\/es.getD j 0=0))(h1:-1<=x)(h2:x<(N:Int)\/x=0):∀j,-1<=(es.set i x).getD j 0/\((es.set i x).getD j 0<((N+1:Nat):Int)\/(es.set i x).getD j 0=0):=fun j=>by
 rw[aab,List.getElem?_set];have:=h j;rw[aab]at this;split
 ·split
  ·simp only[ac1];omega
  ·simp
 ·omega
theorem KM {es:List Int}{N:Nat}(h:∀j,-1<=es.getD j 0/\(es.getD j 0<(N:Int)\/es.getD j 0=0)):∀j,-1<=es.getD j 0/\(es.getD j 0<((N+1:Nat):Int)\/es.getD j 0=0):=fun j=>by
 have:=h j;omega
theorem oX (F M G en per N:Nat)(T:ByteArray)(w:World)(h:Fd w F M G en per T N)(hN:N<T.size)(hT:T.size<=4500000): Calls Tryz.prog 160 #[.pointer (some ⟨F,0,none⟩),.int .i64 N] w fun e w'=>e=.returned (.tuple #[])/\Fd w' F M G en per T (N+1)/\Kp (fun k=>k=M\/k=G) w w':=by
 obtain⟨hB0,⟨D0,q0,hM0,hq0,hk0⟩,⟨es,hL0,hel,hes⟩,hsz,hne⟩:=h;have KN:Kp (fun k=>k=M\/k=G) w w:=Kp.refl _ _;have Ux:(Lit.int .i64 (N:Int)).wf=true:=WalkArith.wf_i64 (by omega);obtain⟨r,hr⟩:∃r,N%32768=r:=⟨_,rfl⟩
 have hidx:r<es.length:=by omega
 have Wl:(N:Int).tmod 32768=(r:Int):=by rw[acD (by omega)];omega
 have HR:Hid (N%32768=r):=hr;clear hr;have zr:Hid (fa D0 T (N-32768) N):=hk0;clear hk0;have hrN:r<32768:=by have:=HR.out;omega
 have tu:Hid (en=min T.size 32768):=hsz;clear hsz;obtain⟨c0,c1,c2,c3⟩:=hB0.cells;obtain⟨fi,w1⟩:∃fi,IntKind.i64.wrap ((N:Int)-32768)=fi:=⟨_,rfl⟩
 have Km:Hid (fi=(N:Int)-32768):=by show _=_;rw[<-w1];exact aao _ (by omega)
 obtain⟨li,w2⟩:∃li,IntKind.i64.wrap ((T.size:Int)-(N:Int))=li:=⟨_,rfl⟩
 have Oj:Hid (li=(T.size:Int)-(N:Int)):=by show _=_;rw[<-w2];exact aao _ (by omega)
 have HT:Hid (N<T.size/\T.size<=4500000):=⟨hN,hT⟩
 by_cases Nq:fi≥0
 ·obtain⟨f,rfl⟩:∃f:Nat,fi=(f:Int):=⟨fi.toNat,by omega⟩
  have Qh:Hid (N=f+32768):=by show _=_;have:=Km.out;omega
  have hk0':Hid (fa D0 T f N):=zr.out.weak (by have:=Qh.out;omega) (aah _);have hkeyf:=uj (mB T f) (iI T f);obtain⟨cv,_,AP,_⟩:=hM0.lookup_int bV Tryz.underlying198 Tryz.underlying3 (im w) hkeyf
  have SE:cv≠(f:Int)->Hid (fa D0 T (N+1-32768) N):=fun hc=>by
   have:=hk0'.out.near cv AP hc;rw[show f+1=N+1-32768 by have:=Qh.out;omega]at this;exact this
  have Ok:Hid (fa (D0.del (mq (mB T f))) T (N+1-32768) N):=by
   have:=hk0'.out.far;rw[show f+1=N+1-32768 by have:=Qh.out;omega]at this;exact this
  have hfT:f+3<=T.size:=by have:=Qh.out;omega
  have wT:=HT.out.2;have Eu:=et F M en per _ T f w hB0 hfT hT;clear hN hT zr hk0' wT hfT;generalize hkf:mB T f=kf at *;by_cases hcf:cv=(f:Int)
  ·have hcb:(cv==(f:Int))=true:=by simp[hcf]
   have hk1:Hid (fa (D0.del (mq kf)) T (N+1-32768) N):=Ok;clear SE Ok
   go_enter Tryz.func160,Tryz.ntmps160
   go_wp2_with fail;refine Eu.mono ?_;rintro e u0 ⟨rfl,n1,rfl⟩;have hB':rV (w.drewN n1) F M (some ⟨G,0,none⟩) en T per:=hB0;have hM':(w.drewN n1).ownsMap Tryz.prog 73 (plainElem Tryz.prog 3) M q0 D0:=hM0;have hL':aQ (w.drewN n1) G es:=hL0;have aaV:Kp (fun k=>k=M\/k=G) w (w.drewN n1):=KN.drewN n1;clear Eu c0 c1 c2 c3;obtain⟨c0,c1,c2,c3⟩:=hB'.cells
   have hTu:∀u1,(w.drewN n1).mapTurned u1 M->rV u1 F M (some ⟨G,0,none⟩) en T per/\aQ u1 G es/\Kp (fun k=>k=M\/k=G) w u1:=fun u1 ht=>by
    have hg:=ht.grown;exact⟨(hg.block F (aaa hB') (fun e=>hne.1 (aaH e))).trans hB',(hg.block G (aaa hL') (fun e=>hne.2.2 (aaH e).symm)).trans hL',aaV.grown hg (fun k e=>by cases e;exact .inl (.inl rfl))⟩
   have hTc:∀u1,(w.drewN n1).mapTurned u1 M->u1.cell? ⟨F,0,none⟩=some (.string T):=fun u1 ht=>(hTu u1 ht).1.cells.1;generalize w.drewN n1=u0 at *;by_cases hsh:li<3
   ·go_wp2_with (first|(at_lookup;refine wpList_lookup_own_int _ rfl _ _ 198 rfl 73 3 .i64 bV Tryz.underlying198 Tryz.underlying3 (im _) M _ _ rfl hM' _ _ rfl hkeyf ?_;intro c hat hwc;clear hwc;rw[AP]at hat;simp only[ab3,ab7,acm]at hat;subst hat)|(at_delete;refine wpList_delete_own _ rfl _ _ 198 73 rfl 3 bV Tryz.underlying198 _ M _ _ rfl hM' _ _ rfl hkeyf ?_;intro u1 hM1 ht1));obtain⟨hB1,hL1,AQ⟩:=hTu u1 ht1;have hTN:=HT.out;have MJ:=Oj.out;exact aaF (results_none rfl _ _ _) rfl ⟨rfl,⟨hB1,⟨(D0.del (mq kf)),q0,hM1,by omega,hk1.out.weak (by omega) (by omega)⟩,⟨es,hL1,hel,KM hes⟩,tu.out,hne⟩,AQ⟩
   ·go_wp2_with (first|(at_lookup;refine wpList_lookup_own_int _ rfl _ _ 198 rfl 73 3 .i64 bV Tryz.underlying198 Tryz.underlying3 (im _) M _ _ rfl hM' _ _ rfl hkeyf ?_;intro c hat hwc;clear hwc;rw[AP]at hat;simp only[ab3,ab7,acm]at hat;subst hat)|(at_delete;refine wpList_delete_own _ rfl _ _ 198 73 rfl 3 bV Tryz.underlying198 _ M _ _ rfl hM' _ _ rfl hkeyf ?_;intro u1 hM1 ht1));obtain⟨hB1,hL1,AQ⟩:=hTu u1 ht1;refine (et F M en per _ T N u1 hB1 (by have:=HT.out;have:=Oj.out;omega) HT.out.2).mono ?_;rintro e u2 ⟨rfl,n2,rfl⟩;have hB2:rV (u1.drewN n2) F M (some ⟨G,0,none⟩) en T per:=hB1;have hM2:(u1.drewN n2).ownsMap Tryz.prog 73 (plainElem Tryz.prog 3) M q0 (D0.del (mq kf)):=hM1;have hL2:aQ (u1.drewN n2) G es:=hL1;have AR:Kp (fun k=>k=M\/k=G) w (u1.drewN n2):=AQ.drewN n2;have HP:Hid (fa ((D0.del (mq kf)).put (mq (mB T N)) (.lit (.int .i64 (N:Int)))) T (N+1-32768) (N+1)):=(hk1.out.weak (aah _) (Nat.le_succ _)).put (by omega) (by omega) (by have:=HT.out;have:=Oj.out;omega);generalize u1.drewN n2=u2 at *;clear hB1 hM1 hL1 AQ;obtain⟨d0,d1,d2,d3⟩:=hB2.cells;have cG:=hL2.at_ r (by omega);have fzG:∀j,u2.frozen? ⟨G,j,none⟩=false:=fun j=>aaI u2 G j _ _ hL2;have hMs:=fun x=>hM2.setCell (a:=⟨G,r,none⟩) hne.2.2 x;have Qi:=fun x:Int=>hL2.set r x;have Qj:=fun x:Value=>(aak u2 ⟨G,r,none⟩ x F hne.2.1).trans hB2;have hks:=fun x:Value=>AR.setCell (p:=⟨G,r,none⟩) (.inl (.inr rfl)) x;have HC:Hid (_/\_/\_/\_):=⟨hMs,Qi,Qj,hks⟩
    have jF:=uj (mB T N) (iI T N);have hqm:q0<maxLen:=by have:=HT.out;unfold maxLen;omega
    have hlG:G<u2.heap.size:=aaa hL2;have hlF:F<u2.heap.size:=aaa hB2;have hv0:=hk1.out.val _ (iI T N);have hnot:Maps.has (D0.del (mq kf)) (mq (mB T N))=false->(D0.del (mq kf)).atKey (mq (mB T N)) (.lit (.int .i64 0))=.lit (.int .i64 0):=fun hh=>atKey_of_not_has hh _;generalize Eu:mB T N=kx at *;clear hL2 hB2 Qi Qj hks AR;by_cases hh:Maps.has (D0.del (mq kf)) (mq kx)=true
    ·obtain⟨v,hval,hvN,_⟩:=hv0 hh;clear hv0 hnot hMs;go_wp2_with (first|(at_lookup;refine acx _ rfl _ _ 198 rfl 73 3 .i64 bV Tryz.underlying198 Tryz.underlying3 (im _) M _ _ rfl hM2 _ _ rfl jF ?_;intro c hat hwc;clear hwc;rw[hval]at hat;simp only[ab3,ab7,acm]at hat;subst hat)|(at_mapUpdate;refine acO _ rfl _ _ _ 198 rfl 73 3 bV Tryz.underlying198 _ M _ _ rfl (HC.out.1 _) hqm _ _ _ rfl rfl jF _ [] (ac2 Tryz.underlying3 Ux) ?_;intro u3 hown3 hg3))
     go_end0
     obtain⟨Wm,KO,KP,KQ⟩:=HC.out;exact⟨rfl,⟨(hg3.block F (by rw[ab6];omega) (fun e=>hne.1 (aaH e))).trans (KP _),⟨_,q0+1,hown3,by omega,HP.out⟩,⟨_,(hg3.block G (by rw[ab6];omega) (fun e=>hne.2.2 (aaH e).symm)).trans (KO _),by rw[abd];exact hel,qK hes (by omega) (by omega)⟩,tu.out,hne⟩,(KQ _).grown hg3 (fun k e=>by cases e;exact .inl (.inl rfl))⟩
    ·have hh:Maps.has (D0.del (mq kf)) (mq kx)=false:=by simpa using hh
     have hval:=hnot hh;clear hv0 hnot hMs;go_wp2_with (first|(at_lookup;refine acx _ rfl _ _ 198 rfl 73 3 .i64 bV Tryz.underlying198 Tryz.underlying3 (im _) M _ _ rfl hM2 _ _ rfl jF ?_;intro c hat hwc;clear hwc;rw[hval]at hat;simp only[ab3,ab7,acm]at hat;subst hat)|(at_mapUpdate;refine acO _ rfl _ _ _ 198 rfl 73 3 bV Tryz.underlying198 _ M _ _ rfl (HC.out.1 _) hqm _ _ _ rfl rfl jF _ [] (ac2 Tryz.underlying3 Ux) ?_;intro u3 hown3 hg3))
     go_end0
     obtain⟨Wm,KO,KP,KQ⟩:=HC.out;exact⟨rfl,⟨(hg3.block F (by rw[ab6];omega) (fun e=>hne.1 (aaH e))).trans (KP _),⟨_,q0+1,hown3,by omega,HP.out⟩,⟨_,(hg3.block G (by rw[ab6];omega) (fun e=>hne.2.2 (aaH e).symm)).trans (KO _),by rw[abd];exact hel,qK hes (by omega) (by omega)⟩,tu.out,hne⟩,(KQ _).grown hg3 (fun k e=>by cases e;exact .inl (.inl rfl))⟩
  ·have hcb:(cv==(f:Int))=false:=by simp[hcf]
   have hk1:=SE hcf;clear SE Ok
   go_enter Tryz.func160,Tryz.ntmps160
   go_wp2_with fail;refine Eu.mono ?_;rintro e u0 ⟨rfl,n1,rfl⟩;have hB1:rV (w.drewN n1) F M (some ⟨G,0,none⟩) en T per:=hB0;have hM1:(w.drewN n1).ownsMap Tryz.prog 73 (plainElem Tryz.prog 3) M q0 D0:=hM0;have hL1:aQ (w.drewN n1) G es:=hL0;have AQ:Kp (fun k=>k=M\/k=G) w (w.drewN n1):=KN.drewN n1;clear Eu c0 c1 c2 c3;obtain⟨c0,c1,c2,c3⟩:=hB1.cells;generalize w.drewN n1=u1 at *;by_cases hsh:li<3
   ·go_wp2_with ((at_lookup;refine wpList_lookup_own_int _ rfl _ _ 198 rfl 73 3 .i64 bV Tryz.underlying198 Tryz.underlying3 (im _) M _ _ rfl hM1 _ _ rfl hkeyf ?_;intro c hat hwc;clear hwc;rw[AP]at hat;simp only[ab3,ab7,acm]at hat;subst hat));have hTN:=HT.out;have MJ:=Oj.out;exact aaF (results_none rfl _ _ _) rfl ⟨rfl,⟨hB1,⟨D0,q0,hM1,by omega,hk1.out.weak (by omega) (by omega)⟩,⟨es,hL1,hel,KM hes⟩,tu.out,hne⟩,AQ⟩
   ·go_wp2_with ((at_lookup;refine wpList_lookup_own_int _ rfl _ _ 198 rfl 73 3 .i64 bV Tryz.underlying198 Tryz.underlying3 (im _) M _ _ rfl hM1 _ _ rfl hkeyf ?_;intro c hat hwc;clear hwc;rw[AP]at hat;simp only[ab3,ab7,acm]at hat;subst hat));refine (et F M en per _ T N u1 hB1 (by have:=HT.out;have:=Oj.out;omega) HT.out.2).mono ?_;rintro e u2 ⟨rfl,n2,rfl⟩;have hB2:rV (u1.drewN n2) F M (some ⟨G,0,none⟩) en T per:=hB1;have hM2:(u1.drewN n2).ownsMap Tryz.prog 73 (plainElem Tryz.prog 3) M q0 D0:=hM1;have hL2:aQ (u1.drewN n2) G es:=hL1;have AR:Kp (fun k=>k=M\/k=G) w (u1.drewN n2):=AQ.drewN n2;have HP:Hid (fa (D0.put (mq (mB T N)) (.lit (.int .i64 (N:Int)))) T (N+1-32768) (N+1)):=(hk1.out.weak (aah _) (Nat.le_succ _)).put (by omega) (by omega) (by have:=HT.out;have:=Oj.out;omega);generalize u1.drewN n2=u2 at *;clear hB1 hM1 hL1 AQ;obtain⟨d0,d1,d2,d3⟩:=hB2.cells;have cG:=hL2.at_ r (by omega);have fzG:∀j,u2.frozen? ⟨G,j,none⟩=false:=fun j=>aaI u2 G j _ _ hL2;have hMs:=fun x=>hM2.setCell (a:=⟨G,r,none⟩) hne.2.2 x;have Qi:=fun x:Int=>hL2.set r x;have Qj:=fun x:Value=>(aak u2 ⟨G,r,none⟩ x F hne.2.1).trans hB2;have hks:=fun x:Value=>AR.setCell (p:=⟨G,r,none⟩) (.inl (.inr rfl)) x;have HC:Hid (_/\_/\_/\_):=⟨hMs,Qi,Qj,hks⟩
    have jF:=uj (mB T N) (iI T N);have hqm:q0<maxLen:=by have:=HT.out;unfold maxLen;omega
    have hlG:G<u2.heap.size:=aaa hL2;have hlF:F<u2.heap.size:=aaa hB2;have hv0:=hk1.out.val _ (iI T N);have hnot:Maps.has D0 (mq (mB T N))=false->D0.atKey (mq (mB T N)) (.lit (.int .i64 0))=.lit (.int .i64 0):=fun hh=>atKey_of_not_has hh _;generalize Eu:mB T N=kx at *;clear hL2 hB2 Qi Qj hks AR;by_cases hh:Maps.has D0 (mq kx)=true
    ·obtain⟨v,hval,hvN,_⟩:=hv0 hh;clear hv0 hnot hMs;go_wp2_with (first|(at_lookup;refine acx _ rfl _ _ 198 rfl 73 3 .i64 bV Tryz.underlying198 Tryz.underlying3 (im _) M _ _ rfl hM2 _ _ rfl jF ?_;intro c hat hwc;clear hwc;rw[hval]at hat;simp only[ab3,ab7,acm]at hat;subst hat)|(at_mapUpdate;refine acO _ rfl _ _ _ 198 rfl 73 3 bV Tryz.underlying198 _ M _ _ rfl (HC.out.1 _) hqm _ _ _ rfl rfl jF _ [] (ac2 Tryz.underlying3 Ux) ?_;intro u3 hown3 hg3))
     go_end0
     obtain⟨Wm,KO,KP,KQ⟩:=HC.out;exact⟨rfl,⟨(hg3.block F (by rw[ab6];omega) (fun e=>hne.1 (aaH e))).trans (KP _),⟨_,q0+1,hown3,by omega,HP.out⟩,⟨_,(hg3.block G (by rw[ab6];omega) (fun e=>hne.2.2 (aaH e).symm)).trans (KO _),by rw[abd];exact hel,qK hes (by omega) (by omega)⟩,tu.out,hne⟩,(KQ _).grown hg3 (fun k e=>by cases e;exact .inl (.inl rfl))⟩
    ·have hh:Maps.has D0 (mq kx)=false:=by simpa using hh
     have hval:=hnot hh;clear hv0 hnot hMs;go_wp2_with (first|(at_lookup;refine acx _ rfl _ _ 198 rfl 73 3 .i64 bV Tryz.underlying198 Tryz.underlying3 (im _) M _ _ rfl hM2 _ _ rfl jF ?_;intro c hat hwc;clear hwc;rw[hval]at hat;simp only[ab3,ab7,acm]at hat;subst hat)|(at_mapUpdate;refine acO _ rfl _ _ _ 198 rfl 73 3 bV Tryz.underlying198 _ M _ _ rfl (HC.out.1 _) hqm _ _ _ rfl rfl jF _ [] (ac2 Tryz.underlying3 Ux) ?_;intro u3 hown3 hg3))
     go_end0
     obtain⟨Wm,KO,KP,KQ⟩:=HC.out;exact⟨rfl,⟨(hg3.block F (by rw[ab6];omega) (fun e=>hne.1 (aaH e))).trans (KP _),⟨_,q0+1,hown3,by omega,HP.out⟩,⟨_,(hg3.block G (by rw[ab6];omega) (fun e=>hne.2.2 (aaH e).symm)).trans (KO _),by rw[abd];exact hel,qK hes (by omega) (by omega)⟩,tu.out,hne⟩,(KQ _).grown hg3 (fun k e=>by cases e;exact .inl (.inl rfl))⟩
 ·have hk1:Hid (fa D0 T (N+1-32768) N):=zr.out.weak (by have:=Km.out;omega) (aah _);clear hN hT
  go_enter Tryz.func160,Tryz.ntmps160
  by_cases hsh:li<3
  ·go_wp2;have hTN:=HT.out;have MJ:=Oj.out;exact aaF (results_none rfl _ _ _) rfl ⟨rfl,⟨hB0,⟨D0,q0,hM0,by omega,hk1.out.weak (by omega) (by omega)⟩,⟨es,hL0,hel,KM hes⟩,tu.out,hne⟩,KN⟩
  ·go_wp2_with fail;refine (et F M en per _ T N w hB0 (by have:=HT.out;have:=Oj.out;omega) HT.out.2).mono ?_;rintro e u2 ⟨rfl,n2,rfl⟩;have hB2:rV (w.drewN n2) F M (some ⟨G,0,none⟩) en T per:=hB0;have hM2:(w.drewN n2).ownsMap Tryz.prog 73 (plainElem Tryz.prog 3) M q0 D0:=hM0;have hL2:aQ (w.drewN n2) G es:=hL0;have AR:Kp (fun k=>k=M\/k=G) w (w.drewN n2):=KN.drewN n2;have HP:Hid (fa (D0.put (mq (mB T N)) (.lit (.int .i64 (N:Int)))) T (N+1-32768) (N+1)):=(hk1.out.weak (aah _) (Nat.le_succ _)).put (by omega) (by omega) (by have:=HT.out;have:=Oj.out;omega);generalize w.drewN n2=u2 at *;clear hB0 hM0 hL0 KN;obtain⟨d0,d1,d2,d3⟩:=hB2.cells;have cG:=hL2.at_ r (by omega);have fzG:∀j,u2.frozen? ⟨G,j,none⟩=false:=fun j=>aaI u2 G j _ _ hL2;have hMs:=fun x=>hM2.setCell (a:=⟨G,r,none⟩) hne.2.2 x;have Qi:=fun x:Int=>hL2.set r x;have Qj:=fun x:Value=>(aak u2 ⟨G,r,none⟩ x F hne.2.1).trans hB2;have hks:=fun x:Value=>AR.setCell (p:=⟨G,r,none⟩) (.inl (.inr rfl)) x;have HC:Hid (_/\_/\_/\_):=⟨hMs,Qi,Qj,hks⟩
   have jF:=uj (mB T N) (iI T N);have hqm:q0<maxLen:=by have:=HT.out;unfold maxLen;omega
   have hlG:G<u2.heap.size:=aaa hL2;have hlF:F<u2.heap.size:=aaa hB2;have hv0:=hk1.out.val _ (iI T N);have hnot:Maps.has D0 (mq (mB T N))=false->D0.atKey (mq (mB T N)) (.lit (.int .i64 0))=.lit (.int .i64 0):=fun hh=>atKey_of_not_has hh _;generalize Eu:mB T N=kx at *;clear hL2 hB2 Qi Qj hks AR;by_cases hh:Maps.has D0 (mq kx)=true
   ·obtain⟨v,hval,hvN,_⟩:=hv0 hh;clear hv0 hnot hMs;go_wp2_with (first|(at_lookup;refine acx _ rfl _ _ 198 rfl 73 3 .i64 bV Tryz.underlying198 Tryz.underlying3 (im _) M _ _ rfl hM2 _ _ rfl jF ?_;intro c hat hwc;clear hwc;rw[hval]at hat;simp only[ab3,ab7,acm]at hat;subst hat)|(at_mapUpdate;refine acO _ rfl _ _ _ 198 rfl 73 3 bV Tryz.underlying198 _ M _ _ rfl (HC.out.1 _) hqm _ _ _ rfl rfl jF _ [] (ac2 Tryz.underlying3 Ux) ?_;intro u3 hown3 hg3))
    go_end0
    obtain⟨Wm,KO,KP,KQ⟩:=HC.out;exact⟨rfl,⟨(hg3.block F (by rw[ab6];omega) (fun e=>hne.1 (aaH e))).trans (KP _),⟨_,q0+1,hown3,by omega,HP.out⟩,⟨_,(hg3.block G (by rw[ab6];omega) (fun e=>hne.2.2 (aaH e).symm)).trans (KO _),by rw[abd];exact hel,qK hes (by omega) (by omega)⟩,tu.out,hne⟩,(KQ _).grown hg3 (fun k e=>by cases e;exact .inl (.inl rfl))⟩
   ·have hh:Maps.has D0 (mq kx)=false:=by simpa using hh
    have hval:=hnot hh;clear hv0 hnot hMs;go_wp2_with (first|(at_lookup;refine acx _ rfl _ _ 198 rfl 73 3 .i64 bV Tryz.underlying198 Tryz.underlying3 (im _) M _ _ rfl hM2 _ _ rfl jF ?_;intro c hat hwc;clear hwc;rw[hval]at hat;simp only[ab3,ab7,acm]at hat;subst hat)|(at_mapUpdate;refine acO _ rfl _ _ _ 198 rfl 73 3 bV Tryz.underlying198 _ M _ _ rfl (HC.out.1 _) hqm _ _ _ rfl rfl jF _ [] (ac2 Tryz.underlying3 Ux) ?_;intro u3 hown3 hg3))
    go_end0
    obtain⟨Wm,KO,KP,KQ⟩:=HC.out;exact⟨rfl,⟨(hg3.block F (by rw[ab6];omega) (fun e=>hne.1 (aaH e))).trans (KP _),⟨_,q0+1,hown3,by omega,HP.out⟩,⟨_,(hg3.block G (by rw[ab6];omega) (fun e=>hne.2.2 (aaH e).symm)).trans (KO _),by rw[abd];exact hel,qK hes (by omega) (by omega)⟩,tu.out,hne⟩,(KQ _).grown hg3 (fun k e=>by cases e;exact .inl (.inl rfl))⟩
def lE (T:List UInt8)(p most l d:Nat):Prop:=(l=1/\d=0)\/(3<=l/\l<=most/\1<=d/\d<=32768/\d<=p/\∀k,k<l->T.getD (p+k) 0=T.getD (p+k-d) 0)
structure Ol (T:List UInt8) (b p most l l':Nat):Prop where
 le:l<=l'
 more:∀m,m<=most->3<=m->(∀k,k<m->T.getD (b+k) 0=T.getD (p+k) 0)->m<=l'
structure iN (w:World) (Xf Xp Xm Xb F p most:Nat) (l d:Nat):Prop where
 f:bG w Xf (.pointer (some ⟨F,0,none⟩)) 183
 p:bG w Xp (.int .i64 (p:Nat)) 3
 m:bG w Xm (.int .i64 (most:Nat)) 3
 b:w.heap[Xb]?=some (.cells #[.int .i64 (l:Nat),.int .i64 (d:Nat)] 187 (0,0))
 ne:Xb≠Xf/\Xb≠Xp/\Xb≠Xm
theorem iN.drewN {w:World}{Xf Xp Xm Xb F p most l d:Nat}(h:iN w Xf Xp Xm Xb F p most l d)(n:Nat):iN (w.drewN n) Xf Xp Xm Xb F p most l d:=⟨h.f,h.p,h.m,h.b,h.ne⟩
theorem Dq (Xf Xp Xm Xb F M en per p most l d b:Nat)(ea:Option Addr)(T:ByteArray)(w:World)(h:iN w Xf Xp Xm Xb F p most l d)(hF:rV w F M ea en T per)(hT:T.size<=4500000)(hb:b<p)(hd:p<=b+32768)(hp:p+most<=T.size)(ho:lE T.data.toList p most l d): Calls Tryz.prog 177 #[.int .i64 b,.pointer (some ⟨Xf,0,none⟩),.pointer (some ⟨Xp,0,none⟩),.pointer (some ⟨Xm,0,none⟩),.pointer (some ⟨Xb,0,none⟩)] w fun e w'=>e=.returned (.tuple #[])/\∃l' d',lE T.data.toList p most l' d'/\iN w' Xf Xp Xm Xb F p most l' d'/\Ol T.data.toList b p most l l'/\Kp (·=Xb) w w':=by
 have hal:=KL F M en per ea T b p most w hF (by omega) (by omega) hT;have c0:=h.f.cell;have c1:=h.p.cell;have c2:=h.m.cell
 go_enter Tryz.func177,Tryz.ntmps177
 go_wp2_with fail;refine hal.mono ?_;rintro e w1 ⟨L,rfl,hL,hsame,hmx,n,rfl⟩
 have Uy:Hid (∀m,m<=most->(∀k,k<m->T.data.toList.getD (b+k) 0=T.data.toList.getD (p+k) 0)->m<=L):=fun m hm hk=>by
  rcases hmx with q|q
  ·omega
  ·exact Nat.le_of_not_lt fun hlt=>q (hk L hlt)
 clear hmx;have h1:=h.drewN n;have hk1:Kp (·=Xb) w (w.drewN n):=(Kp.refl _ _).drewN n;clear h hF hal c0 c1 c2;generalize w.drewN n=u at *;have c1:=h1.p.cell;obtain⟨y0,y1,fz,hlb⟩:=aN h1.b;have KR:p<=4500000:=by omega
 by_cases h3:3<=L
 ·by_cases hlt:l<L
  ·obtain⟨pd,Z8⟩:∃pd:Nat,p-b=pd:=⟨_,rfl⟩
   have hw:IntKind.i64.wrap ((p:Int)-(b:Int))=(pd:Int):=(aao _ (by omega)).trans (by omega);have HB:Hid (lE T.data.toList p most L pd):=.inr ⟨h3,hL,by omega,by omega,by omega,fun k hk=>by rw[<-hsame k hk,show p+k-pd=b+k by omega]⟩
   have HU:Hid (iN ((u.setCell ⟨Xb,0,none⟩ (.int .i64 (L:Nat))).setCell ⟨Xb,1,none⟩ (.int .i64 (pd:Nat))) Xf Xp Xm Xb F p most L pd):=by
    have kp:∀(v1 v2:Value) (g:Nat),g≠Xb->((u.setCell ⟨Xb,0,none⟩ v1).setCell ⟨Xb,1,none⟩ v2).heap[g]?=u.heap[g]?:=fun v1 v2 g hg=>(aak _ ⟨Xb,1,none⟩ _ _ hg).trans (aak _ ⟨Xb,0,none⟩ _ _ hg);exact⟨(kp _ _ _ (acN h1.ne.1)).trans h1.f,(kp _ _ _ (acN h1.ne.2.1)).trans h1.p,(kp _ _ _ (acN h1.ne.2.2)).trans h1.m,gq h1.b _ _,h1.ne⟩
   have HK:=fun v1 v2=>(hk1.setCell (p:=⟨Xb,0,none⟩) (.inl rfl) v1).setCell (p:=⟨Xb,1,none⟩) (.inl rfl) v2;have hLl:(L:Int)>(l:Int):=by omega
   have hL3:(L:Int)≥3:=by omega
   clear hsame ho Z8;go_wp2
   go_end0
   exact⟨rfl,L,pd,HB.out,HU.out,⟨by omega,fun m h1 _ h3=>Uy.out m h1 h3⟩,HK _ _⟩
  ·have hLl:¬(L:Int)>(l:Int):=by omega
   have hL3:(L:Int)≥3:=by omega
   have HO:Hid (lE T.data.toList p most l d):=ho;clear hsame ho;go_wp2
   go_end0
   exact⟨rfl,l,d,HO.out,h1,⟨aah _,fun m h1 _ h3=>by have:=Uy.out m h1 h3;omega⟩,hk1⟩
 ·have hL3:¬(L:Int)≥3:=by omega
  have HO:Hid (lE T.data.toList p most l d):=ho;clear hsame ho;go_wp2
  go_end0
  exact⟨rfl,l,d,HO.out,h1,⟨aah _,fun m h1 h2 h3=>by have:=Uy.out m h1 h3;omega⟩,hk1⟩
theorem Om (args:Array Value)(w:World):(callFunc 177 args).run Tryz.prog w=.ok (.enter 177 args) w:=by kernel_rfl
end
end Go.Proofs.YtmfijackgekioabGreatDoor
