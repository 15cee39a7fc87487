import Derived.Test.YtmfijackgekioaaGreatDoorQ21
set_option maxHeartbeats 4000000
set_option maxRecDepth 100000
namespace Go.Proofs.YtmfijackgekioaaGreatDoor
section
open Go.RowKit
theorem Tryz.infoPlan:(Tryz.prog.info? 188).map (fun i=>(i.zero,i.size,i.bytes))=some (some (.agg #[.int .i64 0,.nilFunc]),2,16):=by kernel_rfl
abbrev Pl:=Nat×Nat×Array Value
def ky (x:Pl):List Value:=[.int .i64 (x.1:Nat),.func (.func x.2.1) #[] x.2.2]
def du (l:List Pl):List Value:=l.flatMap ky
theorem BH:∀u l,u∈du l->u.oneCell'=true:=fun u l h=>by
 obtain⟨x,_,hx⟩:=List.mem_flatMap.1 h;simp only[ky,ab0,abC,or_false]at hx;rcases hx with rfl|rfl<;>rfl
structure o7 (w w':World) (v:Value) (B:Nat) (W:List Int) (T:List UInt8) (p q:Nat) (last:Bool) (km C:Nat):Prop where
 ex:∃x r,w'.ownsRow w.heap.size 188 2 v (x::r).length (du (x::r))/\x.1=(W.length+10)/8*8+32+8*(q-p)/\(∀y∈x::r,iM w' B W T p q last km y.1 y.2.1 y.2.2/\y.1<=90000000)/\r.length<=2/\(1<=km->∃y∈r,y.1=W.length+3+C)
 be:Below w.heap.size w w'
theorem tm {w u:World}(hb:w.heap.size<=u.heap.size)(x:Pl):(u.alloc (.cells #[.int .i64 (x.1:Nat),.func (.func x.2.1) #[] x.2.2] 188)).ownsRow w.heap.size 188 2 (.slice (some ⟨u.heap.size,0,none⟩) 1 1) 1 (du [x]) :=
 ⟨rfl,.inr ⟨u.heap.size,1,_,rfl,hb,ak u _,aad _,by unfold maxLen;omega,rfl,rfl⟩⟩
theorem tp (u:World)(x:Pl):Src (u.alloc (.cells #[.int .i64 (x.1:Nat),.func (.func x.2.1) #[] x.2.2] 188)) 2 (.slice (some ⟨u.heap.size,0,none⟩) 1 1) 1 (du [x]):=by
 refine⟨⟨_,_,rfl,(fun e=>nomatch e),fun ad e hne=>?_⟩,rfl,fun y hy=>BH y _ hy⟩;cases e;refine⟨by simp,fun j y hj=>?_⟩;rw[fX,aaF,d8 (ak u _)];simpa[du,ky]using hj
theorem tq {w w':World}{base n:Nat}{v:Value}{xs:List Value}(h:w.ownsRow base 188 2 v n xs)(g:w.grownBy w' v.ownBlock):Kq w w':=fun k cs t fr hk ht=>by
 refine g.block k (aab hk) (fun e=>?_);rcases h.2 with⟨rfl,_⟩|⟨b,cap,cur,rfl,_,hg,_⟩
 ·cases e
 ·simp only[Value.ownBlock,abH]at e;subst e;rw[hk]at hg;simp at hg;exact ht hg.2.1
theorem PE (B:Nat)(last:Bool)(s:ByteArray)(sv:Value)(W:List Int)(w:World)(h:aB w B W)(T:List UInt8)(p q:Nat)(hs:s.data.toList=(T.take q).drop p)(hpq:p<=q)(hq:q<=T.length)(h6:q-p<=65535)(hW:W.length<=80000000)(C:Nat): Calls Tryz.prog 138 #[.pointer (some ⟨B,0,none⟩),.string s,sv,.bool last,.int .i64 0] w fun e w'=>∃v,e=.returned v/\o7 w w' v B W T p q last 0 C:=by
 have hE:(W.length+10)/8*8+32+8*(q-p)<=90000000:=by omega
 go_enter Tryz.func138,Tryz.ntmps138
 go_wp2_with fail;refine (kt B last s W w h T p q hs hpq hq h6 (by omega)).mono ?_;rintro e w1 ⟨aN,rfl,hb1,hp1⟩;generalize Ti:(W.length+10)/8*8+32+8*(q-p)=E at *;have own:=tm (w:=w) (u:=w1) hb1.size (E,206,aN);have hb2:Below w.heap.size w (w1.alloc (.cells #[.int .i64 (E:Nat),.func (.func 206) #[] aN] 188)):=hb1.trans ((ag w1 _).mono hb1.size);have hp2:=hp1.below (ag w1 (.cells #[.int .i64 (E:Nat),.func (.func 206) #[] aN] 188));have HH:Hid (_/\_/\_):=⟨own,hb2,hp2⟩
 clear own hb2 hp2 hp1 h hs;go_wp2
 go_ret
 refine⟨_,rfl,⟨(E,206,aN),[],HH.out.1,Ti.symm,fun y hy=>?_,by simp,fun h=>absurd h (by decide)⟩,HH.out.2.1⟩;rw[abf.1 hy];exact⟨HH.out.2.2,hE⟩
theorem aB.kq {w w':World}{B:Nat}{W:List Int}(h:aB w B W)(k:Kq w w'):aB w' B W:=by
 obtain⟨pv,P,h⟩:=h;refine⟨pv,P,(k _ _ _ _ h.blk (by decide)).trans h.blk,bK h.own (fun g hg=>?_),h.hold⟩;rcases h.own.2 with⟨rfl,_⟩|⟨b,cap,cur,rfl,_,hb,_⟩
 ·simp[Value.ownBlock]at hg
 ·simp only[Value.ownBlock,abH]at hg;subst hg;exact k _ _ _ _ hb (by decide)
theorem Steps.fresh {w:World}{sv:Value}{steps:List (Nat×Nat)}{B:Nat}(h:Steps w sv steps B):Steps w sv steps w.heap.size :=
 ⟨h.1,fun hn=>by
  obtain⟨SB,cap,h1,h2,h3⟩:=h.2 hn
  exact⟨SB,cap,h1,by have:=h3.lt;omega,h3⟩⟩
theorem PF (B:Nat)(last:Bool)(s:ByteArray)(ao:Option Addr)(cap:Nat)(steps:List (Nat×Nat))(W:List Int)(w:World)(h:aB w B W)(T:List UInt8)(p q:Nat)(hp:Part T p q s steps)(hst:Steps w (.slice ao steps.length cap) steps B)(hsv:∀SB cap',Value.slice ao steps.length cap=.slice (some ⟨SB,0,none⟩) steps.length cap'->SB<w.heap.size)(hW:W.length<=80000000): Calls Tryz.prog 138 #[.pointer (some ⟨B,0,none⟩),.string s,.slice ao steps.length cap,.bool last,.int .i64 1] w fun e w'=>∃v,e=.returned v/\o7 w w' v B W T p q last 1 (aA Rf.bE dF (ax s.data.toList 0 steps)).length:=by
 obtain⟨i0,hi,hz0,hz1,hz2⟩:=aaX Tryz.infoPlan;have hsm:=hp.small;have hE:(W.length+10)/8*8+32+8*(q-p)<=90000000:=by omega
 have XD:=hp.size
 go_enter Tryz.func138,Tryz.ntmps138
 go_wp2_with fail;refine (kt B last s W w h T p q hp.txt hp.le hp.qt hp.small (by omega)).mono ?_;rintro e w1 ⟨ig,rfl,hb1,hp1⟩;generalize Ti:(W.length+10)/8*8+32+8*(q-p)=E0 at *;have own:=tm (w:=w) (u:=w1) hb1.size (E0,206,ig);have k2:=ag w1 (.cells #[.int .i64 (E0:Nat),.func (.func 206) #[] ig] 188);go_wp2_with fail;generalize hw2:w1.alloc (.cells #[.int .i64 (E0:Nat),.func (.func 206) #[] ig] 188)=w2 at *;have own:w2.ownsRow w.heap.size 188 2 (.slice (some ⟨w1.heap.size,0,none⟩) 1 1) 1 (du [(E0,206,ig)]):=own;have B2:Below w.heap.size w w2:=hb1.trans (k2.mono hb1.size);have st2:=hst.below B2;have hty:=vH ao cap s steps w2 st2.fresh (by omega) hp.ok (fun SB cap' e=>by have:=hsv SB cap' e;have:=B2.size;omega);refine hty.mono ?_;rintro e w3 ⟨Sy,Di,rfl,a1,a2,hb3,VS,XE⟩;clear hty;generalize hex:aV (ax s.data.toList 0 steps)=ex at *;go_wp2_with fail;have k4:=ag w3 (.cells #[.slice (some ⟨Sy,0,none⟩) 286 286,.slice (some ⟨Di,0,none⟩) 30 30,.int .i64 ex] 220);have x4:=ak w3 (.cells #[.slice (some ⟨Sy,0,none⟩) 286 286,.slice (some ⟨Di,0,none⟩) 30 30,.int .i64 ex] 220);generalize hw4:w3.alloc (.cells #[.slice (some ⟨Sy,0,none⟩) 286 286,.slice (some ⟨Di,0,none⟩) 30 30,.int .i64 ex] 220)=w4 at *;have Me:Below w2.heap.size w2 w4:=hb3.trans (k4.mono hb3.size);have B4:Below w.heap.size w w4:=B2.trans (Me.mono B2.size);have hfp:=qM B last s ao cap steps W w4 (h.below B4) T p q Sy Di hp (hst.below B4) (a1.keep k4) (a2.keep k4) hW;rw[hex]at hfp;refine hfp.mono ?_;rintro e w5 ⟨E1,dY,rfl,hb5,Tj,hE1,IR⟩;have GG:Hid (E1=W.length+3+(aA Rf.bE dF (ax s.data.toList 0 steps)).length):=IR;clear IR;clear hfp;have jm:=tp w5 (E1,215,dY);have k6:=ag w5 (.cells #[.int .i64 (E1:Nat),.func (.func 215) #[] dY] 188);generalize hw6:w5.alloc (.cells #[.int .i64 (E1:Nat),.func (.func 215) #[] dY] 188)=w6 at *;have jm:Src w6 2 (.slice (some ⟨w5.heap.size,0,none⟩) 1 1) 1 (du [(E1,215,dY)]):=jm;have NR:Below w4.heap.size w4 w6:=hb5.trans (k6.mono hb5.size);have Mf:Below w2.heap.size w2 w6:=Me.trans (NR.mono Me.size);have B6:Below w.heap.size w w6:=B2.trans (Mf.mono B2.size);have hg0:w1.heap.size<w2.heap.size:=by rw[<-hw2];simp
 have xD:w6.ownsRow w.heap.size 188 2 (.slice (some ⟨w1.heap.size,0,none⟩) 1 1) 1 (du [(E0,206,ig)]):=bK own (fun g hg=>by
  simp only[Value.ownBlock,abH]at hg;subst hg
  exact Mf.block _ hg0)
 obtain⟨v7,w7,SP,IU,PG⟩:=cj (ty:=184) Tryz.underlying184 hi hz0 hz1 hz2 rfl (by decide) xD jm (by unfold maxLen;omega) (by omega) B6.size;have GH:=tq xD PG;have B7:Below w.heap.size w w7:=bH B6 PG (fun k hk=>(xD.lt k hk).1) (aad _);have P0:iM w7 B W T p q last 1 E0 206 ig:=(((hp1.weak (by omega:0<=1)).below k2).below Mf).kq GH;have P1:iM w7 B W T p q last 1 E1 215 dY:=((Tj.weak (by omega:1<=1)).below k6).kq GH;obtain⟨oa7,oc7,rfl⟩:=aU IU;have HR:Hid (_/\_/\_/\_):=⟨IU,B7,P0,P1⟩
 have KH:=B7.size;clear hp1 Tj own jm xD IU PG P0 P1 B7 B6 Mf NR Me B4 B2 k2 k4 k6 st2 a1 a2 VS XE hb3 hb5 hg0 h hst hsv hp GH;go_wp2_with (first|fail|(at_builtin;refine aa6 _ rfl _ _ _ _ rfl _ _ rfl rfl _ _ SP ?_))
 go_ret
 refine⟨_,rfl,⟨(E0,206,ig),[(E1,215,dY)],HR.out.1,Ti.symm,fun y hy=>?_,by simp,fun _=>⟨_,abJ,GG.out⟩⟩,HR.out.2.1⟩;rcases ab0.1 hy with rfl|hy
 ·exact⟨HR.out.2.2.1,hE⟩
 ·rw[abf.1 hy];exact⟨HR.out.2.2.2,hE1⟩
theorem PH (B:Nat)(last:Bool)(s:ByteArray)(ao:Option Addr)(cap:Nat)(steps:List (Nat×Nat))(W:List Int)(w:World)(h:aB w B W)(T:List UInt8)(p q:Nat)(hp:Part T p q s steps)(hst:Steps w (.slice ao steps.length cap) steps B)(hsv:∀SB cap',Value.slice ao steps.length cap=.slice (some ⟨SB,0,none⟩) steps.length cap'->SB<w.heap.size)(hW:W.length<=80000000): Calls Tryz.prog 138 #[.pointer (some ⟨B,0,none⟩),.string s,.slice ao steps.length cap,.bool last,.int .i64 2] w fun e w'=>∃v,e=.returned v/\o7 w w' v B W T p q last 2 (aA Rf.bE dF (ax s.data.toList 0 steps)).length:=by
 obtain⟨i0,hi,hz0,hz1,hz2⟩:=aaX Tryz.infoPlan;have hsm:=hp.small;have hE:(W.length+10)/8*8+32+8*(q-p)<=90000000:=by omega
 have XD:=hp.size
 go_enter Tryz.func138,Tryz.ntmps138
 go_wp2_with fail;refine (kt B last s W w h T p q hp.txt hp.le hp.qt hp.small (by omega)).mono ?_;rintro e w1 ⟨ig,rfl,hb1,hp1⟩;generalize Ti:(W.length+10)/8*8+32+8*(q-p)=E0 at *;have own:=tm (w:=w) (u:=w1) hb1.size (E0,206,ig);have k2:=ag w1 (.cells #[.int .i64 (E0:Nat),.func (.func 206) #[] ig] 188);go_wp2_with fail;generalize hw2:w1.alloc (.cells #[.int .i64 (E0:Nat),.func (.func 206) #[] ig] 188)=w2 at *;have own:w2.ownsRow w.heap.size 188 2 (.slice (some ⟨w1.heap.size,0,none⟩) 1 1) 1 (du [(E0,206,ig)]):=own;have B2:Below w.heap.size w w2:=hb1.trans (k2.mono hb1.size);have st2:=hst.below B2;have hty:=vH ao cap s steps w2 st2.fresh (by omega) hp.ok (fun SB cap' e=>by have:=hsv SB cap' e;have:=B2.size;omega);refine hty.mono ?_;rintro e w3 ⟨Sy,Di,rfl,a1,a2,hb3,VS,XE⟩;clear hty;generalize hex:aV (ax s.data.toList 0 steps)=ex at *;go_wp2_with fail;have k4:=ag w3 (.cells #[.slice (some ⟨Sy,0,none⟩) 286 286,.slice (some ⟨Di,0,none⟩) 30 30,.int .i64 ex] 220);have x4:=ak w3 (.cells #[.slice (some ⟨Sy,0,none⟩) 286 286,.slice (some ⟨Di,0,none⟩) 30 30,.int .i64 ex] 220);generalize hw4:w3.alloc (.cells #[.slice (some ⟨Sy,0,none⟩) 286 286,.slice (some ⟨Di,0,none⟩) 30 30,.int .i64 ex] 220)=w4 at *;have Me:Below w2.heap.size w2 w4:=hb3.trans (k4.mono hb3.size);have B4:Below w.heap.size w w4:=B2.trans (Me.mono B2.size);have hfp:=qM B last s ao cap steps W w4 (h.below B4) T p q Sy Di hp (hst.below B4) (a1.keep k4) (a2.keep k4) hW;rw[hex]at hfp;refine hfp.mono ?_;rintro e w5 ⟨E1,dY,rfl,hb5,Tj,hE1,IR⟩;have GG:Hid (E1=W.length+3+(aA Rf.bE dF (ax s.data.toList 0 steps)).length):=IR;clear IR;clear hfp;have jm:=tp w5 (E1,215,dY);have k6:=ag w5 (.cells #[.int .i64 (E1:Nat),.func (.func 215) #[] dY] 188);generalize hw6:w5.alloc (.cells #[.int .i64 (E1:Nat),.func (.func 215) #[] dY] 188)=w6 at *;have jm:Src w6 2 (.slice (some ⟨w5.heap.size,0,none⟩) 1 1) 1 (du [(E1,215,dY)]):=jm;have NR:Below w4.heap.size w4 w6:=hb5.trans (k6.mono hb5.size);have Mf:Below w2.heap.size w2 w6:=Me.trans (NR.mono Me.size);have B6:Below w.heap.size w w6:=B2.trans (Mf.mono B2.size);have hg0:w1.heap.size<w2.heap.size:=by rw[<-hw2];simp
 have xD:w6.ownsRow w.heap.size 188 2 (.slice (some ⟨w1.heap.size,0,none⟩) 1 1) 1 (du [(E0,206,ig)]):=bK own (fun g hg=>by
  simp only[Value.ownBlock,abH]at hg;subst hg
  exact Mf.block _ hg0)
 obtain⟨v7,w7,SP,IU,PG⟩:=cj (ty:=184) Tryz.underlying184 hi hz0 hz1 hz2 rfl (by decide) xD jm (by unfold maxLen;omega) (by omega) B6.size;have GH:=tq xD PG;have B7:Below w.heap.size w w7:=bH B6 PG (fun k hk=>(xD.lt k hk).1) (aad _);have P0:iM w7 B W T p q last 2 E0 206 ig:=(((hp1.weak (by omega:0<=2)).below k2).below Mf).kq GH;have P1:iM w7 B W T p q last 2 E1 215 dY:=((Tj.weak (by omega:1<=2)).below k6).kq GH;obtain⟨oa7,oc7,rfl⟩:=aU IU;have HR:Hid (_/\_/\_/\_):=⟨IU,B7,P0,P1⟩
 have W7:aB w7 B W:=(h.below B6).kq GH;have S7:=(hst.below B6).kq GH;have A17:=((a1.keep k4).keep NR).kq GH;have A27:=((a2.keep k4).keep NR).kq GH;have X6:=(NR.block _ (aab x4)).trans x4;have X7:=(GH _ _ _ _ X6 (by decide)).trans X6;obtain⟨y0,y1,y2,NP,NQ⟩:=cells3 X7;have hdp:=uO B last s ao cap steps W w7 W7 T p q Sy Di hp S7 A17 A27 hW;rw[hex]at hdp;have KH:=B7.size;clear hp1 Tj own jm xD IU PG P0 P1 B7 B6 W7 S7 A17 A27 X6 X7 Mf NR Me B4 B2 k2 k4 k6 st2 a1 a2 VS XE hb3 hb5 hg0 h hst hsv hp GH;go_wp2_with (first|fail|(at_builtin;refine aa6 _ rfl _ _ _ _ rfl _ _ rfl rfl _ _ SP ?_));refine hdp.mono ?_;rintro e w8 ⟨E2,jc,rfl,GZ,XG,hE2⟩;clear hdp y0 y1 y2 NP NQ SP;have Mg:=tp w8 (E2,219,jc);have k9:=ag w8 (.cells #[.int .i64 (E2:Nat),.func (.func 219) #[] jc] 188);generalize ZT:w8.alloc (.cells #[.int .i64 (E2:Nat),.func (.func 219) #[] jc] 188)=w9 at *;have Mg:Src w9 2 (.slice (some ⟨w8.heap.size,0,none⟩) 1 1) 1 (du [(E2,219,jc)]):=Mg;have Tk:Below w7.heap.size w7 w9:=GZ.trans (k9.mono GZ.size);obtain⟨IU,B7,P0,P1⟩:=HR.out;have B9:Below w.heap.size w w9:=B7.trans (Tk.mono B7.size);have ownB:w9.ownsRow w.heap.size 188 2 (.slice oa7 2 oc7) 2 (du [(E0,206,ig)]++du [(E1,215,dY)]):=bK IU (fun g hg=>Tk.block _ (IU.lt g hg).2);obtain⟨v10,S8,XH,PI,PJ⟩:=cj (ty:=184) Tryz.underlying184 hi hz0 hz1 hz2 rfl (by decide) ownB Mg (by unfold maxLen;omega) (by omega) B9.size;have VT:=tq ownB PJ;have Rq:Below w.heap.size w S8:=bH B9 PJ (fun k hk=>(ownB.lt k hk).1) (aad _);have P0':=(P0.below Tk).kq VT;have P1':=(P1.below Tk).kq VT;have P2':=(XG.below k9).kq VT;obtain⟨ade,adf,rfl⟩:=aU PI;have HS:Hid (_/\_/\_/\_/\_):=⟨PI,Rq,P0',P1',P2'⟩
 clear XG Mg ownB PI PJ P0 P1 P0' P1' P2' Rq B9 B7 IU Tk k9 GZ HR VT;go_wp2_with (first|fail|(at_builtin;refine aa6 _ rfl _ _ _ _ rfl _ _ rfl rfl _ _ XH ?_))
 go_ret
 refine⟨_,rfl,⟨(E0,206,ig),[(E1,215,dY),(E2,219,jc)],HS.out.1,Ti.symm,fun y hy=>?_,by simp,fun _=>⟨_,abJ,GG.out⟩⟩,HS.out.2.1⟩;rcases ab0.1 hy with rfl|hy
 ·exact⟨HS.out.2.2.1,hE⟩
 ·rcases ab0.1 hy with rfl|hy
  ·exact⟨HS.out.2.2.2.1,hE1⟩
  ·rw[abf.1 hy];exact⟨HS.out.2.2.2.2,hE2⟩
abbrev Tl (x:Pl):Value:=.agg #[.int .i64 (x.1:Nat),.func (.func x.2.1) #[] x.2.2]
theorem Tm (x y:Pl)(w:World):Calls Tryz.prog 140 #[Tl x,Tl y] w fun e w'=>e=.returned (.int .i64 (eG x.1 y.1))/\Below w.heap.size w w':=by
 go_enter Tryz.func140,Tryz.ntmps140
 go_wp2_with (go_at_call 141;refine (pX _ _ _).mono ?_;rintro e w' ⟨rfl,rfl⟩)
 go_ret
 exact⟨rfl,((aak _ _).alloc (aad _) _).alloc (by simp) _⟩
theorem PN (args:Array Value)(w:World):(callFunc 140 args).run Tryz.prog w=.ok (.enter 140 args) w:=by kernel_rfl
theorem Tn (l:List Pl)(j:Nat)(h:j<l.length):(du l)[j*2]?=some (.int .i64 ((l.getD j (0,0,#[])).1:Nat))/\(du l)[j*2+1]?=some (.func (.func (l.getD j (0,0,#[])).2.1) #[] (l.getD j (0,0,#[])).2.2):=by
 induction l generalizing j with
 | nil=>simp at h
 | cons x r ih =>
  have e:du (x::r)=ky x++du r:=by simp[du]
  cases j with
  | zero=>rw[e];exact⟨rfl,rfl⟩
  | succ j =>
   have:=ih j (by simpa using h);rw[e,show (j+1)*2=2+j*2 by omega,show 2+j*2+1=2+(j*2+1) by omega];rw[aaG (by simp[ky]),aaG (by simp[ky])];simpa[ky]using this
theorem IV {w:World}{base g n cap:Nat}{l:List Pl}(h:w.ownsRow base 188 2 (.slice (some ⟨g,0,none⟩) n cap) n (du l))(hl:l.length=n)(j:Nat)(hj:j<n): w.cell? ⟨g,j*2,none⟩=some (.int .i64 ((l.getD j (0,0,#[])).1:Nat))/\w.cell? ⟨g,j*2+1,none⟩=some (.func (.func (l.getD j (0,0,#[])).2.1) #[] (l.getD j (0,0,#[])).2.2):=by
 obtain⟨a,b⟩:=Tn l j (by omega);exact⟨(h.cellAt (j*2) (by omega)).trans a,(h.cellAt (j*2+1) (by omega)).trans b⟩
theorem Tp (g cap n:Nat)(l:List Pl)(w:World)(hl:l.length=n)(hn:1<=n)(Rp:n<=3)(hg:g<w.heap.size)(hc:∀j,j<n->w.cell? ⟨g,j*2,none⟩=some (.int .i64 ((l.getD j (0,0,#[])).1:Nat))/\w.cell? ⟨g,j*2+1,none⟩=some (.func (.func (l.getD j (0,0,#[])).2.1) #[] (l.getD j (0,0,#[])).2.2)): Calls Tryz.prog 139 #[.slice (some ⟨g,0,none⟩) n cap,.func (.func 140) #[] #[]] w fun e w'=>∃x∈l,e=.returned (Tl x)/\(x.1<=(l.getD 0 (0,0,#[])).1/\∀y∈l,x.1<=y.1)/\Below w.heap.size w w':=by
 have hcall:=PN
 have hmem:∀j,j<n->l.getD j (0,0,#[])∈l:=fun j hj=>by
  rw[aaa,aai (by omega)];exact aaR _
 obtain⟨x0,x1⟩:=hc 0 (by omega);rw[abz]at x0 x1;generalize XI:l.getD 0 (0,0,#[])=P0 at *;have hm0:P0∈l:=by rw[<-XI];exact hmem 0 (by omega)
 obtain⟨k0,q0,q1⟩:=bO w (.cells #[.int .i64 0,.nilFunc] 188) (.cells #[.int .i64 (P0.1:Nat),.func (.func P0.2.1) #[] P0.2.2] 188)
 go_enter Tryz.func139,Tryz.ntmps139
 go_wp2
 go_loopw [6] (fun iv wr=>∃(k:Nat) (x:Pl),1<=k/\k<=n/\iv=.int .i64 k/\Hid (x∈l/\x.1<=P0.1/\∀j,j<k->x.1<=(l.getD j (0,0,#[])).1)/\Hid (wr.heap[w.heap.size+1]?=some (.cells #[.int .i64 (x.1:Nat),.func (.func x.2.1) #[] x.2.2] 188 (0,0)))/\Hid (wr.heap[w.heap.size]?=some (.cells #[.int .i64 0,.nilFunc] 188 (0,0)))/\Below w.heap.size w wr) (fun iv _=>n-(intOf iv).toNat)
 case atStart=>exact⟨1,P0,aad _,by omega,rfl,⟨hm0,aad _,fun j hj=>by rw[show j=0 by omega,XI];exact aad _⟩,q1,q0,k0⟩
 case round =>
  clear k0 q0 q1 x0 x1;obtain⟨k,⟨xE,xf,xc⟩,hk1,hkn,rfl,HX,HM,HR,hb⟩:=hrel;by_cases hlt:k<n
  ·have XJ:=hc k hlt;have HY:Hid (l.getD k (0,0,#[])∈l):=hmem k hlt;generalize hYY:l.getD k (0,0,#[])=Y at *;have WI:Hid (l.getD k (0,0,#[])=Y):=hYY;clear hYY;obtain⟨yE,yf,yc⟩:=Y;have kd:Below wr.heap.size wr wr.drew:=(aak _ _).drew;have Mh:wr.drew.heap[w.heap.size+1]?=some (.cells #[.int .i64 (xE:Nat),.func (.func xf) #[] xc] 188 (0,0)):=HM.out;have Rr:wr.drew.heap[w.heap.size]?=some (.cells #[.int .i64 0,.nilFunc] 188 (0,0)):=HR.out;have hbd:Below w.heap.size w wr.drew:=hb.drew;have hS:wr.drew.cell? ⟨g,k*2,none⟩=some (.int .i64 (yE:Nat))/\wr.drew.cell? ⟨g,k*2+1,none⟩=some (.func (.func yf) #[] yc)/\wr.drew.cell? ⟨w.heap.size+1,0,none⟩=some (.int .i64 (xE:Nat))/\wr.drew.cell? ⟨w.heap.size+1,1,none⟩=some (.func (.func xf) #[] xc):=⟨(hbd.cell hg).trans XJ.1,(hbd.cell hg).trans XJ.2,(aQ Mh).1,(aQ Mh).2.1⟩
   have Dt:g<wr.drew.heap.size:=aar hg hbd.size;have hlm:w.heap.size+1<wr.drew.heap.size:=aab Mh;have eW:∀u,Below wr.drew.heap.size wr.drew u->u.cell? ⟨g,k*2,none⟩=some (.int .i64 (yE:Nat))/\u.cell? ⟨g,k*2+1,none⟩=some (.func (.func yf) #[] yc)/\u.cell? ⟨w.heap.size+1,0,none⟩=some (.int .i64 (xE:Nat))/\u.cell? ⟨w.heap.size+1,1,none⟩=some (.func (.func xf) #[] xc):=fun u q=>⟨(q.cell Dt).trans hS.1,(q.cell Dt).trans hS.2.1,(q.cell hlm).trans hS.2.2.1,(q.cell hlm).trans hS.2.2.2⟩
   have hcm:=Tm (yE,yf,yc) (xE,xf,xc) wr.drew;have adg:(k:Int)<(n:Int):=by omega
   clear XJ hc hmem HM HR hb kd hm0 XI;by_cases hy:yE<xE
   ·have ec:eG (yE:Int) (xE:Int)=-1:=by unfold eG;rw[aaf (by omega)]
    simp only at hcm;rw[ec]at hcm;clear ec;go_wp2_with fail;refine aE (fun u=>u.cell? ⟨g,k*2,none⟩=some (.int .i64 (yE:Nat))/\u.cell? ⟨g,k*2+1,none⟩=some (.func (.func yf) #[] yc)/\u.cell? ⟨w.heap.size+1,0,none⟩=some (.int .i64 (xE:Nat))/\u.cell? ⟨w.heap.size+1,1,none⟩=some (.func (.func xf) #[] xc)) 999 ?_;generalize wr.drew=wd at *;refine am [0,1,2,3,4,5] ?_
    iterate 6 (refine ay hS ?_;try simp only[Act.put])
    refine aj ?_;refine ai 6 fun K hK=>?_;go_simp;refine hcm.mono ?_;rintro e w1 ⟨rfl,hb1⟩;have hS1:=eW w1 hb1;refine hK _ _ (fun _=>hS1) ?_;clear hK K;have R1:w1.heap[w.heap.size+1]?=some (.cells #[.int .i64 (xE:Nat),.func (.func xf) #[] xc] 188 (0,0)):=(hb1.block _ (aab Mh)).trans Mh;have R0:w1.heap[w.heap.size]?=some (.cells #[.int .i64 0,.nilFunc] 188 (0,0)):=(hb1.block _ (aab Rr)).trans Rr;have B1:Below w.heap.size w w1:=hbd.trans (hb1.mono hbd.size);obtain⟨m0,m1,mz,ml⟩:=aQ R1;have HN:Hid (_/\_/\_):=⟨R1,R0,B1⟩
    clear R1 R0 B1 Mh Rr hbd hcm eW hS;obtain⟨g0,g1,_,_⟩:=hS1;have hS1:=And.intro g0 (And.intro g1 (And.intro m0 m1));refine am [7] ?_
    iterate 1 (refine ay hS1 ?_;try simp only[Act.put])
    refine aj ?_;refine ar ?_;clear hS1;go_wp2
    go_roundw
    case rel =>
     obtain⟨h1,h0,hb⟩:=HN.out
     exact⟨k+1,(yE,yf,yc),by omega,by omega,by go_num,⟨HY.out,by have:=HX.out.2.1;simp only at this ⊢;omega,fun j hj=>by
      by_cases e:j=k
      ·rw[e,WI.out];exact aad _
      ·exact aaz (aaI hy) (HX.out.2.2 j (by omega))⟩,gK h1 _ _,(aag _ ⟨w.heap.size+1,1,none⟩ _ _ (by dsimp only;omega)).trans ((aag _ ⟨w.heap.size+1,0,none⟩ _ _ (by dsimp only;omega)).trans h0),(hb.setCell (p:=⟨w.heap.size+1,0,none⟩) (by dsimp only;omega) _).setCell (p:=⟨w.heap.size+1,1,none⟩) (by dsimp only;omega) _⟩
    case measure=>simp[intOf];omega
   ·have ec:¬eG (yE:Int) (xE:Int)<0:=by unfold eG;rw[aae (by omega)];split<;>omega
    simp only at hcm;generalize eG (yE:Int) (xE:Int)=cv at *;go_wp2_with fail;refine aE (fun u=>u.cell? ⟨g,k*2,none⟩=some (.int .i64 (yE:Nat))/\u.cell? ⟨g,k*2+1,none⟩=some (.func (.func yf) #[] yc)/\u.cell? ⟨w.heap.size+1,0,none⟩=some (.int .i64 (xE:Nat))/\u.cell? ⟨w.heap.size+1,1,none⟩=some (.func (.func xf) #[] xc)) 999 ?_;generalize wr.drew=wd at *;refine am [0,1,2,3,4,5] ?_
    iterate 6 (refine ay hS ?_;try simp only[Act.put])
    refine aj ?_;refine ai 6 fun K hK=>?_;go_simp;refine hcm.mono ?_;rintro e w1 ⟨rfl,hb1⟩;have hS1:=eW w1 hb1;refine hK _ _ (fun _=>hS1) ?_;clear hK K;have R1:w1.heap[w.heap.size+1]?=some (.cells #[.int .i64 (xE:Nat),.func (.func xf) #[] xc] 188 (0,0)):=(hb1.block _ (aab Mh)).trans Mh;have R0:w1.heap[w.heap.size]?=some (.cells #[.int .i64 0,.nilFunc] 188 (0,0)):=(hb1.block _ (aab Rr)).trans Rr;have B1:Below w.heap.size w w1:=hbd.trans (hb1.mono hbd.size);obtain⟨m0,m1,mz,ml⟩:=aQ R1;have HN:Hid (_/\_/\_):=⟨R1,R0,B1⟩
    clear R1 R0 B1 Mh Rr hbd hcm eW hS;obtain⟨g0,g1,_,_⟩:=hS1;have hS1:=And.intro g0 (And.intro g1 (And.intro m0 m1));refine am [7] ?_
    iterate 1 (refine ay hS1 ?_;try simp only[Act.put])
    refine aj ?_;refine ar ?_;clear hS1;go_wp2
    go_roundw
    case rel=>exact⟨k+1,(xE,xf,xc),by omega,by omega,by go_num,⟨HX.out.1,HX.out.2.1,fun j hj=>by
      by_cases e:j=k
      ·rw[e,WI.out];show xE<=yE;omega
      ·exact HX.out.2.2 j (by omega)⟩,HN.out.1,HN.out.2.1,HN.out.2.2⟩
    case measure=>simp[intOf];omega
  ·obtain⟨m0,m1,mz,ml⟩:=aQ HM.out;obtain⟨r0,r1,rz,rl⟩:=aQ HR.out;simp only at m0 m1;go_wp2
   refine aal (v:=Tl (xE,xf,xc)) ?_ rfl ⟨xE,xf,xc,HX.out.1,rfl,⟨HX.out.2.1,fun y1 y2 y3 hy=>by
    obtain⟨j,hj,e⟩:=abU hy;have:=HX.out.2.2 j (by omega);rw[aaa,aai hj,e]at this
    exact this⟩,(hb.setCell (p:=⟨w.heap.size,0,none⟩) (by dsimp only;omega) _).setCell (p:=⟨w.heap.size,1,none⟩) (by dsimp only;omega) _⟩
   simp[results,Tryz.results139,go_sem,r0,r1]
def rh (w:World)(F M:Nat)(ea:Option Addr)(en:Nat)(T:ByteArray)(per:Nat):Prop:=w.heap[F]?=some (.cells #[.string T,.map (some M),.slice ea en en,.int .i64 (per:Nat)] 237 (0,0))
theorem rh.cells {w:World}{F M en per:Nat}{ea:Option Addr}{T:ByteArray}(h:rh w F M ea en T per):w.cell? ⟨F,0,none⟩=some (.string T)/\w.cell? ⟨F,1,none⟩=some (.map (some M))/\w.cell? ⟨F,2,none⟩=some (.slice ea en en)/\w.cell? ⟨F,3,none⟩=some (.int .i64 (per:Nat)) :=
 ⟨aan _ _ _ _ _ _ h,aan _ _ _ _ _ _ h,aan _ _ _ _ _ _ h,aan _ _ _ _ _ _ h⟩
theorem IW (F M en per:Nat)(ea:Option Addr)(T:ByteArray)(b p most:Nat)(w:World)(hF:rh w F M ea en T per)(hb:b+most<=T.size)(hp:p+most<=T.size)(hT:T.size<=4500000): Calls Tryz.prog 225 #[.pointer (some ⟨F,0,none⟩),.int .i64 b,.int .i64 p,.int .i64 most] w fun e w'=>∃L:Nat,e=.returned (.int .i64 L)/\L<=most/\(∀k,k<L->T.data.toList.getD (b+k) 0=T.data.toList.getD (p+k) 0)/\(L=most\/T.data.toList.getD (b+L) 0≠T.data.toList.getD (p+L) 0)/\∃n,w'=w.drewN n:=by
 obtain⟨c0,_⟩:=hF.cells;clear hF
 go_enter Tryz.func225,Tryz.ntmps225
 go_wp2
 go_loopw [9] (fun lv wr=>∃(L n:Nat),L<=most/\lv=.int .i64 L/\Hid (∀k,k<L->T.data.toList.getD (b+k) 0=T.data.toList.getD (p+k) 0)/\wr=w.drewN n) (fun lv _=>most-(intOf lv).toNat)
 case atStart=>exact⟨0,0,aaj _,rfl,fun k hk=>by omega,rfl⟩
 case round =>
  obtain⟨L,n,hL,rfl,HR,rfl⟩:=hrel;by_cases hlt:L<most
  ·have x1:=fun u=>wP T (b+L) (by omega) ((b:Int)+(L:Int)) (by omega) u;have x2:=fun u=>wP T (p+L) (by omega) ((p:Int)+(L:Int)) (by omega) u
   have HX:Hid ((T.data.toList.getD (b+L) 0).toNat=(T.data.toList.getD (p+L) 0).toNat->∀k,k<L+1->T.data.toList.getD (b+k) 0=T.data.toList.getD (p+k) 0):=fun hh k hk=>by
    by_cases e:k=L
    ·rw[e];exact UInt8.toNat_inj.1 (by omega)
    ·exact HR.out k (by omega)
   have SL:Hid (¬(T.data.toList.getD (b+L) 0).toNat=(T.data.toList.getD (p+L) 0).toNat->T.data.toList.getD (b+L) 0≠T.data.toList.getD (p+L) 0):=fun hh e=>hh (by rw[e]);have hdec:decide ((L:Int)<(most:Int))=true:=by simp;omega
   have w1:IntKind.i64.wrap ((b:Int)+(L:Int))=(b:Int)+(L:Int):=aah _ (by omega);have w2:IntKind.i64.wrap ((p:Int)+(L:Int))=(p:Int)+(L:Int):=aah _ (by omega);generalize (T.data.toList.getD (b+L) 0).toNat=x at *;generalize (T.data.toList.getD (p+L) 0).toNat=y at *;by_cases hxy:x=y
   ·have hxe:((x:Int)==(y:Int))=true:=by simp[hxy]
    go_wp2
    go_quiet (fail)
    go_wp2
    go_roundw
    case rel=>exact⟨L+1,n+nq,by omega,by go_num,HX.out hxy,rfl⟩
    case measure=>simp[intOf];omega
   ·have hxe:((x:Int)==(y:Int))=false:=by simp;omega
    go_wp2
    go_quiet (fail)
    go_wp2
    go_ret
    exact⟨L,rfl,hL,HR.out,.inr (SL.out hxy),n+nq,by simp⟩
  ·have hdec:decide ((L:Int)<(most:Int))=false:=by simp;omega
   go_wp2
   go_quiet (fail)
   go_wp2
   go_ret
   exact⟨L,rfl,hL,HR.out,.inl (by omega),n+nq,by simp⟩
def lj (T:ByteArray)(p:Nat):Nat:=((T.data.toList.getD p 0).toNat*65536|||(T.data.toList.getD (p+1) 0).toNat*256)|||(T.data.toList.getD (p+2) 0).toNat
theorem gY (T:ByteArray)(p:Nat):lj T p<16777216:=by
 have a:=(T.data.toList.getD p 0).toNat_lt;have b:=(T.data.toList.getD (p+1) 0).toNat_lt;have c:=(T.data.toList.getD (p+2) 0).toNat_lt;exact Nat.or_lt_two_pow (n:=24) (Nat.or_lt_two_pow (by omega) (by omega)) (by omega)
theorem dP (F M en per:Nat)(ea:Option Addr)(T:ByteArray)(p:Nat)(w:World)(hF:rh w F M ea en T per)(hp:p+3<=T.size)(hT:T.size<=4500000): Calls Tryz.prog 226 #[.pointer (some ⟨F,0,none⟩),.int .i64 p] w fun e w'=>e=.returned (.int .u32 (lj T p:Nat))/\∃n,w'=w.drewN n:=by
 obtain⟨c0,_⟩:=hF.cells;clear hF;have hU:(T.extract p (p+3)).size=3:=by simp;omega
 obtain⟨U,hUe⟩:∃U,T.extract p (p+3)=U:=⟨_,rfl⟩
 have gu:∀j (h:j<U.size),j<3->U[j].toNat=(T.data.toList.getD (p+j) 0).toNat:=fun j h h3=>by
  rw[byte_at U j h,<-hUe,ab2,acg,abO,aaa,aaa,abx,aaf (by omega),List.getElem?_drop]
 rw[hUe]at hU;have g0:=gu 0 (by omega) (by omega);have g1:=gu 1 (by omega) (by omega);have g2:=gu 2 (by omega) (by omega);have b0:=(T.data.toList.getD p 0).toNat_lt;have b1:=(T.data.toList.getD (p+1) 0).toNat_lt;have b2:=(T.data.toList.getD (p+2) 0).toNat_lt;unfold lj;have g0:U[0].toNat=(T.data.toList.getD p 0).toNat:=g0;generalize (T.data.toList.getD p 0).toNat=x at *;generalize (T.data.toList.getD (p+1) 0).toNat=y at *;generalize (T.data.toList.getD (p+2) 0).toNat=z at *;clear gu;have o1:=u32_or_nat (x*65536) (y*256) (by omega) (by omega);have hxy:(x*65536|||y*256)<16777216:=Nat.or_lt_two_pow (n:=24) (by omega) (by omega);have o2:=u32_or_nat (x*65536|||y*256) z (by omega) (by omega);have O:Hid (_/\_):=⟨o1,o2⟩
 clear o1 o2 hxy
 go_enter Tryz.func226,Tryz.ntmps226
 go_wp2
 go_quiet (fail)
 go_wp2
 go_ret
 refine⟨abq (fun v=>Ending.returned (Value.int .u32 v)) ?_,⟨_,rfl⟩⟩;have e1:=O.out.1;have e2:=O.out.2;rw[show ((x*65536:Nat):Int)=(x:Int)*65536 by omega,show ((y*256:Nat):Int)=(y:Int)*256 by omega]at e1;rw[e1];exact e2
end
section
open Go.RowKit Go.Maps
theorem bq:Keyed Tryz.prog 198:=int_keyed Tryz.underlying198
theorem XK (a:Nat)(h:a<16777216):(Lit.int .u32 (a:Int)).wf=true:=by
 have e1:IntKind.u32.min=0:=by decide
 have e2:IntKind.u32.max=4294967295:=by decide
 simp only[Lit.wf,e1,e2,aaJ,aaH];omega
theorem tr (a:Nat)(h:a<16777216):keyOf Tryz.prog 198 (.int .u32 (a:Int))=some (.int .u32 (a:Int)):=keyOf_int_mk Tryz.underlying198 (XK a h)
abbrev kW (a:Nat):Lit:=.int .u32 (a:Int)
theorem Mi (a:Nat)(h:a<16777216):WideAt.IsKeyLit (kW a):=bq.key (tr a h)
structure eo (D:DataW Unit) (T:ByteArray) (lo N:Nat):Prop where
 isMap:IsMap D
 val:∀x:Nat,x<16777216->Maps.has D (kW x)=true->∃v:Nat,D.atKey (kW x) (.lit (.int .i64 0))=.lit (.int .i64 (v:Int))/\v<N/\lo<=v/\lj T v=x/\v+3<=T.size
theorem eo.weak {D:DataW Unit}{T:ByteArray}{lo N lo' N':Nat}(h:eo D T lo N)(h1:lo'<=lo)(h2:N<=N'):eo D T lo' N' :=
 ⟨h.isMap,fun x hx hh=>by obtain⟨v,a,b,c,d⟩:=h.val x hx hh;exact⟨v,a,by omega,by omega,d⟩⟩
theorem eo.put {D:DataW Unit}{T:ByteArray}{lo N p:Nat}(h:eo D T lo N)(h1:lo<=p)(h2:p<N)(h3:p+3<=T.size):eo (D.put (kW (lj T p)) (.lit (.int .i64 (p:Int)))) T lo N:=by
 have hk:=Mi _ (gY T p);refine⟨h.isMap.put _ _,fun x hx hh=>?_⟩;by_cases e:x=lj T p
 ·subst e;exact⟨p,atKey_put_same h.isMap hk _ _,h2,h1,rfl,h3⟩
 ·have hne:kW x≠kW (lj T p):=fun q=>e (by simp only[kW,abA,abG]at q;omega);rw[has_put_other hne]at hh;obtain⟨v,a,b⟩:=h.val x hx hh;exact⟨v,by rw[atKey_put_other hne];exact a,b⟩
theorem eo.far {D:DataW Unit}{T:ByteArray}{f N:Nat}(h:eo D T f N):eo (D.del (kW (lj T f))) T (f+1) N:=by
 refine⟨h.isMap.del _,fun x hx hh=>?_⟩;by_cases e:x=lj T f
 ·subst e;rw[has_del_same]at hh;cases hh
 ·have hne:kW x≠kW (lj T f):=fun q=>e (by simp only[kW,abA,abG]at q;omega);rw[has_del_other hne]at hh;obtain⟨v,a,b,c,d,g⟩:=h.val x hx hh;refine⟨v,by rw[atKey_del_other hne];exact a,b,?_,d,g⟩;rcases aaL f v with q|q
  ·exact q
  ·have:v=f:=by omega
   subst this;exact absurd d.symm e
theorem eo.near {D:DataW Unit}{T:ByteArray}{f N:Nat}(h:eo D T f N)(c:Int)(hc:D.atKey (kW (lj T f)) (.lit (.int .i64 0))=.lit (.int .i64 c))(hne:c≠(f:Int)):eo D T (f+1) N:=by
 refine⟨h.isMap,fun x hx hh=>?_⟩;obtain⟨v,a,b,cc,d,g⟩:=h.val x hx hh;refine⟨v,a,b,?_,d,g⟩;rcases aaL f v with q|q
 ·exact q
 ·have:v=f:=by omega
  subst this;rw[d,a]at hc;simp only[abw,abA,abG]at hc;exact absurd hc.symm hne
structure Fd (w:World) (F M G en per:Nat) (T:ByteArray) (N:Nat):Prop where
 box:rh w F M (some ⟨G,0,none⟩) en T per
 map:∃D q,w.ownsMap Tryz.prog 198 (plainElem Tryz.prog 3) M q D/\q<=N/\eo D T (N-32768) N
 Tq:∃es,aR w G es/\es.length=en/\∀j,-1<=es.getD j 0/\(es.getD j 0<(N:Int)\/es.getD j 0=0)
 sz:en=min T.size 32768
 ne:F≠M/\F≠G/\M≠G
theorem Fd.kept {w w':World}{F M G en per N:Nat}{T:ByteArray}(h:Fd w F M G en per T N)(k:∀j,j=F\/j=M\/j=G->w'.heap[j]?=w.heap[j]?):Fd w' F M G en per T N:=by
 obtain⟨a,⟨D,q,b1,b2⟩,⟨es,c1,c2⟩,d,e⟩:=h;refine⟨(k F (.inl rfl)).trans a,⟨D,q,?_,b2⟩,⟨es,(k G (.inr (.inr rfl))).trans c1,c2⟩,d,e⟩;obtain⟨es',clock,hb,r⟩:=b1;exact⟨es',clock,(k M (.inr (.inl rfl))).trans hb,r⟩
theorem Fd.lt {w:World}{F M G en per N:Nat}{T:ByteArray}(h:Fd w F M G en per T N):F<w.heap.size/\M<w.heap.size/\G<w.heap.size:=by
 obtain⟨D,q,b1,_⟩:=h.map;obtain⟨es,c1,_⟩:=h.Tq;exact⟨aab h.box,b1.lt,aab c1⟩
theorem Fd.below {w w':World}{F M G en per N:Nat}{T:ByteArray}(h:Fd w F M G en per T N)(k:Below w.heap.size w w'):Fd w' F M G en per T N:=by
 obtain⟨a,b,c⟩:=h.lt;exact h.kept (fun j hj=>k.block j (by rcases hj with rfl|rfl|rfl<;>assumption))
theorem p9 {es:List Int}{N i:Nat}{x:Int}(h:∀j,-1<=es.getD j 0/\(es.getD j 0<(N:Int)\/es.getD j 0=0))(h1:-1<=x)(h2:x<(N:Int)\/x=0):∀j,-1<=(es.set i x).getD j 0/\((es.set i x).getD j 0<((N+1:Nat):Int)\/(es.set i x).getD j 0=0):=fun j=>by
 rw[aaa,List.getElem?_set];have:=h j;rw[aaa]at this;split
 ·split
  ·simp only[acr];omega
  ·simp
 ·omega
theorem IX {es:List Int}{N:Nat}(h:∀j,-1<=es.getD j 0/\(es.getD j 0<(N:Int)\/es.getD j 0=0)):∀j,-1<=es.getD j 0/\(es.getD j 0<((N+1:Nat):Int)\/es.getD j 0=0):=fun j=>by
 have:=h j;omega
theorem oA (F M G en per N:Nat)(T:ByteArray)(w:World)(h:Fd w F M G en per T N)(hN:N<T.size)(hT:T.size<=4500000): Calls Tryz.prog 205 #[.pointer (some ⟨F,0,none⟩),.int .i64 N] w fun e w'=>e=.returned (.tuple #[])/\Fd w' F M G en per T (N+1)/\Kp (fun k=>k=M\/k=G) w w':=by
 obtain⟨hB0,⟨D0,q0,hM0,hq0,hk0⟩,⟨es,hL0,hel,hes⟩,hsz,hne⟩:=h;have IY:Kp (fun k=>k=M\/k=G) w w:=Kp.refl _ _;have Rt:(Lit.int .i64 (N:Int)).wf=true:=WalkArith.wf_i64 (by omega);obtain⟨r,hr⟩:∃r,N%32768=r:=⟨_,rfl⟩
 have hidx:r<es.length:=by omega
 have Tr:(N:Int).tmod 32768=(r:Int):=by rw[Int.tmod_eq_emod_of_nonneg (by omega)];omega
 have HR:Hid (N%32768=r):=hr;clear hr;have NS:Hid (eo D0 T (N-32768) N):=hk0;clear hk0;have hrN:r<32768:=by have:=HR.out;omega
 have yq:Hid (en=min T.size 32768):=hsz;clear hsz;obtain⟨c0,c1,c2,c3⟩:=hB0.cells;obtain⟨fi,w1⟩:∃fi,IntKind.i64.wrap ((N:Int)-32768)=fi:=⟨_,rfl⟩
 have NJ:Hid (fi=(N:Int)-32768):=by show _=_;rw[<-w1];exact aah _ (by omega)
 obtain⟨li,w2⟩:∃li,IntKind.i64.wrap ((T.size:Int)-(N:Int))=li:=⟨_,rfl⟩
 have IZ:Hid (li=(T.size:Int)-(N:Int)):=by show _=_;rw[<-w2];exact aah _ (by omega)
 have HT:Hid (N<T.size/\T.size<=4500000):=⟨hN,hT⟩
 by_cases WG:fi≥0
 ·obtain⟨f,rfl⟩:∃f:Nat,fi=(f:Int):=⟨fi.toNat,by omega⟩
  have Ru:Hid (N=f+32768):=by show _=_;have:=NJ.out;omega
  have hk0':Hid (eo D0 T f N):=NS.out.weak (by have:=Ru.out;omega) (aad _);have hkeyf:=tr (lj T f) (gY T f);obtain⟨cv,_,zC,_⟩:=hM0.lookup_int bq Tryz.underlying235 Tryz.underlying3 (iF w) hkeyf
  have XL:cv≠(f:Int)->Hid (eo D0 T (N+1-32768) N):=fun hc=>by
   have:=hk0'.out.near cv zC hc;rw[show f+1=N+1-32768 by have:=Ru.out;omega]at this;exact this
  have XM:Hid (eo (D0.del (kW (lj T f))) T (N+1-32768) N):=by
   have:=hk0'.out.far;rw[show f+1=N+1-32768 by have:=Ru.out;omega]at this;exact this
  have hfT:f+3<=T.size:=by have:=Ru.out;omega
  have vO:=HT.out.2;have ve:=dP F M en per _ T f w hB0 hfT hT;clear hN hT NS hk0' vO hfT;generalize hkf:lj T f=kf at *;by_cases hcf:cv=(f:Int)
  ·have hcb:(cv==(f:Int))=true:=by simp[hcf]
   have hk1:Hid (eo (D0.del (kW kf)) T (N+1-32768) N):=XM;clear XL XM
   go_enter Tryz.func205,Tryz.ntmps205
   go_wp2_with fail;refine ve.mono ?_;rintro e u0 ⟨rfl,n1,rfl⟩;have hB':rh (w.drewN n1) F M (some ⟨G,0,none⟩) en T per:=hB0;have hM':(w.drewN n1).ownsMap Tryz.prog 198 (plainElem Tryz.prog 3) M q0 D0:=hM0;have hL':aR (w.drewN n1) G es:=hL0;have XN:Kp (fun k=>k=M\/k=G) w (w.drewN n1):=IY.drewN n1;clear ve c0 c1 c2 c3;obtain⟨c0,c1,c2,c3⟩:=hB'.cells
   have XO:∀u1,(w.drewN n1).mapTurned u1 M->rh u1 F M (some ⟨G,0,none⟩) en T per/\aR u1 G es/\Kp (fun k=>k=M\/k=G) w u1:=fun u1 ht=>by
    have hg:=ht.grown;exact⟨(hg.block F (aab hB') (fun e=>hne.1 (aay e))).trans hB',(hg.block G (aab hL') (fun e=>hne.2.2 (aay e).symm)).trans hL',XN.grown hg (fun k e=>by cases e;exact .inl (.inl rfl))⟩
   have hTc:∀u1,(w.drewN n1).mapTurned u1 M->u1.cell? ⟨F,0,none⟩=some (.string T):=fun u1 ht=>(XO u1 ht).1.cells.1;generalize w.drewN n1=u0 at *;by_cases hsh:li<3
   ·go_wp2_with (first|(at_lookup;refine wpList_lookup_own_int _ rfl _ _ 235 rfl 198 3 .i64 bq Tryz.underlying235 Tryz.underlying3 (iF _) M _ _ rfl hM' _ _ rfl hkeyf ?_;intro c hat hwc;clear hwc;rw[zC]at hat;simp only[abw,abA,abG]at hat;subst hat)|(at_delete;refine wpList_delete_own _ rfl _ _ 235 198 rfl 3 bq Tryz.underlying235 _ M _ _ rfl hM' _ _ rfl hkeyf ?_;intro u1 hM1 ht1));obtain⟨hB1,hL1,oP⟩:=XO u1 ht1;have hTN:=HT.out;have KO:=IZ.out;exact aal (abe rfl _ _ _) rfl ⟨rfl,⟨hB1,⟨(D0.del (kW kf)),q0,hM1,by omega,hk1.out.weak (by omega) (by omega)⟩,⟨es,hL1,hel,IX hes⟩,yq.out,hne⟩,oP⟩
   ·go_wp2_with (first|(at_lookup;refine wpList_lookup_own_int _ rfl _ _ 235 rfl 198 3 .i64 bq Tryz.underlying235 Tryz.underlying3 (iF _) M _ _ rfl hM' _ _ rfl hkeyf ?_;intro c hat hwc;clear hwc;rw[zC]at hat;simp only[abw,abA,abG]at hat;subst hat)|(at_delete;refine wpList_delete_own _ rfl _ _ 235 198 rfl 3 bq Tryz.underlying235 _ M _ _ rfl hM' _ _ rfl hkeyf ?_;intro u1 hM1 ht1));obtain⟨hB1,hL1,oP⟩:=XO u1 ht1;refine (dP F M en per _ T N u1 hB1 (by have:=HT.out;have:=IZ.out;omega) HT.out.2).mono ?_;rintro e u2 ⟨rfl,n2,rfl⟩;have hB2:rh (u1.drewN n2) F M (some ⟨G,0,none⟩) en T per:=hB1;have hM2:(u1.drewN n2).ownsMap Tryz.prog 198 (plainElem Tryz.prog 3) M q0 (D0.del (kW kf)):=hM1;have hL2:aR (u1.drewN n2) G es:=hL1;have zD:Kp (fun k=>k=M\/k=G) w (u1.drewN n2):=oP.drewN n2;have HP:Hid (eo ((D0.del (kW kf)).put (kW (lj T N)) (.lit (.int .i64 (N:Int)))) T (N+1-32768) (N+1)):=(hk1.out.weak (aad _) (Nat.le_succ _)).put (by omega) (by omega) (by have:=HT.out;have:=IZ.out;omega);generalize u1.drewN n2=u2 at *;clear hB1 hM1 hL1 oP;obtain⟨d0,d1,d2,d3⟩:=hB2.cells;have cG:=hL2.at_ r (by omega);have fzG:∀j,u2.frozen? ⟨G,j,none⟩=false:=fun j=>aaE u2 G j _ _ hL2;have hMs:=fun x=>hM2.setCell (a:=⟨G,r,none⟩) hne.2.2 x;have NT:=fun x:Int=>hL2.set r x;have NU:=fun x:Value=>(aag u2 ⟨G,r,none⟩ x F hne.2.1).trans hB2;have hks:=fun x:Value=>zD.setCell (p:=⟨G,r,none⟩) (.inl (.inr rfl)) x;have HC:Hid (_/\_/\_/\_):=⟨hMs,NT,NU,hks⟩
    have jd:=tr (lj T N) (gY T N);have hqm:q0<maxLen:=by have:=HT.out;unfold maxLen;omega
    have hlG:G<u2.heap.size:=aab hL2;have XP:F<u2.heap.size:=aab hB2;have hv0:=hk1.out.val _ (gY T N);have hnot:Maps.has (D0.del (kW kf)) (kW (lj T N))=false->(D0.del (kW kf)).atKey (kW (lj T N)) (.lit (.int .i64 0))=.lit (.int .i64 0):=fun hh=>atKey_of_not_has hh _;generalize ve:lj T N=kx at *;clear hL2 hB2 NT NU hks zD;by_cases hh:Maps.has (D0.del (kW kf)) (kW kx)=true
    ·obtain⟨v,hval,hvN,_⟩:=hv0 hh;clear hv0 hnot hMs;go_wp2_with (first|(at_lookup;refine ab6 _ rfl _ _ 235 rfl 198 3 .i64 bq Tryz.underlying235 Tryz.underlying3 (iF _) M _ _ rfl hM2 _ _ rfl jd ?_;intro c hat hwc;clear hwc;rw[hval]at hat;simp only[abw,abA,abG]at hat;subst hat)|(at_mapUpdate;refine wpList_mapUpdate_own _ rfl _ _ _ 235 rfl 198 3 bq Tryz.underlying235 _ M _ _ rfl (HC.out.1 _) hqm _ _ _ rfl rfl jd _ [] (plainElem_int Tryz.underlying3 Rt) ?_;intro u3 hown3 hg3))
     go_end0
     obtain⟨Ts,I0,I1,I2⟩:=HC.out;exact⟨rfl,⟨(hg3.block F (by rw[aaY];omega) (fun e=>hne.1 (aay e))).trans (I1 _),⟨_,q0+1,hown3,by omega,HP.out⟩,⟨_,(hg3.block G (by rw[aaY];omega) (fun e=>hne.2.2 (aay e).symm)).trans (I0 _),by rw[aaZ];exact hel,p9 hes (by omega) (by omega)⟩,yq.out,hne⟩,(I2 _).grown hg3 (fun k e=>by cases e;exact .inl (.inl rfl))⟩
    ·have hh:Maps.has (D0.del (kW kf)) (kW kx)=false:=by simpa using hh
     have hval:=hnot hh;clear hv0 hnot hMs;go_wp2_with (first|(at_lookup;refine ab6 _ rfl _ _ 235 rfl 198 3 .i64 bq Tryz.underlying235 Tryz.underlying3 (iF _) M _ _ rfl hM2 _ _ rfl jd ?_;intro c hat hwc;clear hwc;rw[hval]at hat;simp only[abw,abA,abG]at hat;subst hat)|(at_mapUpdate;refine wpList_mapUpdate_own _ rfl _ _ _ 235 rfl 198 3 bq Tryz.underlying235 _ M _ _ rfl (HC.out.1 _) hqm _ _ _ rfl rfl jd _ [] (plainElem_int Tryz.underlying3 Rt) ?_;intro u3 hown3 hg3))
     go_end0
     obtain⟨Ts,I0,I1,I2⟩:=HC.out;exact⟨rfl,⟨(hg3.block F (by rw[aaY];omega) (fun e=>hne.1 (aay e))).trans (I1 _),⟨_,q0+1,hown3,by omega,HP.out⟩,⟨_,(hg3.block G (by rw[aaY];omega) (fun e=>hne.2.2 (aay e).symm)).trans (I0 _),by rw[aaZ];exact hel,p9 hes (by omega) (by omega)⟩,yq.out,hne⟩,(I2 _).grown hg3 (fun k e=>by cases e;exact .inl (.inl rfl))⟩
  ·have hcb:(cv==(f:Int))=false:=by simp[hcf]
   have hk1:=XL hcf;clear XL XM
   go_enter Tryz.func205,Tryz.ntmps205
   go_wp2_with fail;refine ve.mono ?_;rintro e u0 ⟨rfl,n1,rfl⟩;have hB1:rh (w.drewN n1) F M (some ⟨G,0,none⟩) en T per:=hB0;have hM1:(w.drewN n1).ownsMap Tryz.prog 198 (plainElem Tryz.prog 3) M q0 D0:=hM0;have hL1:aR (w.drewN n1) G es:=hL0;have oP:Kp (fun k=>k=M\/k=G) w (w.drewN n1):=IY.drewN n1;clear ve c0 c1 c2 c3;obtain⟨c0,c1,c2,c3⟩:=hB1.cells;generalize w.drewN n1=u1 at *;by_cases hsh:li<3
   ·go_wp2_with ((at_lookup;refine wpList_lookup_own_int _ rfl _ _ 235 rfl 198 3 .i64 bq Tryz.underlying235 Tryz.underlying3 (iF _) M _ _ rfl hM1 _ _ rfl hkeyf ?_;intro c hat hwc;clear hwc;rw[zC]at hat;simp only[abw,abA,abG]at hat;subst hat));have hTN:=HT.out;have KO:=IZ.out;exact aal (abe rfl _ _ _) rfl ⟨rfl,⟨hB1,⟨D0,q0,hM1,by omega,hk1.out.weak (by omega) (by omega)⟩,⟨es,hL1,hel,IX hes⟩,yq.out,hne⟩,oP⟩
   ·go_wp2_with ((at_lookup;refine wpList_lookup_own_int _ rfl _ _ 235 rfl 198 3 .i64 bq Tryz.underlying235 Tryz.underlying3 (iF _) M _ _ rfl hM1 _ _ rfl hkeyf ?_;intro c hat hwc;clear hwc;rw[zC]at hat;simp only[abw,abA,abG]at hat;subst hat));refine (dP F M en per _ T N u1 hB1 (by have:=HT.out;have:=IZ.out;omega) HT.out.2).mono ?_;rintro e u2 ⟨rfl,n2,rfl⟩;have hB2:rh (u1.drewN n2) F M (some ⟨G,0,none⟩) en T per:=hB1;have hM2:(u1.drewN n2).ownsMap Tryz.prog 198 (plainElem Tryz.prog 3) M q0 D0:=hM1;have hL2:aR (u1.drewN n2) G es:=hL1;have zD:Kp (fun k=>k=M\/k=G) w (u1.drewN n2):=oP.drewN n2;have HP:Hid (eo (D0.put (kW (lj T N)) (.lit (.int .i64 (N:Int)))) T (N+1-32768) (N+1)):=(hk1.out.weak (aad _) (Nat.le_succ _)).put (by omega) (by omega) (by have:=HT.out;have:=IZ.out;omega);generalize u1.drewN n2=u2 at *;clear hB1 hM1 hL1 oP;obtain⟨d0,d1,d2,d3⟩:=hB2.cells;have cG:=hL2.at_ r (by omega);have fzG:∀j,u2.frozen? ⟨G,j,none⟩=false:=fun j=>aaE u2 G j _ _ hL2;have hMs:=fun x=>hM2.setCell (a:=⟨G,r,none⟩) hne.2.2 x;have NT:=fun x:Int=>hL2.set r x;have NU:=fun x:Value=>(aag u2 ⟨G,r,none⟩ x F hne.2.1).trans hB2;have hks:=fun x:Value=>zD.setCell (p:=⟨G,r,none⟩) (.inl (.inr rfl)) x;have HC:Hid (_/\_/\_/\_):=⟨hMs,NT,NU,hks⟩
    have jd:=tr (lj T N) (gY T N);have hqm:q0<maxLen:=by have:=HT.out;unfold maxLen;omega
    have hlG:G<u2.heap.size:=aab hL2;have XP:F<u2.heap.size:=aab hB2;have hv0:=hk1.out.val _ (gY T N);have hnot:Maps.has D0 (kW (lj T N))=false->D0.atKey (kW (lj T N)) (.lit (.int .i64 0))=.lit (.int .i64 0):=fun hh=>atKey_of_not_has hh _;generalize ve:lj T N=kx at *;clear hL2 hB2 NT NU hks zD;by_cases hh:Maps.has D0 (kW kx)=true
    ·obtain⟨v,hval,hvN,_⟩:=hv0 hh;clear hv0 hnot hMs;go_wp2_with (first|(at_lookup;refine ab6 _ rfl _ _ 235 rfl 198 3 .i64 bq Tryz.underlying235 Tryz.underlying3 (iF _) M _ _ rfl hM2 _ _ rfl jd ?_;intro c hat hwc;clear hwc;rw[hval]at hat;simp only[abw,abA,abG]at hat;subst hat)|(at_mapUpdate;refine wpList_mapUpdate_own _ rfl _ _ _ 235 rfl 198 3 bq Tryz.underlying235 _ M _ _ rfl (HC.out.1 _) hqm _ _ _ rfl rfl jd _ [] (plainElem_int Tryz.underlying3 Rt) ?_;intro u3 hown3 hg3))
     go_end0
     obtain⟨Ts,I0,I1,I2⟩:=HC.out;exact⟨rfl,⟨(hg3.block F (by rw[aaY];omega) (fun e=>hne.1 (aay e))).trans (I1 _),⟨_,q0+1,hown3,by omega,HP.out⟩,⟨_,(hg3.block G (by rw[aaY];omega) (fun e=>hne.2.2 (aay e).symm)).trans (I0 _),by rw[aaZ];exact hel,p9 hes (by omega) (by omega)⟩,yq.out,hne⟩,(I2 _).grown hg3 (fun k e=>by cases e;exact .inl (.inl rfl))⟩
    ·have hh:Maps.has D0 (kW kx)=false:=by simpa using hh
     have hval:=hnot hh;clear hv0 hnot hMs;go_wp2_with (first|(at_lookup;refine ab6 _ rfl _ _ 235 rfl 198 3 .i64 bq Tryz.underlying235 Tryz.underlying3 (iF _) M _ _ rfl hM2 _ _ rfl jd ?_;intro c hat hwc;clear hwc;rw[hval]at hat;simp only[abw,abA,abG]at hat;subst hat)|(at_mapUpdate;refine wpList_mapUpdate_own _ rfl _ _ _ 235 rfl 198 3 bq Tryz.underlying235 _ M _ _ rfl (HC.out.1 _) hqm _ _ _ rfl rfl jd _ [] (plainElem_int Tryz.underlying3 Rt) ?_;intro u3 hown3 hg3))
     go_end0
     obtain⟨Ts,I0,I1,I2⟩:=HC.out;exact⟨rfl,⟨(hg3.block F (by rw[aaY];omega) (fun e=>hne.1 (aay e))).trans (I1 _),⟨_,q0+1,hown3,by omega,HP.out⟩,⟨_,(hg3.block G (by rw[aaY];omega) (fun e=>hne.2.2 (aay e).symm)).trans (I0 _),by rw[aaZ];exact hel,p9 hes (by omega) (by omega)⟩,yq.out,hne⟩,(I2 _).grown hg3 (fun k e=>by cases e;exact .inl (.inl rfl))⟩
 ·have hk1:Hid (eo D0 T (N+1-32768) N):=NS.out.weak (by have:=NJ.out;omega) (aad _);clear hN hT
  go_enter Tryz.func205,Tryz.ntmps205
  by_cases hsh:li<3
  ·go_wp2;have hTN:=HT.out;have KO:=IZ.out;exact aal (abe rfl _ _ _) rfl ⟨rfl,⟨hB0,⟨D0,q0,hM0,by omega,hk1.out.weak (by omega) (by omega)⟩,⟨es,hL0,hel,IX hes⟩,yq.out,hne⟩,IY⟩
  ·go_wp2_with fail;refine (dP F M en per _ T N w hB0 (by have:=HT.out;have:=IZ.out;omega) HT.out.2).mono ?_;rintro e u2 ⟨rfl,n2,rfl⟩;have hB2:rh (w.drewN n2) F M (some ⟨G,0,none⟩) en T per:=hB0;have hM2:(w.drewN n2).ownsMap Tryz.prog 198 (plainElem Tryz.prog 3) M q0 D0:=hM0;have hL2:aR (w.drewN n2) G es:=hL0;have zD:Kp (fun k=>k=M\/k=G) w (w.drewN n2):=IY.drewN n2;have HP:Hid (eo (D0.put (kW (lj T N)) (.lit (.int .i64 (N:Int)))) T (N+1-32768) (N+1)):=(hk1.out.weak (aad _) (Nat.le_succ _)).put (by omega) (by omega) (by have:=HT.out;have:=IZ.out;omega);generalize w.drewN n2=u2 at *;clear hB0 hM0 hL0 IY;obtain⟨d0,d1,d2,d3⟩:=hB2.cells;have cG:=hL2.at_ r (by omega);have fzG:∀j,u2.frozen? ⟨G,j,none⟩=false:=fun j=>aaE u2 G j _ _ hL2;have hMs:=fun x=>hM2.setCell (a:=⟨G,r,none⟩) hne.2.2 x;have NT:=fun x:Int=>hL2.set r x;have NU:=fun x:Value=>(aag u2 ⟨G,r,none⟩ x F hne.2.1).trans hB2;have hks:=fun x:Value=>zD.setCell (p:=⟨G,r,none⟩) (.inl (.inr rfl)) x;have HC:Hid (_/\_/\_/\_):=⟨hMs,NT,NU,hks⟩
   have jd:=tr (lj T N) (gY T N);have hqm:q0<maxLen:=by have:=HT.out;unfold maxLen;omega
   have hlG:G<u2.heap.size:=aab hL2;have XP:F<u2.heap.size:=aab hB2;have hv0:=hk1.out.val _ (gY T N);have hnot:Maps.has D0 (kW (lj T N))=false->D0.atKey (kW (lj T N)) (.lit (.int .i64 0))=.lit (.int .i64 0):=fun hh=>atKey_of_not_has hh _;generalize ve:lj T N=kx at *;clear hL2 hB2 NT NU hks zD;by_cases hh:Maps.has D0 (kW kx)=true
   ·obtain⟨v,hval,hvN,_⟩:=hv0 hh;clear hv0 hnot hMs;go_wp2_with (first|(at_lookup;refine ab6 _ rfl _ _ 235 rfl 198 3 .i64 bq Tryz.underlying235 Tryz.underlying3 (iF _) M _ _ rfl hM2 _ _ rfl jd ?_;intro c hat hwc;clear hwc;rw[hval]at hat;simp only[abw,abA,abG]at hat;subst hat)|(at_mapUpdate;refine wpList_mapUpdate_own _ rfl _ _ _ 235 rfl 198 3 bq Tryz.underlying235 _ M _ _ rfl (HC.out.1 _) hqm _ _ _ rfl rfl jd _ [] (plainElem_int Tryz.underlying3 Rt) ?_;intro u3 hown3 hg3))
    go_end0
    obtain⟨Ts,I0,I1,I2⟩:=HC.out;exact⟨rfl,⟨(hg3.block F (by rw[aaY];omega) (fun e=>hne.1 (aay e))).trans (I1 _),⟨_,q0+1,hown3,by omega,HP.out⟩,⟨_,(hg3.block G (by rw[aaY];omega) (fun e=>hne.2.2 (aay e).symm)).trans (I0 _),by rw[aaZ];exact hel,p9 hes (by omega) (by omega)⟩,yq.out,hne⟩,(I2 _).grown hg3 (fun k e=>by cases e;exact .inl (.inl rfl))⟩
   ·have hh:Maps.has D0 (kW kx)=false:=by simpa using hh
    have hval:=hnot hh;clear hv0 hnot hMs;go_wp2_with (first|(at_lookup;refine ab6 _ rfl _ _ 235 rfl 198 3 .i64 bq Tryz.underlying235 Tryz.underlying3 (iF _) M _ _ rfl hM2 _ _ rfl jd ?_;intro c hat hwc;clear hwc;rw[hval]at hat;simp only[abw,abA,abG]at hat;subst hat)|(at_mapUpdate;refine wpList_mapUpdate_own _ rfl _ _ _ 235 rfl 198 3 bq Tryz.underlying235 _ M _ _ rfl (HC.out.1 _) hqm _ _ _ rfl rfl jd _ [] (plainElem_int Tryz.underlying3 Rt) ?_;intro u3 hown3 hg3))
    go_end0
    obtain⟨Ts,I0,I1,I2⟩:=HC.out;exact⟨rfl,⟨(hg3.block F (by rw[aaY];omega) (fun e=>hne.1 (aay e))).trans (I1 _),⟨_,q0+1,hown3,by omega,HP.out⟩,⟨_,(hg3.block G (by rw[aaY];omega) (fun e=>hne.2.2 (aay e).symm)).trans (I0 _),by rw[aaZ];exact hel,p9 hes (by omega) (by omega)⟩,yq.out,hne⟩,(I2 _).grown hg3 (fun k e=>by cases e;exact .inl (.inl rfl))⟩
def kC (T:List UInt8)(p most l d:Nat):Prop:=(l=1/\d=0)\/(3<=l/\l<=most/\1<=d/\d<=32768/\d<=p/\∀k,k<l->T.getD (p+k) 0=T.getD (p+k-d) 0)
structure Mj (T:List UInt8) (b p most l l':Nat):Prop where
 le:l<=l'
 more:∀m,m<=most->3<=m->(∀k,k<m->T.getD (b+k) 0=T.getD (p+k) 0)->m<=l'
structure ij (w:World) (Xf Xp Xm Xb F p most:Nat) (l d:Nat):Prop where
 f:bM w Xf (.pointer (some ⟨F,0,none⟩)) 212
 p:bM w Xp (.int .i64 (p:Nat)) 3
 m:bM w Xm (.int .i64 (most:Nat)) 3
 b:w.heap[Xb]?=some (.cells #[.int .i64 (l:Nat),.int .i64 (d:Nat)] 216 (0,0))
 ne:Xb≠Xf/\Xb≠Xp/\Xb≠Xm
theorem ij.drewN {w:World}{Xf Xp Xm Xb F p most l d:Nat}(h:ij w Xf Xp Xm Xb F p most l d)(n:Nat):ij (w.drewN n) Xf Xp Xm Xb F p most l d:=⟨h.f,h.p,h.m,h.b,h.ne⟩
theorem BI (Xf Xp Xm Xb F M en per p most l d b:Nat)(ea:Option Addr)(T:ByteArray)(w:World)(h:ij w Xf Xp Xm Xb F p most l d)(hF:rh w F M ea en T per)(hT:T.size<=4500000)(hb:b<p)(hd:p<=b+32768)(hp:p+most<=T.size)(ho:kC T.data.toList p most l d): Calls Tryz.prog 224 #[.int .i64 b,.pointer (some ⟨Xf,0,none⟩),.pointer (some ⟨Xp,0,none⟩),.pointer (some ⟨Xm,0,none⟩),.pointer (some ⟨Xb,0,none⟩)] w fun e w'=>e=.returned (.tuple #[])/\∃l' d',kC T.data.toList p most l' d'/\ij w' Xf Xp Xm Xb F p most l' d'/\Mj T.data.toList b p most l l'/\Kp (·=Xb) w w':=by
 have hal:=IW F M en per ea T b p most w hF (by omega) (by omega) hT;have c0:=h.f.cell;have c1:=h.p.cell;have c2:=h.m.cell
 go_enter Tryz.func224,Tryz.ntmps224
 go_wp2_with fail;refine hal.mono ?_;rintro e w1 ⟨L,rfl,hL,hsame,hmx,n,rfl⟩
 have Rv:Hid (∀m,m<=most->(∀k,k<m->T.data.toList.getD (b+k) 0=T.data.toList.getD (p+k) 0)->m<=L):=fun m hm hk=>by
  rcases hmx with q|q
  ·omega
  ·exact Nat.le_of_not_lt fun hlt=>q (hk L hlt)
 clear hmx;have h1:=h.drewN n;have hk1:Kp (·=Xb) w (w.drewN n):=(Kp.refl _ _).drewN n;clear h hF hal c0 c1 c2;generalize w.drewN n=u at *;have c1:=h1.p.cell;obtain⟨y0,y1,fz,hlb⟩:=aQ h1.b;have I3:p<=4500000:=by omega
 by_cases h3:3<=L
 ·by_cases hlt:l<L
  ·obtain⟨pd,WO⟩:∃pd:Nat,p-b=pd:=⟨_,rfl⟩
   have hw:IntKind.i64.wrap ((p:Int)-(b:Int))=(pd:Int):=(aah _ (by omega)).trans (by omega);have HB:Hid (kC T.data.toList p most L pd):=.inr ⟨h3,hL,by omega,by omega,by omega,fun k hk=>by rw[<-hsame k hk,show p+k-pd=b+k by omega]⟩
   have HU:Hid (ij ((u.setCell ⟨Xb,0,none⟩ (.int .i64 (L:Nat))).setCell ⟨Xb,1,none⟩ (.int .i64 (pd:Nat))) Xf Xp Xm Xb F p most L pd):=by
    have kp:∀(v1 v2:Value) (g:Nat),g≠Xb->((u.setCell ⟨Xb,0,none⟩ v1).setCell ⟨Xb,1,none⟩ v2).heap[g]?=u.heap[g]?:=fun v1 v2 g hg=>(aag _ ⟨Xb,1,none⟩ _ _ hg).trans (aag _ ⟨Xb,0,none⟩ _ _ hg);exact⟨(kp _ _ _ (Ne.symm h1.ne.1)).trans h1.f,(kp _ _ _ (Ne.symm h1.ne.2.1)).trans h1.p,(kp _ _ _ (Ne.symm h1.ne.2.2)).trans h1.m,gK h1.b _ _,h1.ne⟩
   have HK:=fun v1 v2=>(hk1.setCell (p:=⟨Xb,0,none⟩) (.inl rfl) v1).setCell (p:=⟨Xb,1,none⟩) (.inl rfl) v2;have I4:(L:Int)>(l:Int):=by omega
   have hL3:(L:Int)≥3:=by omega
   clear hsame ho WO;go_wp2
   go_end0
   exact⟨rfl,L,pd,HB.out,HU.out,⟨by omega,fun m h1 _ h3=>Rv.out m h1 h3⟩,HK _ _⟩
  ·have I4:¬(L:Int)>(l:Int):=by omega
   have hL3:(L:Int)≥3:=by omega
   have HO:Hid (kC T.data.toList p most l d):=ho;clear hsame ho;go_wp2
   go_end0
   exact⟨rfl,l,d,HO.out,h1,⟨aad _,fun m h1 _ h3=>by have:=Rv.out m h1 h3;omega⟩,hk1⟩
 ·have hL3:¬(L:Int)≥3:=by omega
  have HO:Hid (kC T.data.toList p most l d):=ho;clear hsame ho;go_wp2
  go_end0
  exact⟨rfl,l,d,HO.out,h1,⟨aad _,fun m h1 h2 h3=>by have:=Rv.out m h1 h3;omega⟩,hk1⟩
theorem Mk (args:Array Value)(w:World):(callFunc 224 args).run Tryz.prog w=.ok (.enter 224 args) w:=by kernel_rfl
end
end Go.Proofs.YtmfijackgekioaaGreatDoor
