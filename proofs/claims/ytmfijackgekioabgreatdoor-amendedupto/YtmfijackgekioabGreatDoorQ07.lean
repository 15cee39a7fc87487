import Derived.Test.YtmfijackgekioabGreatDoorQ06
import Derived.Laws.Tables
import Derived.Laws.Rows
set_option maxHeartbeats 16000000
set_option maxRecDepth 100000
namespace Go.Proofs.YtmfijackgekioabGreatDoor
open Go.RowKit Go.Maps
def Alike (s:ByteArray)(jy far:List Int):Prop:=∀st:Rf.St,st.bad=false->st.pos<=8*s.size ->
 ((Rf.symbol (lw s) jy (Rf.codes jy) st).2.bad=false->Rf.symbol (lw s) jy (Rf.codes jy) st=Rf.symbol (lw s) far (Rf.codes far) st/\(Rf.symbol (lw s) far (Rf.codes far) st).1<=29) /\
 ((Rf.symbol (lw s) jy (Rf.codes jy) st).2.bad=true->(Rf.symbol (lw s) far (Rf.codes far) st).2.bad=true\/29<(Rf.symbol (lw s) far (Rf.codes far) st).1)
theorem Cx (s:ByteArray)(far:List Int)(h:far.length<=30):Alike s far far:=fun st _ _ =>
 ⟨fun hb=>⟨rfl,by have:=(Rf.gj (lw s) far (Rf.codes far) st).2 hb;omega⟩,fun hb=>.inl hb⟩
theorem Gb (L:List Int)(limit:Int)(i:Nat)(far vS:List Int)(st st1 st2 dI:Rf.St)(N D:Nat)(j:Int)(h1:Rf.lenOf L i st=(N,st1))(h2:Rf.symbol L far vS st1=(j,st2))(h3:Rf.bZ L j.toNat st2=(D,dI)): Rf.copied L limit i far vS st=if st1.bad=true then st1 else if st2.bad=true\/29<j then { st2 with bad:=true } else if dI.bad=true\/dI.out.length<D then { dI with bad:=true } else if (Rf.room limit dI N).1=true then { (Rf.room limit dI N).2 with out:=Rf.zw D N (Rf.room limit dI N).2.out } else (Rf.room limit dI N).2:=by
 unfold Rf.copied;rw[h1];simp only;rw[h2];simp only;rw[h3]
theorem fL (L:List Int)(limit:Int)(ls cd far vS:List Int)(f:Nat)(st:Rf.St)(h:(st.bad||st.full)=true):Rf.d9 L limit ls cd far vS f st=st:=by
 cases f with
 | zero=>rfl
 | succ f=>rw[Rf.d9,aaj h]
theorem Cy (L:List Int)(limit:Int)(ls cd far vS:List Int)(f:Nat)(st st1:Rf.St)(x:Int)(hb:st.bad=false)(hf:st.full=false)(h1:Rf.symbol L ls cd st=(x,st1)): Rf.d9 L limit ls cd far vS (f+1) st=if st1.bad=true\/x=256 then st1 else if x<256 then Rf.d9 L limit ls cd far vS f (if (Rf.room limit st1 1).1=true then { (Rf.room limit st1 1).2 with out:=(Rf.room limit st1 1).2.out++[UInt8.ofNat x.toNat] } else (Rf.room limit st1 1).2) else if 285<x then Rf.d9 L limit ls cd far vS f { st1 with bad:=true } else Rf.d9 L limit ls cd far vS f (Rf.copied L limit (x-257).toNat far vS st1):=by
 rw[Rf.d9,aai (by rw[hb,hf];decide),h1]
theorem Cz (s:ByteArray)(j:Int)(h0:0<=j)(h1:j<=29)(st:Rf.St)(hp:st.pos<=8*s.size):1<=(Rf.bZ (lw s) j.toNat st).1/\(Rf.bZ (lw s) j.toNat st).1<=65536:=by
 rw[qr (lw s) j h0 st (by rw[aw];exact hp)];have h:=zJ j h0 h1;have ht:=Rf.take_range (cQ s) st (de j);have hpw:=nK (de j) (by omega);simp only;omega
def posR (R:Nat)(w:World):Nat:=match w.cell? ⟨R,1,none⟩ with|some (.int _ n)=>n.toNat|_=>0
theorem Rd.posR {w:World}{R:Nat}{s:ByteArray}{p:Nat}(h:Rd w R s p):Go.Proofs.YtmfijackgekioabGreatDoor.posR R w=p:=by unfold Go.Proofs.YtmfijackgekioabGreatDoor.posR;rw[h.cells.2.1];simp
structure Sd (w:World) (R b:Nat) (M1 s1 l1 M2 s2 l2:Nat) (ls jy:List Int):Prop where
 t1:j0 w M1 s1 l1 ls
 t2:j0 w M2 s2 l2 jy
 m1:R+5<M1
 m2:R+5<M2
 hb:R+5<b
 bx:w.heap[b]?=some (.cells (M0 M1 s1 l1 M2 s2 l2) 123 (0,0))
 sx:w.heap[b+1]?=some (.cells (dJ R) 111 (0,0))
theorem j0.pE {w:World}{M sh lo:Nat}{ls:List Int}(h:j0 w M sh lo ls)(c:Array Value)(fr:Nat×Nat):w.heap[M]?≠some (.cells c 5 fr):=by
 obtain⟨q,D,⟨es,clock,hb,_⟩,_⟩:=h;rw[hb];simp
theorem j0.of {w w':World}{M sh lo:Nat}{ls:List Int}(h:j0 w M sh lo ls)(e:w'.heap[M]?=w.heap[M]?):j0 w' M sh lo ls:=by
 obtain⟨q,D,⟨es,clock,hb,r⟩,h3⟩:=h;exact⟨q,D,⟨es,clock,e.trans hb,r⟩,h3⟩
theorem Sd.kept {w w':World}{R b M1 s1 l1 M2 s2 l2:Nat}{ls jy:List Int}(h:Sd w R b M1 s1 l1 M2 s2 l2 ls jy)(F:jP R w w'):Sd w' R b M1 s1 l1 M2 s2 l2 ls jy:=by
 have m1:=h.m1;have m2:=h.m2;have hb:=h.hb
 exact⟨h.t1.of (F.other _ h.t1.lt (by omega) (by omega) h.t1.pE),h.t2.of (F.other _ h.t2.lt (by omega) (by omega) h.t2.pE),h.m1,h.m2,h.hb,
  (F.other _ (aaa h.bx) (by omega) (by omega) (fun c fr=>by rw[h.bx];simp)).trans h.bx,(F.other _ (aaa h.sx) (by omega) (by omega) (fun c fr=>by rw[h.sx];simp)).trans h.sx⟩
theorem Sd.read {w w':World}{R b M1 s1 l1 M2 s2 l2:Nat}{ls jy:List Int}(h:Sd w R b M1 s1 l1 M2 s2 l2 ls jy)(k:Kp (·=R) w w'):Sd w' R b M1 s1 l1 M2 s2 l2 ls jy :=
 h.kept (jP.jx (by have:=aaa h.bx;have:=h.hb;omega) k)
theorem JF (s:ByteArray)(R:Nat)(limit:Int)(M1 s1 l1 M2 s2 l2:Nat)(ls jy far:List Int)(st:Rf.St)(ov:Value)(w:World)(h:Pg w s R limit st ov)(hT1:j0 w M1 s1 l1 ls)(IR:j0 w M2 s2 l2 jy)(m1:R+5<M1)(m2:R+5<M2)(hal:Alike s jy far)(hout:Hid (st.out.length<=258*st.pos)): Calls Tryz.prog 75 #[.pointer (some ⟨R,0,none⟩),JA M1 s1 l1 M2 s2 l2,JD R] w fun e w'=>Ends s R limit w (Rf.symbols (lw s) limit ls far st) e w':=by
 have hs:=h.hs;have hlt:=h.lt;obtain⟨F,hF⟩:∃F,F=Rf.symbols (lw s) limit ls far st:=⟨_,rfl⟩
 rw[<-hF];have HF:Hid (F=Rf.d9 (lw s) limit ls (Rf.codes ls) far (Rf.codes far) (8*s.size+2) st):=by show _=_;rw[hF,Rf.symbols,aw]
 have P0:=(h.alloc (.cells (M0 M1 s1 l1 M2 s2 l2) 123)).alloc (.cells (dJ R) 111);have F0:=((jP.refl R w).alloc (by omega) (.cells (M0 M1 s1 l1 M2 s2 l2) 123)).alloc (by simp;omega) (.cells (dJ R) 111);have hk0:Kp (fun _=>False) w ((w.alloc (.cells (M0 M1 s1 l1 M2 s2 l2) 123)).alloc (.cells (dJ R) 111)):=((Kp.refl _ w).alloc _).alloc _
 have S0:Sd ((w.alloc (.cells (M0 M1 s1 l1 M2 s2 l2) 123)).alloc (.cells (dJ R) 111)) R w.heap.size M1 s1 l1 M2 s2 l2 ls jy :=
  ⟨hT1.kept hk0 id,IR.kept hk0 id,m1,m2,hlt,ak (ah w _) _,by have h9:=ah (w.alloc (.cells (M0 M1 s1 l1 M2 s2 l2) 123)) (.cells (dJ R) 111);rw[aas]at h9;exact h9⟩
 clear hk0 hF hT1 IR
 go_enter Tryz.func75,Tryz.ntmps75
 go_wp2
 go_loopw [9] (fun _ wr=>∃(f:Nat) (st':Rf.St) (xQ:Value),Pg wr s R limit st' xQ/\jP R w wr/\Sd wr R w.heap.size M1 s1 l1 M2 s2 l2 ls jy/\Hid (F=Rf.d9 (lw s) limit ls (Rf.codes ls) far (Rf.codes far) f st')/\8*s.size+2<=f+st'.pos/\Hid (st'.out.length<=258*st'.pos)) (fun _ wr=>8*s.size-posR R wr)
 case atStart=>exact⟨8*s.size+2,st,ov,P0,F0,S0,HF,by omega,hout⟩
 case round =>
  clear P0 F0 S0 HF h hout;obtain⟨f,st',xQ,h,F1,S1,HF,hfu,HO⟩:=hrel;have hp:=h.hp;obtain⟨f,rfl⟩:∃g,f=g+1:=⟨f-1,by omega⟩
  have hst:=Cy (lw s) limit ls (Rf.codes ls) far (Rf.codes far) f st';have hrg:=Rf.gj (lw s) ls (Rf.codes ls) st';have ho1:=Rf.fK (lw s) ls (Rf.codes ls) st';have hmp:=Rf.sV (lw s) ls (Rf.codes ls) st';have hpl:=Rf.px (lw s) ls (Rf.codes ls) 15 0 0 st' (by rw[aw];exact hp);have hrd:=Cn M1 s1 l1 ls s R st' wr S1.t1 h.rd (by omega) hs hp h.nb;have JG:(Rf.symbol (lw s) ls (Rf.codes ls) st').2.pos<=(lw s).length:=hpl;clear hpl;generalize hX:Rf.symbol (lw s) ls (Rf.codes ls) st'=X at *;obtain⟨x,st1⟩:=X;simp only at hst hrg ho1 hmp JG hrd;have HST:=hst st1 x h.nb h.nf rfl;rw[<-HF.out]at HST;have HS:Hid (F=_):=HST;rw[aw]at JG;obtain⟨d0,d1,d2,d3,d4,d5,dz,Vd⟩:=oK S1.bx;obtain⟨e0,e1,e2,ez,ZD⟩:=dR S1.sx;have v9:=hidden h.rd.posR;clear hst HST hX;go_wp2_with fail;refine hrd.mono ?_;rintro e w2 (⟨q1,rfl,r2,k2⟩|⟨q1,rfl,k2⟩)
  case inr =>
   go_wp2;have HE:F=st1:=by rw[HS.out,aaj (.inl q1)]
   exact⟨rfl,ft (by rw[HE];exact q1) (by rw[HE];exact ho1.2.2.trans h.nf) (F1.below.trans (k2.below (by have:=h.lt;omega) (fun k _ h=>by omega)))⟩
  case inl =>
  have h2:Pg w2 s R limit st1 xQ:=h.read k2 r2 JG ho1.1 q1 (ho1.2.2.trans h.nf);have F2:=F1.trans (jP.jx (by have:=h.lt;omega) k2);have S2:=S1.read k2;have hx0:=hrg.1;have afj:=hmp q1;have ZE:Hid (st1.out.length+258<=258*st1.pos):=by have:=HO.out;show _<=_;rw[ho1.1];omega
  obtain⟨YD,YE,e2',ez',Ve⟩:=dR S2.sx;clear k2 r2 h F1 S1 HO HF hrd hmp hrg ho1 d0 d1 d2 d3 d4 d5 dz Vd e0 e1 e2 ez ZD;by_cases hx256:x=256
  ·have HE:Hid (F=st1):=by show _=_;rw[HS.out,aaj (.inr hx256)]
   subst hx256;go_wp2
   go_end0
   exact .inl ⟨by rw[HE.out];exact q1,by rw[HE.out];exact h2.nf,rfl,⟨xQ,by rw[HE.out];exact h2⟩,F2⟩
  ·rw[aai (by rw[q1];simp;exact hx256)]at HS;by_cases hxl:x<256
   ·rw[aaj hxl]at HS;obtain⟨y,hy⟩:∃y:UInt8,y=UInt8.ofNat x.toNat:=⟨_,rfl⟩
    have hyx:(y.toNat:Int)=x:=by rw[hy];simp;omega
    rw[<-hy]at HS;have wu:IntKind.u8.wrap x=(y.toNat:Int):=by rw[ab2,hyx];omega
    have PF:Hid (st1.out.length<=11000000000):=by have:=ZE.out;show _<=_;omega
    have PG:Hid (F=_):=HS.out;clear hy hyx HS;go_wp2_with fail;refine (PB y s R limit st1 xQ _ h2 PF).mono ?_;rintro e w3 (⟨q3,rfl,⟨ov3,h3⟩,F3⟩|⟨q3,rfl,F3⟩)
    case inr =>
     go_wp2;have HE:F={ st1 with full:=true }:=by rw[PG.out,q3];simp only[ace,if_false];exact fL _ _ _ _ _ _ _ _ (by simp)
     exact⟨rfl,.inr ⟨by rw[HE];simp,by rw[HE];rfl,F2.below.trans F3⟩⟩
    case inl =>
    have HS2:Hid (F=Rf.d9 (lw s) limit ls (Rf.codes ls) far (Rf.codes far) f { st1 with out:=st1.out++[y] }):=by show _=_;rw[PG.out,q3];rfl
    have S3:=S2.kept F3;have F4:=F2.trans F3;clear q3 PG h2 F2 S2 F3 YD YE e2' ez' Ve wu;go_wp2
    go_roundw
    case rel=>exact⟨f,_,ov3,h3,F4,S3,HS2,by show _<=f+st1.pos;omega,by show _<=_;rw[aac];have:=ZE.out;simp;omega⟩
    case measure=>rw[h3.rd.posR,v9.out];show 8*s.size-st1.pos<_;omega
   ·rw[aai hxl]at HS;by_cases hxg:285<x
    ·rw[aaj hxg]at HS;have HE:Hid (F={ st1 with bad:=true }):=by show _=_;rw[HS.out];exact fL _ _ _ _ _ _ _ _ (by simp)
     go_wp2;exact⟨rfl,ft (by rw[HE.out]) (by rw[HE.out];exact h2.nf) F2.below⟩
    ·rw[aai hxg]at HS;have PI:257<=x:=by omega
     have Vf:x<=285:=by omega
     have hLo:=Rf.zy (cQ s) (x-257).toNat (by omega) st1
     have Ui:(Rf.lenOf (lw s) (x-257).toNat st1).2.pos<=8*s.size/\(Rf.lenOf (lw s) (x-257).toNat st1).2.full=st1.full:=by
      rw[zK (lw s) x PI Vf st1 (by rw[aw];exact JG)];have h9:=Rf.cO (lw s) st1 (vY x) (by rw[aw];exact JG);rw[aw]at h9;exact⟨h9,(Rf.aZ (lw s) st1 (vY x)).2.2⟩
     have hwl:=QY x s R st1 w2 PI Vf h2.rd hs h2.hp q1;have hco:=Gb (lw s) limit (x-257).toNat far (Rf.codes far) st1;generalize Rf.lenOf (lw s) (x-257).toNat st1=LN at *;obtain⟨N,st2⟩:=LN;simp only at hLo Ui hwl hco;have hc2:=hco st2 (Rf.symbol (lw s) far (Rf.codes far) st2).2 (Rf.bZ (lw s) (Rf.symbol (lw s) far (Rf.codes far) st2).1.toNat (Rf.symbol (lw s) far (Rf.codes far) st2).2).2 N (Rf.bZ (lw s) (Rf.symbol (lw s) far (Rf.codes far) st2).1.toNat (Rf.symbol (lw s) far (Rf.codes far) st2).2).1 (Rf.symbol (lw s) far (Rf.codes far) st2).1 rfl rfl rfl;clear hco;have Rg:=hal st2;have hsr:=Rf.gj (lw s) far (Rf.codes far) st2;have hso:=Rf.fK (lw s) far (Rf.codes far) st2;have hsm:=Rf.jA (lw s) far (Rf.codes far) st2;have hsl:(Rf.symbol (lw s) far (Rf.codes far) st2).2.pos<=(lw s).length:=Rf.px (lw s) far (Rf.codes far) 15 0 0 st2 (by rw[aw];exact Ui.1);rw[aw]at hsl;generalize Rf.symbol (lw s) far (Rf.codes far) st2=SY at *;obtain⟨j,dI⟩:=SY;simp only at Rg hsr hso hsm hsl hc2;have HC:Hid (Rf.copied (lw s) limit (x-257).toNat far (Rf.codes far) st1=_):=hc2;clear hc2;go_wp2_with fail;refine hwl.mono ?_;rintro e w3 (⟨a1,rfl,r3,k3⟩|⟨a1,rfl,k3⟩)
     case inr =>
      go_wp2;have HE:F=st2:=by rw[HS.out,HC.out,aaj a1];exact fL _ _ _ _ _ _ _ _ (by rw[a1];rfl)
      exact⟨rfl,ft (by rw[HE];exact a1) (by rw[HE];exact Ui.2.trans h2.nf) (F2.below.trans (k3.below (by have:=h2.lt;omega) (fun k _ h=>by omega)))⟩
     case inl =>
     rw[aai (by rw[a1];decide)]at HC;have h3:Pg w3 s R limit st2 xQ:=h2.read k3 r3 Ui.1 hLo.2.2 a1 (Ui.2.trans h2.nf);have F3:=F2.trans (jP.jx (by have:=h2.lt;omega) k3);have S3:=S2.read k3;have Rh:=Cn M2 s2 l2 jy s R st2 w3 S3.t2 h3.rd (by omega) hs h3.hp a1;have Nc:=Rg a1 h3.hp;obtain⟨d0,d1,d2,d3,d4,d5,dz,Vd⟩:=oK S3.bx;have HHL:Hid (N<=258/\st1.pos<=st2.pos/\st2.out=st1.out):=hLo;clear k3 r3 h2 F2 S2 Rg hwl hLo Ui YD YE e2' ez' Ve;generalize Rf.symbol (lw s) jy (Rf.codes jy) st2=SP at *;obtain⟨jp,UW⟩:=SP;simp only at Rh Nc;go_wp2_with fail;refine Rh.mono ?_;rintro e w4 (⟨b1,rfl,r4,k4⟩|⟨b1,rfl,k4⟩)
     case inr =>
      go_wp2;have h9:=Nc.2 b1;have HE:F={ dI with bad:=true }:=by rw[HS.out,HC.out,aaj h9];exact fL _ _ _ _ _ _ _ _ (by simp)
      exact⟨rfl,ft (by rw[HE]) (by rw[HE];exact hso.2.2.trans h3.nf) (F3.below.trans (k4.below (by have:=h3.lt;omega) (fun k _ h=>by omega)))⟩
     case inl =>
     obtain⟨JH,Ri⟩:=Nc.1 b1;cases JH;have h4:Pg w4 s R limit dI xQ:=h3.read k4 r4 hsl hso.1 b1 (hso.2.2.trans h3.nf);have F4:=F3.trans (jP.jx (by have:=h3.lt;omega) k4);have S4:=S3.read k4;rw[aai (by rw[b1];simp;exact Ri)]at HC;have hj0:=hsr.1;have ZF:=Cz s j hj0 Ri dI hsl;have hDl:=Rf.vT (lw s) j.toNat dI
     have Vg:(Rf.bZ (lw s) j.toNat dI).2.pos<=8*s.size/\(Rf.bZ (lw s) j.toNat dI).2.full=dI.full:=by
      rw[qr (lw s) j hj0 dI (by rw[aw];exact hsl)];have h9:=Rf.cO (lw s) dI (de j) (by rw[aw];exact hsl);rw[aw]at h9;exact⟨h9,(Rf.aZ (lw s) dI (de j)).2.2⟩
     have hwd:=MW j s R dI w4 hj0 Ri h4.rd hs h4.hp b1;have HSO:Hid (dI.out=st2.out/\st2.pos<=dI.pos):=⟨hso.1,hsm⟩
     generalize Rf.bZ (lw s) j.toNat dI=DD at *;obtain⟨D,CA⟩:=DD;simp only at ZF hDl Vg hwd HC;clear k4 r4 h3 F3 S3 Nc Rh hso hsm hsr d0 d1 d2 d3 d4 d5 dz Vd;go_wp2_with fail;refine hwd.mono ?_;rintro e w5 (⟨c1,rfl,r5,k5⟩|⟨c1,rfl,k5⟩)
     case inr =>
      go_wp2;have HE:F={ CA with bad:=true }:=by rw[HS.out,HC.out,aaj (.inl c1)];exact fL _ _ _ _ _ _ _ _ (by simp)
      exact⟨rfl,ft (by rw[HE]) (by rw[HE];exact Vg.2.trans h4.nf) (F4.below.trans (k5.below (by have:=h4.lt;omega) (fun k _ h=>by omega)))⟩
     case inl =>
     have h5:Pg w5 s R limit CA xQ:=h4.read k5 r5 Vg.1 hDl.2 c1 (Vg.2.trans h4.nf);have F5:=F4.trans (jP.jx (by have:=h4.lt;omega) k5);have S5:=S4.read k5
     have YF:Hid (CA.out.length+258<=258*CA.pos/\st1.pos<=CA.pos):=by
      have a:=ZE.out;have b:=HHL.out;have c:=HSO.out;have d:=hDl;show _/\_;rw[d.2,c.1,b.2.2];omega
     have PF:Hid (CA.out.length<=11000000000):=by have:=YF.out.1;have:=Vg.1;show _<=_;omega
     have hN:=HHL.out.1;obtain⟨e0,e1,e2,ez,ZD⟩:=dR S5.sx;clear k5 r5 h4 F4 S4 hwd hDl;go_wp2_with fail;refine (M8 N D s R limit CA xQ _ h5 PF hN ZF.1 ZF.2).mono ?_;rintro e w6 (⟨g1,g2,rfl,⟨Vh,h6⟩,F6⟩|⟨g1,g2,rfl,F6⟩|⟨g1,rfl,F6⟩)
     ·have HS2:Hid (F=Rf.d9 (lw s) limit ls (Rf.codes ls) far (Rf.codes far) f { CA with out:=Rf.zw D N CA.out }):=by
       show _=_;rw[HS.out,HC.out,aai (by rw[c1];simp;omega),g2];rfl
      have S6:=S5.kept F6;have F7:=F5.trans F6;clear g2 HC HS h5 F5 S5 F6 e0 e1 e2 ez ZD;go_wp2
      go_roundw
      case rel=>exact⟨f,_,Vh,h6,F7,S6,HS2,by show _<=f+CA.pos;have:=YF.out.2;omega,by show (Rf.zw D N CA.out).length<=258*CA.pos;rw[Rf.oD];have:=YF.out.1;omega⟩
      case measure=>rw[h6.rd.posR,v9.out];show 8*s.size-CA.pos<_;have:=YF.out.2;omega
     ·go_wp2;have HE:F={ CA with full:=true }:=by rw[HS.out,HC.out,aai (by rw[c1];simp;omega),g2];simp only[ace,if_false];exact fL _ _ _ _ _ _ _ _ (by simp)
      exact⟨rfl,.inr ⟨by rw[HE];simp,by rw[HE];rfl,F5.below.trans F6⟩⟩
     ·go_wp2;have HE:F={ CA with bad:=true }:=by rw[HS.out,HC.out,aaj (.inr g1)];exact fL _ _ _ _ _ _ _ _ (by simp)
      exact⟨rfl,ft (by rw[HE]) (by rw[HE];exact h5.nf) (F5.below.trans F6)⟩
abbrev JI:Array Value:=#[.int .i64 16,.int .i64 17,.int .i64 18,.int .i64 0,.int .i64 8,.int .i64 7,.int .i64 9,.int .i64 6,.int .i64 10,.int .i64 5,.int .i64 11,.int .i64 4,.int .i64 12,.int .i64 3,.int .i64 13,.int .i64 2,.int .i64 14,.int .i64 1,.int .i64 15]
theorem Nd (i:Nat)(h:i<19):JI[i]?=some (.int .i64 ((Rf.order.getD i 0:Nat):Int)):=by
 match i,h with
 | 0,_=>rfl|1,_=>rfl|2,_=>rfl|3,_=>rfl|4,_=>rfl|5,_=>rfl|6,_=>rfl|7,_=>rfl|8,_=>rfl|9,_=>rfl|10,_=>rfl|11,_=>rfl|12,_=>rfl|13,_=>rfl|14,_=>rfl|15,_=>rfl|16,_=>rfl|17,_=>rfl|18,_=>rfl
 | n+19,h=>omega
abbrev gx:Array Value:=#[.int .i64 0,.int .i64 0,.int .i64 0,.int .i64 0,.int .i64 0,.int .i64 0,.int .i64 0,.int .i64 0,.int .i64 0,.int .i64 0,.int .i64 0,.int .i64 0,.int .i64 0,.int .i64 0,.int .i64 0,.int .i64 0,.int .i64 0,.int .i64 0,.int .i64 0]
theorem xS:(Tryz.prog.info? 181).map (·.size)=some 19:=by kernel_rfl
theorem sG (w:World):Calls Tryz.prog 141 #[] w fun e w'=>∃O:Array Value,e=.returned (.agg O)/\O.size=19/\(∀i,i<19->O[i]?=some (.int .i64 ((Rf.order.getD i 0:Nat):Int)))/\O.all (·.oneCell')=true/\Below w.heap.size w w':=by
 go_enter Tryz.func141,Tryz.ntmps141
 go_wp2_with (first|(refine wpList_build rfl 181 _ rfl (by kernel_rfl) ?_)|(refine wpList_store_row rfl 181 _ _ rfl w.heap.size JI rfl (by kernel_rfl) 181 gx (ah w _) xS rfl (by kernel_rfl) ?_))
 exact aaF (v:=.agg JI) (results_cell_row rfl _ _ w.heap.size 181 JI (0,0) _ rfl (setRow_heap _ w.heap.size _ _ 181 _ (ah w _)) Tryz.underlying181 rfl xS) rfl
  ⟨JI,rfl,rfl,Nd,by kernel_rfl,below_setRow ((aav _ _).alloc (aah _) _) (aah _) _⟩
theorem Ng (s:ByteArray)(R:Nat)(st:Rf.St)(w:World)(hr:Rd w R s st.pos)(hs:s.size<=5000000)(hp:st.pos<=8*s.size)(hb:st.bad=false)(Q:List Int×Rf.St)(hQ:Q=Rf.ik (lw s) ((Rf.take (lw s) st 4).1.toNat+4) 0 (List.replicate 19 0) (Rf.take (lw s) st 4).2): Calls Tryz.prog 113 #[.pointer (some ⟨R,0,none⟩)] w fun e w' =>
   (∃M sh lo,Q.2.bad=false/\Rf.full Q.1=true/\e=.returned (Ck M sh lo)/\j0 w' M sh lo Q.1/\Rd w' R s Q.2.pos/\w.heap.size<=M/\Kp (·=R) w w') \/
   ((Q.2.bad=true\/Rf.full Q.1=false)/\e=dies 6/\Kp (·=R) w w'):=by
 obtain⟨Z,hZ⟩:∃Z:List Value,Z=List.replicate 19 (.int .i64 0):=⟨_,rfl⟩
 have hmk:∀u:World,(Instr.makeSlice 22 (.int .i64 19) (.int .i64 19)).run Tryz.prog u=.ok (.slice (some ⟨u.heap.size,0,none⟩) 19 19) (u.alloc (.cells Z.toArray 3)):=fun u=>mI 19 (by omega) Z hZ u;have HZ:Hid (Z=vals (List.replicate 19 0)):=by show _=_;rw[hZ,bJ]
 have tj:=aaa hr;clear hZ
 go_enter Tryz.func113,Tryz.ntmps113
 go_wp2_with fail;refine (sG _).mono ?_;rintro e w1 ⟨O,rfl,IV,hO2,hO3,b1⟩;simp only[aas]at b1;have hsz1:=b1.size;simp only[aas]at hsz1;have JJ:(Tryz.prog.info? 181).map (·.size)=some O.size:=by rw[IV];exact xS
 go_wp2_with (refine wpList_store_row rfl 181 _ _ rfl w1.heap.size O rfl (by rfl) 181 gx (ah w1 _) JJ IV.symm hO3 ?_);have hOb:(((w1.alloc (.cells gx 181)).setRow w1.heap.size O).alloc (.cells Z.toArray 3)).heap[w1.heap.size]?=some (.cells O 181 (0,0)):=ak (setRow_heap _ w1.heap.size _ _ 181 _ (ah w1 _)) _;have hsr:((w1.alloc (.cells gx 181)).setRow w1.heap.size O).heap.size=w1.heap.size+1:=by simp[World.setRow]
 have ZG:aQ (((w1.alloc (.cells gx 181)).setRow w1.heap.size O).alloc (.cells Z.toArray 3)) (w1.heap.size+1) (List.replicate 19 0):=by
  have h9:=ah ((w1.alloc (.cells gx 181)).setRow w1.heap.size O) (.cells Z.toArray 3);rw[hsr]at h9;rw[HZ.out]at h9 ⊢;exact h9
 have hall:∀k,k<w1.heap.size->(((w1.alloc (.cells gx 181)).setRow w1.heap.size O).alloc (.cells Z.toArray 3)).heap[k]?=w1.heap[k]?:=fun k hk =>
  (abI _ _ _ (by rw[hsr];omega)).trans ((setRow_other _ w1.heap.size k O (by omega)).trans (abI w1 _ k hk))
 have hRb:=(hall w.heap.size (by omega)).trans ((b1.block _ (by omega)).trans (ah w (.cells #[.map none,.int .u16 0,.int .u16 0] 121)))
 have hk2:Kp (·=R) w (((w1.alloc (.cells gx 181)).setRow w1.heap.size O).alloc (.cells Z.toArray 3)) :=
  ⟨b1.os,b1.tape,b1.output,by simp[World.setRow];omega,fun k hk _=>(hall k (by omega)).trans ((b1.block k (by omega)).trans (abI w _ k hk))⟩
 have hr2:Rd (((w1.alloc (.cells gx 181)).setRow w1.heap.size O).alloc (.cells Z.toArray 3)) R s st.pos:=(hall R (by omega)).trans ((b1.block R (by omega)).trans (ak hr _));have hB:w.heap.size+1<=w1.heap.size:=hsz1;generalize ((w1.alloc (.cells gx 181)).setRow w1.heap.size O).alloc (.cells Z.toArray 3)=W2 at *;generalize w1.heap.size=B at *;clear b1 hsr hall hmk HZ JJ IV hO3 hsz1;refine (dQ 4 s R st _ hr2 hs hp hb (by omega)).mono ?_;have g1:=Rf.take_range (cQ s) st 4;have p1:=Rf.cO (lw s) st 4 (by rw[aw];exact hp);have hbd:=Rf.eH (lw s) st 4;generalize Rf.take (lw s) st 4=A at *;obtain⟨a,st1⟩:=A;simp only at *;rw[aw]at p1;rintro e w3 (⟨q1,rfl,r3,k3⟩|⟨q1,rfl,k3⟩)
 case inr =>
  go_wp2
  have hbad:Q.2.bad=true:=by
   rw[hQ];cases a.toNat+4 with
   | zero=>exact q1
   | succ n=>rw[Rf.ik,aaj q1];exact q1
  exact⟨rfl,.inr ⟨.inl hbad,rfl,hk2.trans k3⟩⟩
 case inl =>
 obtain⟨k,rfl⟩:∃k:Nat,a=(k:Int):=⟨a.toNat,by omega⟩
 have afm:k<=15:=by have:=g1.2;omega
 have HQ:Hid (Q=Rf.ik (lw s) (k+4) 0 (List.replicate 19 0) st1):=by show _=_;rw[hQ];rfl
 have Vi:=(k3.block B (aaa hOb) (by omega)).trans hOb;have Vj:aQ w3 (B+1) (List.replicate 19 0):=(k3.block (B+1) (aaa ZG) (by omega)).trans ZG;have Vk:=(k3.block w.heap.size (aaa hRb) (by omega)).trans hRb;have hk3:=hk2.trans k3;clear k3 hk2 hOb ZG hRb hr2 hQ g1 hbd;go_wp2
 go_loopw [13] (fun v wr=>∃(i:Nat) (ls:List Int) (st':Rf.St),i<=k+4/\v=.int .i64 i/\ls.length=19/\Hid (Q=Rf.ik (lw s) (k+4-i) i ls st')/\Hid (Rf.dP ls 7)/\Rd wr R s st'.pos/\Hid (st'.bad=false)/\st'.pos<=8*s.size /\
   aQ wr (B+1) ls/\wr.heap[B]?=some (.cells O 181 (0,0))/\wr.heap[w.heap.size]?=some (.cells #[.map none,.int .u16 0,.int .u16 0] 121 (0,0))/\Kp (·=R) w wr) (fun v _=>k+4-(intOf v).toNat)
 case atStart=>exact⟨0,List.replicate 19 0,st1,aaq _,rfl,by simp,HQ,Rf.qg 19 7 (by omega),r3,q1,p1,Vj,Vi,Vk,hk3⟩
 case round =>
  clear HQ r3 q1 p1 Vj Vi Vk hk3;obtain⟨i,ls,st',hi,rfl,Nh,HQ,HW,r4,zI,p4,hG,hOb,hRb,hk4⟩:=hrel;by_cases hlt:i<k+4
  ·obtain⟨p,hpp⟩:∃p:Nat,p=Rf.order.getD i 0:=⟨_,rfl⟩
   have afn:p<19:=by rw[hpp];exact Rf.py i
   have co:wr.cell? ⟨B,i,none⟩=some (.int .i64 (p:Int)):=(aat _ _ _ _ _ _ hOb).trans ((hO2 i (by omega)).trans (by rw[hpp]));obtain⟨x0,cg⟩:∃x0,wr.cell? ⟨B+1,p,none⟩=some (.int .i64 x0):=⟨_,hG.cell p (by omega)⟩
   have cA:=fun W h=>dQ 3 s R st' W h hs p4 zI.out (by omega);have g2:=Rf.take_range (cQ s) st' 3;have p5:=Rf.cO (lw s) st' 3 (by rw[aw];exact p4);rw[aw]at p5;have PJ:Hid (Q=Rf.ik (lw s) (k+4-(i+1)) (i+1) (ls.set p (Rf.take (lw s) st' 3).1) (Rf.take (lw s) st' 3).2):=by show _=_;rw[HQ.out,show k+4-i=(k+4-(i+1))+1 by omega,Rf.ik,aai (by rw[zI.out];decide),hpp]
   generalize Rf.take (lw s) st' 3=A at *;obtain⟨x,st2⟩:=A;simp only at cA g2 p5 PJ;have JK:=aaa hOb;have ZH:=aaa hG;have j1:(i:Int)<19:=by omega
   have j2:(p:Int)<19:=by omega
   clear hpp;go_wp2;have hS:wr.drew.cell? ⟨B,i,none⟩=some (.int .i64 (p:Int)):=co;refine ax (fun w'=>w'.cell? ⟨B,i,none⟩=some (.int .i64 (p:Int))) 99 ?_;refine aB 0 (v:=?_) ?_ hS ?_;rotate_left
   ·intro w hSw;(try dsimp only at hSw);go_simp;try with_reducible rfl
   try simp only[Act.put]
   refine aB 1 (v:=?_) ?_ hS ?_;rotate_left
   ·intro w hSw;(try dsimp only at hSw);go_simp;try with_reducible rfl
   try simp only[Act.put]
   refine aB 2 (v:=?_) ?_ hS ?_;rotate_left
   ·intro w hSw;(try dsimp only at hSw);go_simp;try with_reducible rfl
   try simp only[Act.put]
   refine aB 3 (v:=?_) ?_ hS ?_;rotate_left
   ·intro w hSw;(try dsimp only at hSw);go_simp;try with_reducible rfl
   try simp only[Act.put]
   refine aB 4 (v:=?_) ?_ hS ?_;rotate_left
   ·intro w hSw;(try dsimp only at hSw);go_simp;try with_reducible rfl
   try simp only[Act.put]
   refine ag 5 fun K hK=>?_;go_simp;refine (cA wr.drew r4).mono ?_;rintro e w5 (⟨q2,rfl,r5,k5⟩|⟨q2,rfl,k5⟩)
   case inr =>
    have hbad:Q.2.bad=true:=by
     rw[PJ.out];cases k+4-(i+1) with
     | zero=>exact q2
     | succ n=>rw[Rf.ik,aaj q2];exact q2
    exact⟨rfl,.inr ⟨.inl hbad,rfl,hk4.drew.trans k5⟩⟩
   case inl =>
   have Ni:w5.heap[B]?=some (.cells O 181 (0,0)):=(k5.block B JK (by omega)).trans hOb;have YG:aQ w5 (B+1) ls:=(k5.block (B+1) ZH (by omega)).trans hG;have Rj:w5.heap[w.heap.size]?=some (.cells #[.map none,.int .u16 0,.int .u16 0] 121 (0,0)):=(k5.block w.heap.size (aaa hRb) (by omega)).trans hRb;have hk5:=hk4.drew.trans k5;have hS5:w5.cell? ⟨B,i,none⟩=some (.int .i64 (p:Int)):=(k5.cell (p:=⟨B,i,none⟩) JK (show ¬B=R by omega)).trans co;obtain⟨x1,cg5⟩:∃x0,w5.cell? ⟨B+1,p,none⟩=some (.int .i64 x0):=⟨_,YG.cell p (by omega)⟩
   have fg5:w5.frozen? ⟨B+1,p,none⟩=false:=aaI w5 _ _ _ _ YG;have HW2:Hid (Rf.dP (ls.set p x) 7):=Rf.Cc HW.out p x ⟨g2.1,by omega⟩;clear hk4 k5 hOb hG hRb r4 HQ zI cg co cA;refine hK _ _ (fun _=>hS5) ?_;clear hK K;refine ag 6 fun K hK=>?_;go_simp;refine hK _ _ (fun _=>hS5) ?_;clear hK K;refine ag 7 fun K hK=>?_;go_simp;have kS:Kp (·=B+1) w5 (w5.setCell ⟨B+1,p,none⟩ (.int .i64 x)):=(Kp.refl (·=B+1) w5).setCell (p:=⟨B+1,p,none⟩) (.inl rfl) _;refine hK _ _ (fun _=>(kS.cell (p:=⟨B,i,none⟩) (aaa Ni) (show ¬B=B+1 by omega)).trans hS5) ?_;clear hK K;refine am ?_
   have R6:aQ (w5.setCell ⟨B+1,p,none⟩ (.int .i64 x)) (B+1) (ls.set p x)/\(w5.setCell ⟨B+1,p,none⟩ (.int .i64 x)).heap[B]?=some (.cells O 181 (0,0))/\(w5.setCell ⟨B+1,p,none⟩ (.int .i64 x)).heap[w.heap.size]?=some (.cells #[.map none,.int .u16 0,.int .u16 0] 121 (0,0)) /\
     Kp (·=R) w (w5.setCell ⟨B+1,p,none⟩ (.int .i64 x))/\Rd (w5.setCell ⟨B+1,p,none⟩ (.int .i64 x)) R s st2.pos :=
    ⟨YG.set p x,(kS.block B (aaa Ni) (by omega)).trans Ni,(kS.block _ (aaa Rj) (by omega)).trans Rj,hk5.setCell (p:=⟨B+1,p,none⟩) (.inr (by show w.heap.size<=B+1;omega)) _,r5.kept kS (by omega)⟩
   clear kS hk5 Ni YG Rj r5 cg5 fg5 hS hS5;go_wp2
   go_roundw
   case rel=>exact⟨i+1,ls.set p x,st2,by omega,by go_num,by simp[Nh],PJ,HW2,R6.2.2.2.2,q2,p5,R6.1,R6.2.1,R6.2.2.1,R6.2.2.2.1⟩
   case measure=>simp[intOf];omega
  ·have hik:i=k+4:=by omega
   subst hik;have HE:Hid (Q=(ls,st')):=by show _=_;rw[HQ.out,Nat.sub_self];rfl
   have hint:=hG.ints;have Pw:∀j,ls.getD j 0<=15:=fun j=>by have:=(HW.out j).2;omega
   obtain⟨t0,t1,t2,tz,ZI⟩:=dR hRb;go_wp2_with fail;refine (Co (some ⟨B+1,0,none⟩) 19 ls 19 _ Nh (by omega) hint Pw).mono ?_;rintro e w5 ⟨rfl,rfl⟩;cases hfl:Rf.full ls
   ·go_wp2;exact⟨rfl,.inr ⟨.inr (by rw[HE.out];exact hfl),rfl,hk4⟩⟩
   ·have hfs:Rf.fs ls ls.length<=32768:=by have h9:decide (Rf.fs ls ls.length=32768)=true:=hfl;have:=of_decide_eq_true h9;omega
    go_wp2_with fail;refine (je (some ⟨B+1,0,none⟩) 19 ls 19 _ Nh (by omega) hint (fun a e _=>by cases e;exact aaa hG) Pw hfs).mono ?_;rintro e w6 ⟨M,sh,lo,rfl,T6,hM,b6⟩;have ZJ:=(b6.block _ ZI).trans hRb;obtain⟨u0,u1,u2,uz,ult⟩:=dR ZJ;have Yz:Kp (·=R) w w6:=hk4.trans ⟨b6.os,b6.tape,b6.output,b6.size,fun k hk _=>b6.block k hk⟩;have r6:Rd w6 R s st'.pos:=(b6.block R (aaa r4)).trans r4;have ZK:Hid (j0 w6 M sh lo ls/\w.heap.size+1<=M):=⟨T6,by omega⟩
    clear b6 T6 hRb hk4 t0 t1 t2 tz r4 hint hG hOb;go_wp2
    have ZL:∀u v x:Value,Kp (·=w.heap.size) w6 (((w6.setCell ⟨w.heap.size,0,none⟩ u).setCell ⟨w.heap.size,1,none⟩ v).setCell ⟨w.heap.size,2,none⟩ x):=fun u v x =>
     (((Kp.refl (·=w.heap.size) w6).setCell (p:=⟨w.heap.size,0,none⟩) (.inl rfl) u).setCell (p:=⟨w.heap.size,1,none⟩) (.inl rfl) v).setCell (p:=⟨w.heap.size,2,none⟩) (.inl rfl) x
    exact aaF (v:=Ck M sh lo) (by simp[results,Tryz.results113,go_sem,u0,u1,u2]) rfl
     (.inl ⟨M,sh,lo,by rw[HE.out];exact zI.out,by rw[HE.out];exact hfl,rfl,by rw[HE.out];exact ZK.out.1.kept (ZL _ _ _) (by have:=ZK.out.2;omega),by rw[HE.out];exact r6.kept (ZL _ _ _) (by omega),by have:=ZK.out.2;omega,Yz.then (ZL _ _ _) (fun i h e=>by omega)⟩)
structure Sl (w wr:World) (s:ByteArray) (R pos M sh lo:Nat) (ls:List Int):Prop where
 kp:Kp (·=R) w wr
 bx:wr.heap[w.heap.size]?=some (.cells #[.map (some M),.int .u16 sh,.int .u16 lo] 121 (0,0))
 tb:j0 wr M sh lo ls
 rd:Rd wr R s pos
theorem Sl.read {w wr w':World}{s:ByteArray}{R pos q M sh lo:Nat}{ls:List Int}(h:Sl w wr s R pos M sh lo ls)(hR:R<w.heap.size)(hM:M≠R)(k:Kp (·=R) wr w')(r:Rd w' R s q):Sl w w' s R q M sh lo ls :=
 ⟨h.kp.trans k,(k.block _ (aaa h.bx) (by omega)).trans h.bx,h.tb.kept k hM,r⟩
theorem Sl.drew {w wr:World}{s:ByteArray}{R pos M sh lo:Nat}{ls:List Int}(h:Sl w wr s R pos M sh lo ls):Sl w wr.drew s R pos M sh lo ls:=⟨h.kp.drew,h.bx,h.tb,h.rd⟩
theorem Sl.grow {w wr w':World}{s:ByteArray}{R pos M sh lo:Nat}{ls:List Int}{v:Value}{n:Nat}{xs:List Value}(h:Sl w wr s R pos M sh lo ls)(hR:R<w.heap.size)(hM:M<w.heap.size)(o:Obj)(hown:wr.ownsRow (w.heap.size+1) 3 1 v n xs)(hg:(wr.alloc o).grownBy w' v.ownBlock):Sl w w' s R pos M sh lo ls:=by
 have hsz:=h.kp.size;have hb:∀k,k<=w.heap.size->k<wr.heap.size->w'.heap[k]?=wr.heap[k]?:=fun k hk h2=>(hg.block k (by simp;omega) (fun e=>by have:=(hown.lt k e.symm).1;omega)).trans (abI wr o k h2);refine⟨(h.kp.alloc o).grown hg (fun k e=>.inr (by have:=(hown.lt k e).1;omega)),(hb _ (aah _) (aaa h.bx)).trans h.bx,h.tb.of (hb M (by omega) h.tb.lt),(hb R (by omega) (aaa h.rd)).trans h.rd⟩
theorem pF (L ls cd:List Int)(n f:Nat)(out:List Int)(st:Rf.St)(h:n<=out.length):Rf.mr L ls cd n f out st=(out,st):=by
 cases f with
 | zero=>rfl
 | succ f=>rw[Rf.mr,aaj (.inl h)]
theorem CC {L ls:List Int}{n:Nat}{st:Rf.St}{RES:List Int×Rf.St}(h:Rf.listed L ls n st=if RES.1.length=n then RES else (RES.1,{ RES.2 with bad:=true }))(hb:RES.2.bad=true\/RES.1.length≠n):(Rf.listed L ls n st).2.bad=true:=by
 rw[h];split
 ·rcases hb with hb|hb
  ·exact hb
  ·rename_i e;exact absurd e hb
 ·rfl
theorem tm {L ls:List Int}{n:Nat}{st:Rf.St}(h:(Rf.listed L ls n st).2.bad=false):(Rf.listed L ls n st).1.length=n:=by
 have e:Rf.listed L ls n st=if (Rf.mr L ls (Rf.codes ls) n (n+1) [] st).1.length=n then Rf.mr L ls (Rf.codes ls) n (n+1) [] st else ((Rf.mr L ls (Rf.codes ls) n (n+1) [] st).1,{ (Rf.mr L ls (Rf.codes ls) n (n+1) [] st).2 with bad:=true }):=rfl
 by_cases hl:(Rf.mr L ls (Rf.codes ls) n (n+1) [] st).1.length=n
 ·rw[e,aaj hl];exact hl
 ·rw[e,aai hl]at h;cases h
theorem zP (n:Nat)(hn:n<=320)(Z:List Value)(hZ:Z=List.replicate n (.int .i64 0))(u:World): (Instr.makeSlice 22 (.int .i64 0) (.int .i64 (n:Int))).run Tryz.prog u=.ok (.slice (some ⟨u.heap.size,0,none⟩) 0 n) (u.alloc (.cells Z.toArray 3)):=by
 obtain⟨i0,hi,hz0,hz1,hz2⟩:=abu Tryz.info3;have h:=run_make (P:=Tryz.prog) u 22 3 i0 (.int .i64 0) Tryz.underlying22 hi hz0 .i64 .i64 0 (n:Int) (by omega) (by omega) (by rw[hz2];omega) (by omega);have e2:(madeCells #[Value.int .i64 0] n)=Z.toArray:=by rw[hZ,<-toList_madeCells_one]
 simpa[hz1,Value.cells,e2]using h
theorem Rk (N:Nat)(s:ByteArray)(R M sh lo:Nat)(ls:List Int)(st:Rf.St)(w:World)(hr:Rd w R s st.pos)(hT:j0 w M sh lo ls)(hMR:M≠R)(Nh:ls.length=19)(hN:N<=320)(hs:s.size<=5000000)(hp:st.pos<=8*s.size)(hb:st.bad=false): Calls Tryz.prog 112 #[.pointer (some ⟨R,0,none⟩),Ck M sh lo,.int .i64 N] w fun e w' =>
   ((Rf.listed (lw s) ls N st).2.bad=false/\(∃v,e=.returned v/\w'.ownsRow (w.heap.size+1) 3 1 v N (vals (Rf.listed (lw s) ls N st).1))/\Rd w' R s (Rf.listed (lw s) ls N st).2.pos/\Kp (·=R) w w') \/
   ((Rf.listed (lw s) ls N st).2.bad=true/\e=dies 6/\Kp (·=R) w w'):=by
 obtain⟨i0,hi,hz0,hz1,hz2⟩:=abu Tryz.info3;obtain⟨Z,hZ⟩:∃Z:List Value,Z=List.replicate N (.int .i64 0):=⟨_,rfl⟩
 have hmk:=zP N hN Z hZ;have hZs:Z.toArray.size=N*1:=by rw[hZ];simp
 have tj:=aaa hr;have vw:=hT.lt;obtain⟨RES,rS⟩:∃RES,RES=Rf.mr (lw s) ls (Rf.codes ls) N (N+1) [] st:=⟨_,rfl⟩
 obtain⟨LI,ZM⟩:∃LI,LI=Rf.listed (lw s) ls N st:=⟨_,rfl⟩
 have hlen:=@tm (lw s) ls N st;have JL:=fun hh=>@CC (lw s) ls N st RES (by rw[rS];rfl) hh;have hgood:RES.2.bad=false->RES.1.length=N->LI=RES:=fun _ h2=>by rw[ZM];show (if (Rf.mr (lw s) ls (Rf.codes ls) N (N+1) [] st).1.length=N then _ else _)=_;rw[<-rS,aaj h2]
 rw[<-ZM]at JL ⊢;have PK:Hid (RES.2.bad=true\/RES.1.length≠N->LI.2.bad=true):=JL;have HGD:Hid (RES.2.bad=false->RES.1.length=N->LI=RES):=hgood
 have S0:Sl w ((w.alloc (.cells #[.map (some M),.int .u16 sh,.int .u16 lo] 121)).alloc (.cells Z.toArray 3)) s R st.pos M sh lo ls :=
  ⟨((Kp.refl _ w).alloc _).alloc _,ak (ah w _) _,hT.kept (((Kp.refl (fun _=>False) w).alloc _).alloc _) id,ak (ak hr _) _⟩
 have O0:((w.alloc (.cells #[.map (some M),.int .u16 sh,.int .u16 lo] 121)).alloc (.cells Z.toArray 3)).ownsRow (w.heap.size+1) 3 1 (.slice (some ⟨w.heap.size+1,0,none⟩) 0 N) 0 (vals []):=by
  have h9:=World.ownsRow_made (base:=w.heap.size+1) (e:=3) (size:=1) (w.alloc (.cells #[.map (some M),.int .u16 sh,.int .u16 lo] 121)) Z.toArray N (by simp) (by unfold maxLen;omega) hZs;rw[aas]at h9;exact h9
 have CD:Hid (RES=Rf.mr (lw s) ls (Rf.codes ls) N (N+1) [] st):=rS;clear rS ZM hlen JL hgood hZ hZs hr hT;obtain⟨cd,hcd⟩:∃cd,cd=Rf.codes ls:=⟨_,rfl⟩
 rw[<-hcd]at CD;have ZN:Hid (cd=Rf.codes ls):=hcd;clear hcd
 go_enter Tryz.func112,Tryz.ntmps112
 go_wp2
 go_loopw [7] (fun v wr=>∃(f:Nat) (out:List Int) (st':Rf.St),wr.ownsRow (w.heap.size+1) 3 1 v out.length (vals out)/\out.length<=N/\Sl w wr s R st'.pos M sh lo ls/\Hid (st'.bad=false)/\st'.pos<=8*s.size/\Hid (RES=Rf.mr (lw s) ls cd N f out st')/\N+1<=f+out.length) (fun v _=>N-Jd v)
 case atStart=>exact⟨N+1,[],st,O0,aaq _,S0,hb,hp,CD,by simp⟩
 case round =>
  clear O0 S0 CD hmk hb;obtain⟨f,out,st',hown,hol,S1,zI,hp1,HF,hfu⟩:=hrel;by_cases hdone:out.length=N
  ·have HE:Hid (LI=(out,st')):=by
    have e:RES=(out,st'):=by rw[HF.out];exact pF _ _ _ _ _ _ _ (by omega)
    show _=_;rw[HGD.out (by rw[e];exact zI.out) (by rw[e];exact hdone),e]
   obtain⟨oa,oc,rfl⟩:=aS hown;have hge:¬((out.length:Int)<(N:Int)):=by omega
   have afr:(N:Int)<=(out.length:Int):=by omega
   have HO:Hid (wr.ownsRow (w.heap.size+1) 3 1 (.slice oa out.length oc) N (vals out)):=by
    have h9:=hown;rw[hdone]at h9 ⊢;exact h9
   clear hdone hown;go_wp2
   go_ret
   exact .inl ⟨by rw[HE.out];exact zI.out,⟨_,rfl,by rw[HE.out];exact HO.out⟩,by rw[HE.out];exact S1.rd,S1.kp⟩
  ·have hlt:out.length<N:=by omega
   have hlt':(out.length:Int)<(N:Int):=by omega
   obtain⟨f,rfl⟩:∃g,f=g+1:=⟨f-1,by omega⟩
   have qc:Hid (RES=_):=HF.out.trans (by rw[Rf.mr,aai (by rw[zI.out];simp;omega)]);obtain⟨oa,oc,rfl⟩:=aS hown;obtain⟨t0,t1,t2,tz,ZI⟩:=dR S1.bx;have hsr:=Rf.gj (lw s) ls cd st';have hsl:(Rf.symbol (lw s) ls cd st').2.pos<=(lw s).length:=Rf.px (lw s) ls cd 15 0 0 st' (by rw[aw];exact hp1);rw[aw]at hsl
   have hrd:Calls Tryz.prog 108 #[Ck M sh lo,.pointer (some ⟨R,0,none⟩)] wr fun e w' =>
    ((Rf.symbol (lw s) ls cd st').2.bad=false/\e=.returned (.int .i64 (Rf.symbol (lw s) ls cd st').1)/\Rd w' R s (Rf.symbol (lw s) ls cd st').2.pos/\Kp (·=R) wr w') \/
    ((Rf.symbol (lw s) ls cd st').2.bad=true/\e=dies 6/\Kp (·=R) wr w'):=by rw[ZN.out];exact Cn M sh lo ls s R st' wr S1.tb S1.rd hMR hs hp1 zI.out
   generalize Rf.symbol (lw s) ls cd st'=SY at *;obtain⟨x,st2⟩:=SY;simp only at hsr hsl hrd qc;clear HF;go_wp2_with fail;refine hrd.mono ?_;rintro e w2 (⟨q1,rfl,r2,k2⟩|⟨q1,rfl,k2⟩)
   case inr =>
    go_wp2;exact⟨rfl,.inr ⟨PK.out (.inl (by rw[qc.out,aaj q1];exact q1)),rfl,S1.kp.trans k2⟩⟩
   case inl =>
   rw[aai (by rw[q1];decide)]at qc;have S2:=S1.read tj hMR k2 r2;have O2:w2.ownsRow (w.heap.size+1) 3 1 (.slice oa out.length oc) out.length (vals out):=sD hown (fun g hg=>k2.block g (hown.lt g hg).2 (fun e=>by have:=(hown.lt g hg).1;omega));have hx0:=hsr.1;have afs:x<19:=by have:=hsr.2 q1;omega
   have xT:Hid (st2.bad=false):=q1;clear hrd hsr S1 hown k2 r2 t0 t1 t2 tz ZI q1 zI hp1;by_cases h16:x<16
   ·rw[aaj h16]at qc;have HX:Hid (RES=Rf.mr (lw s) ls cd N f (out++List.replicate 1 x) st2):=qc.out;have Rl:=xT;have hp3:=hsl;have S3:=S2;have O3:=O2;have n16:¬x=16:=by omega
    have n17:¬x=17:=by omega
    have n18:¬x=18:=by omega
    have b16:(x==16)=false:=by simp;omega
    have b17:(x==17)=false:=by simp;omega
    have b18:(x==18)=false:=by simp;omega
    clear S2 O2 qc;by_cases hov:1<=N-out.length
    ·have Gc:¬((N:Int)-(out.length:Int)<(1:Int)):=by omega
     have Rm:(1:Int)<=(N:Int)-(out.length:Int):=by omega
     have hd:decide ((N:Int)-(out.length:Int)<(1:Int))=false:=by simp;omega
     go_wp2
     go_loopw [7,55] (fun v i wr=>∃j:Nat,j<=1/\i=.int .i64 j/\wr.ownsRow (w.heap.size+1) 3 1 v (out.length+j) (vals (out++List.replicate j x))/\Sl w wr s R st2.pos M sh lo ls) (fun _ i _=>1-(intOf i).toNat)
     case atStart=>exact⟨0,aaq _,rfl,by simpa using O3,S3⟩
     case round =>
      clear S3 O3;obtain⟨j,hj,rfl,hown,S4⟩:=hrel;by_cases hjt:j<1
      ·have Rn:(j:Int)<(1:Int):=by omega
       go_wp2_with (at_builtin;refine wpList_append_own _ rfl _ _ 22 rfl (w.heap.size+1) 3 i0 (.int .i64 0) 1 8 Tryz.underlying22 hi hz0 hz1 hz2 rfl (by decide) _ _ _ rfl (hown.alloc _) ⟨wr.heap.size,0,none⟩ 1 1 [.int .i64 x] rfl rfl (cell_one_new _ _ _) (by intro u hu;simp at hu;subst hu;rfl) (by unfold maxLen;omega) (by omega) (by have:=S4.kp.size;have:=aaa S4.bx;simp;omega) ?_;intro v' w5 hown' hgrow _)
       have R5:w5.ownsRow (w.heap.size+1) 3 1 v' (out.length+(j+1)) (vals (out++List.replicate (j+1) x))/\Sl w w5 s R st2.pos M sh lo ls:=by
        refine⟨?_,S4.grow tj vw _ hown hgrow⟩;rw[nL];exact hown'
       clear hown' hgrow hown S4;go_wp2
       go_roundw
       case rel=>exact⟨j+1,by omega,by go_num,R5.1,R5.2⟩
       case measure=>simp[intOf];omega
      ·have CF:j=1:=by omega
       subst CF;have hjn:¬(((1:Nat):Int)<(1:Int)):=by omega
       obtain⟨PO,PP,rfl⟩:=aS hown
       have O5:Hid (wr.ownsRow (w.heap.size+1) 3 1 (.slice PO (out.length+(1)) PP) (out++List.replicate (1) x).length (vals (out++List.replicate (1) x))):=by
        show wr.ownsRow _ _ _ _ _ _;rw[aac,aaE];exact hown
       clear hown;go_wp2
       go_roundw
       case rel=>exact⟨f,out++List.replicate (1) x,st2,O5.out,by rw[aac,aaE];omega,S4,Rl,hp3,HX,by rw[aac,aaE];omega⟩
       case measure=>simp[Jd]<;>omega
    ·exact absurd (show 1<=N-out.length by omega) hov
   ·rw[aai h16]at qc;by_cases e16:x=16
    ·rw[aaj e16]at qc;subst e16;by_cases hnil:out=[]
     ·rw[aaj hnil]at qc;have hn0:out.length=0:=by rw[hnil];rfl
      have hn1:(out.length:Int)=0:=by omega
      go_wp2;exact⟨rfl,.inr ⟨PK.out (.inl (by rw[qc.out])),rfl,S2.kp⟩⟩
     ·rw[aai hnil]at qc;have hpos:0<out.length:=List.length_pos_iff.2 hnil;have hn1:¬(out.length:Int)=0:=by omega
      have bn:((out.length:Int)==0)=false:=by simp;exact hnil
      obtain⟨g,ol,hv,hgb⟩:=zC O2 hpos;cases hv;obtain⟨y,hy⟩:∃y:Int,y=out.getD (out.length-1) 0:=⟨_,rfl⟩
      obtain⟨q,hq⟩:∃q:Nat,q=out.length-1:=⟨_,rfl⟩
      have hcell:w2.cell? ⟨g,q,none⟩=some (.int .i64 y):=(O2.cellAt q (by omega)).trans (by rw[hy,hq];simp[vals,List.getD,List.getElem?_eq_getElem (show out.length-1<out.length by omega)]);rw[<-hy]at qc;have cA:=fun W h=>dQ 2 s R st2 W h hs hsl xT.out (by omega);have g2:=Rf.take_range (cQ s) st2 2;have p2:=Rf.cO (lw s) st2 2 (by rw[aw];exact hsl);rw[aw]at p2;generalize Rf.take (lw s) st2 2=A at *;obtain⟨t,dI⟩:=A;simp only at cA g2 p2 qc;obtain⟨t,rfl⟩:∃u:Nat,t=(u:Int):=⟨t.toNat,by omega⟩
      have ht:t<4:=by have:=g2.2;omega
      have HX:Hid (RES=Rf.mr (lw s) ls cd N f (out++List.replicate (3+t) y) dI):=by show _=_;rw[qc.out];rfl
      have j1:(0:Int)<=(out.length:Int)-1:=by omega
      have j2:(out.length:Int)-1<(out.length:Int):=by omega
      have ZA:IntKind.i64.wrap ((out.length:Int)-1)=(q:Int):=by rw[aao _ (by omega)];omega
      have j4:(q:Int)<(out.length:Int):=by omega
      have wr3:IntKind.i64.wrap (3+(t:Int))=3+(t:Int):=aao _ (by omega);have ZO:=(O2.lt g rfl).2;have hgR:g≠R:=by omega
      clear qc g2 hy hq;go_wp2;have hS:w2.drew.cell? ⟨g,q,none⟩=some (.int .i64 y):=hcell;refine ax (fun w'=>w'.cell? ⟨g,q,none⟩=some (.int .i64 y)) 99 ?_;refine aB 0 (v:=?_) ?_ hS ?_;rotate_left
      ·intro w hSw;(try dsimp only at hSw);go_simp;try with_reducible rfl
      try simp only[Act.put]
      refine aB 1 (v:=?_) ?_ hS ?_;rotate_left
      ·intro w hSw;(try dsimp only at hSw);go_simp;try with_reducible rfl
      try simp only[Act.put]
      refine aB 2 (v:=?_) ?_ hS ?_;rotate_left
      ·intro w hSw;(try dsimp only at hSw);go_simp;try with_reducible rfl
      try simp only[Act.put]
      refine aB 3 (v:=?_) ?_ hS ?_;rotate_left
      ·intro w hSw;(try dsimp only at hSw);go_simp;try with_reducible rfl
      try simp only[Act.put]
      refine aB 4 (v:=?_) ?_ hS ?_;rotate_left
      ·intro w hSw;(try dsimp only at hSw);go_simp;try with_reducible rfl
      try simp only[Act.put]
      refine aB 5 (v:=?_) ?_ hS ?_;rotate_left
      ·intro w hSw;(try dsimp only at hSw);go_simp;try with_reducible rfl
      try simp only[Act.put]
      refine aB 6 (v:=?_) ?_ hS ?_;rotate_left
      ·intro w hSw;(try dsimp only at hSw);go_simp;try with_reducible rfl
      try simp only[Act.put]
      refine ag 7 fun K hK=>?_;go_simp;refine (cA w2.drew S2.rd).mono ?_;rintro e w3 (⟨q2,rfl,r3,k3⟩|⟨q2,rfl,k3⟩)
      case inr =>
       have e:RES.2.bad=true:=by
        rw[HX.out];cases f with
        | zero=>exact q2
        | succ f=>rw[Rf.mr,aaj (.inr q2)];exact q2
       exact⟨rfl,.inr ⟨PK.out (.inl e),rfl,S2.kp.drew.trans k3⟩⟩
      case inl =>
      have iG:w3.cell? ⟨g,q,none⟩=some (.int .i64 y):=(k3.cell (p:=⟨g,q,none⟩) ZO hgR).trans hcell;have S3:=S2.drew.read tj hMR k3 r3;have O3:w3.ownsRow (w.heap.size+1) 3 1 (.slice (some ⟨g,0,none⟩) out.length oc) out.length (vals out):=sD O2 (fun g' hg=>k3.block g' (O2.lt g' hg).2 (fun e=>by have:=(O2.lt g' hg).1;omega));have Rl:Hid (dI.bad=false):=q2;have hp3:=p2;refine hK _ _ (fun _=>iG) ?_;clear hK K;refine aB 8 (v:=?_) ?_ iG ?_;rotate_left
      ·intro w hSw;(try dsimp only at hSw);go_simp;try with_reducible rfl
      try simp only[Act.put]
      refine ag 9 fun K hK=>?_;go_simp;refine hK _ _ (fun _=>iG) ?_;clear hK K;refine ag 10 fun K hK=>?_;go_simp;refine hK _ _ (fun _=>iG) ?_;clear hK K;refine am ?_;clear S2 O2 k3 r3 cA q2 p2 hS iG hcell ZA j1 j2 j4;by_cases hov:3+t<=N-out.length
      ·have Gc:¬((N:Int)-(out.length:Int)<(3+(t:Int))):=by omega
       have Rm:(3+(t:Int))<=(N:Int)-(out.length:Int):=by omega
       have hd:decide ((N:Int)-(out.length:Int)<(3+(t:Int)))=false:=by simp;omega
       go_wp2
       go_loopw [7,55] (fun v i wr=>∃j:Nat,j<=3+t/\i=.int .i64 j/\wr.ownsRow (w.heap.size+1) 3 1 v (out.length+j) (vals (out++List.replicate j y))/\Sl w wr s R dI.pos M sh lo ls) (fun _ i _=>3+t-(intOf i).toNat)
       case atStart=>exact⟨0,aaq _,rfl,by simpa using O3,S3⟩
       case round =>
        clear S3 O3;obtain⟨j,hj,rfl,hown,S4⟩:=hrel;by_cases hjt:j<3+t
        ·have Rn:(j:Int)<(3+(t:Int)):=by omega
         go_wp2_with (at_builtin;refine wpList_append_own _ rfl _ _ 22 rfl (w.heap.size+1) 3 i0 (.int .i64 0) 1 8 Tryz.underlying22 hi hz0 hz1 hz2 rfl (by decide) _ _ _ rfl (hown.alloc _) ⟨wr.heap.size,0,none⟩ 1 1 [.int .i64 y] rfl rfl (cell_one_new _ _ _) (by intro u hu;simp at hu;subst hu;rfl) (by unfold maxLen;omega) (by omega) (by have:=S4.kp.size;have:=aaa S4.bx;simp;omega) ?_;intro v' w5 hown' hgrow _)
         have R5:w5.ownsRow (w.heap.size+1) 3 1 v' (out.length+(j+1)) (vals (out++List.replicate (j+1) y))/\Sl w w5 s R dI.pos M sh lo ls:=by
          refine⟨?_,S4.grow tj vw _ hown hgrow⟩;rw[nL];exact hown'
         clear hown' hgrow hown S4;go_wp2
         go_roundw
         case rel=>exact⟨j+1,by omega,by go_num,R5.1,R5.2⟩
         case measure=>simp[intOf];omega
        ·have CF:j=3+t:=by omega
         subst CF;have hjn:¬(((3+t:Nat):Int)<(3+(t:Int))):=by omega
         obtain⟨PO,PP,rfl⟩:=aS hown
         have O5:Hid (wr.ownsRow (w.heap.size+1) 3 1 (.slice PO (out.length+(3+t)) PP) (out++List.replicate (3+t) y).length (vals (out++List.replicate (3+t) y))):=by
          show wr.ownsRow _ _ _ _ _ _;rw[aac,aaE];exact hown
         clear hown;go_wp2
         go_roundw
         case rel=>exact⟨f,out++List.replicate (3+t) y,dI,O5.out,by rw[aac,aaE];omega,S4,Rl,hp3,HX,by rw[aac,aaE];omega⟩
         case measure=>simp[Jd]<;>omega
      ·have Gc:(N:Int)-(out.length:Int)<(3+(t:Int)):=by omega
       go_wp2;have e:RES=(out++List.replicate (3+t) y,dI):=by rw[HX.out];exact pF _ _ _ _ _ _ _ (by rw[aac,aaE];omega)
       exact⟨rfl,.inr ⟨PK.out (.inr (by rw[e];simp;omega)),rfl,S3.kp⟩⟩
    ·rw[aai e16]at qc;by_cases e17:x=17
     ·rw[aaj e17]at qc;subst e17;have cA:=dQ 3 s R st2 w2 S2.rd hs hsl xT.out (by omega);have g2:=Rf.take_range (cQ s) st2 3;have p2:=Rf.cO (lw s) st2 3 (by rw[aw];exact hsl);rw[aw]at p2;generalize Rf.take (lw s) st2 3=A at *;obtain⟨t,dI⟩:=A;simp only at cA g2 p2 qc;obtain⟨t,rfl⟩:∃u:Nat,t=(u:Int):=⟨t.toNat,by omega⟩
      have ht:t<8:=by have:=g2.2;omega
      have HX:Hid (RES=Rf.mr (lw s) ls cd N f (out++List.replicate (3+t) 0) dI):=by show _=_;rw[qc.out];rfl
      clear qc g2;go_wp2_with fail;refine cA.mono ?_;rintro e w3 (⟨q2,rfl,r3,k3⟩|⟨q2,rfl,k3⟩)
      case inr =>
       go_wp2
       have e:RES.2.bad=true:=by
        rw[HX.out];cases f with
        | zero=>exact q2
        | succ f=>rw[Rf.mr,aaj (.inr q2)];exact q2
       exact⟨rfl,.inr ⟨PK.out (.inl e),rfl,S2.kp.trans k3⟩⟩
      case inl =>
      have S3:=S2.read tj hMR k3 r3;have O3:w3.ownsRow (w.heap.size+1) 3 1 (.slice oa out.length oc) out.length (vals out):=sD O2 (fun g hg=>k3.block g (O2.lt g hg).2 (fun e=>by have:=(O2.lt g hg).1;omega));have Rl:Hid (dI.bad=false):=q2;have hp3:=p2;clear S2 O2 k3 r3 cA q2 p2;by_cases hov:3+t<=N-out.length
      ·have Gc:¬((N:Int)-(out.length:Int)<(3+(t:Int))):=by omega
       have Rm:(3+(t:Int))<=(N:Int)-(out.length:Int):=by omega
       have hd:decide ((N:Int)-(out.length:Int)<(3+(t:Int)))=false:=by simp;omega
       go_wp2
       go_loopw [7,55] (fun v i wr=>∃j:Nat,j<=3+t/\i=.int .i64 j/\wr.ownsRow (w.heap.size+1) 3 1 v (out.length+j) (vals (out++List.replicate j 0))/\Sl w wr s R dI.pos M sh lo ls) (fun _ i _=>3+t-(intOf i).toNat)
       case atStart=>exact⟨0,aaq _,rfl,by simpa using O3,S3⟩
       case round =>
        clear S3 O3;obtain⟨j,hj,rfl,hown,S4⟩:=hrel;by_cases hjt:j<3+t
        ·have Rn:(j:Int)<(3+(t:Int)):=by omega
         go_wp2_with (at_builtin;refine wpList_append_own _ rfl _ _ 22 rfl (w.heap.size+1) 3 i0 (.int .i64 0) 1 8 Tryz.underlying22 hi hz0 hz1 hz2 rfl (by decide) _ _ _ rfl (hown.alloc _) ⟨wr.heap.size,0,none⟩ 1 1 [.int .i64 0] rfl rfl (cell_one_new _ _ _) (by intro u hu;simp at hu;subst hu;rfl) (by unfold maxLen;omega) (by omega) (by have:=S4.kp.size;have:=aaa S4.bx;simp;omega) ?_;intro v' w5 hown' hgrow _)
         have R5:w5.ownsRow (w.heap.size+1) 3 1 v' (out.length+(j+1)) (vals (out++List.replicate (j+1) 0))/\Sl w w5 s R dI.pos M sh lo ls:=by
          refine⟨?_,S4.grow tj vw _ hown hgrow⟩;rw[nL];exact hown'
         clear hown' hgrow hown S4;go_wp2
         go_roundw
         case rel=>exact⟨j+1,by omega,by go_num,R5.1,R5.2⟩
         case measure=>simp[intOf];omega
        ·have CF:j=3+t:=by omega
         subst CF;have hjn:¬(((3+t:Nat):Int)<(3+(t:Int))):=by omega
         obtain⟨PO,PP,rfl⟩:=aS hown
         have O5:Hid (wr.ownsRow (w.heap.size+1) 3 1 (.slice PO (out.length+(3+t)) PP) (out++List.replicate (3+t) 0).length (vals (out++List.replicate (3+t) 0))):=by
          show wr.ownsRow _ _ _ _ _ _;rw[aac,aaE];exact hown
         clear hown;go_wp2
         go_roundw
         case rel=>exact⟨f,out++List.replicate (3+t) 0,dI,O5.out,by rw[aac,aaE];omega,S4,Rl,hp3,HX,by rw[aac,aaE];omega⟩
         case measure=>simp[Jd]<;>omega
      ·have Gc:(N:Int)-(out.length:Int)<(3+(t:Int)):=by omega
       go_wp2;have e:RES=(out++List.replicate (3+t) 0,dI):=by rw[HX.out];exact pF _ _ _ _ _ _ _ (by rw[aac,aaE];omega)
       exact⟨rfl,.inr ⟨PK.out (.inr (by rw[e];simp;omega)),rfl,S3.kp⟩⟩
     ·rw[aai e17]at qc;have e18:x=18:=by omega
      subst e18;have cA:=dQ 7 s R st2 w2 S2.rd hs hsl xT.out (by omega);have g2:=Rf.take_range (cQ s) st2 7;have p2:=Rf.cO (lw s) st2 7 (by rw[aw];exact hsl);rw[aw]at p2;generalize Rf.take (lw s) st2 7=A at *;obtain⟨t,dI⟩:=A;simp only at cA g2 p2 qc;obtain⟨t,rfl⟩:∃u:Nat,t=(u:Int):=⟨t.toNat,by omega⟩
      have ht:t<128:=by have:=g2.2;omega
      have HX:Hid (RES=Rf.mr (lw s) ls cd N f (out++List.replicate (11+t) 0) dI):=by show _=_;rw[qc.out];rfl
      clear qc g2;go_wp2_with fail;refine cA.mono ?_;rintro e w3 (⟨q2,rfl,r3,k3⟩|⟨q2,rfl,k3⟩)
      case inr =>
       go_wp2
       have e:RES.2.bad=true:=by
        rw[HX.out];cases f with
        | zero=>exact q2
        | succ f=>rw[Rf.mr,aaj (.inr q2)];exact q2
       exact⟨rfl,.inr ⟨PK.out (.inl e),rfl,S2.kp.trans k3⟩⟩
      case inl =>
      have S3:=S2.read tj hMR k3 r3;have O3:w3.ownsRow (w.heap.size+1) 3 1 (.slice oa out.length oc) out.length (vals out):=sD O2 (fun g hg=>k3.block g (O2.lt g hg).2 (fun e=>by have:=(O2.lt g hg).1;omega));have Rl:Hid (dI.bad=false):=q2;have hp3:=p2;clear S2 O2 k3 r3 cA q2 p2;by_cases hov:11+t<=N-out.length
      ·have Gc:¬((N:Int)-(out.length:Int)<(11+(t:Int))):=by omega
       have Rm:(11+(t:Int))<=(N:Int)-(out.length:Int):=by omega
       have hd:decide ((N:Int)-(out.length:Int)<(11+(t:Int)))=false:=by simp;omega
       go_wp2
       go_loopw [7,55] (fun v i wr=>∃j:Nat,j<=11+t/\i=.int .i64 j/\wr.ownsRow (w.heap.size+1) 3 1 v (out.length+j) (vals (out++List.replicate j 0))/\Sl w wr s R dI.pos M sh lo ls) (fun _ i _=>11+t-(intOf i).toNat)
       case atStart=>exact⟨0,aaq _,rfl,by simpa using O3,S3⟩
       case round =>
        clear S3 O3;obtain⟨j,hj,rfl,hown,S4⟩:=hrel;by_cases hjt:j<11+t
        ·have Rn:(j:Int)<(11+(t:Int)):=by omega
         go_wp2_with (at_builtin;refine wpList_append_own _ rfl _ _ 22 rfl (w.heap.size+1) 3 i0 (.int .i64 0) 1 8 Tryz.underlying22 hi hz0 hz1 hz2 rfl (by decide) _ _ _ rfl (hown.alloc _) ⟨wr.heap.size,0,none⟩ 1 1 [.int .i64 0] rfl rfl (cell_one_new _ _ _) (by intro u hu;simp at hu;subst hu;rfl) (by unfold maxLen;omega) (by omega) (by have:=S4.kp.size;have:=aaa S4.bx;simp;omega) ?_;intro v' w5 hown' hgrow _)
         have R5:w5.ownsRow (w.heap.size+1) 3 1 v' (out.length+(j+1)) (vals (out++List.replicate (j+1) 0))/\Sl w w5 s R dI.pos M sh lo ls:=by
          refine⟨?_,S4.grow tj vw _ hown hgrow⟩;rw[nL];exact hown'
         clear hown' hgrow hown S4;go_wp2
         go_roundw
         case rel=>exact⟨j+1,by omega,by go_num,R5.1,R5.2⟩
         case measure=>simp[intOf];omega
        ·have CF:j=11+t:=by omega
         subst CF;have hjn:¬(((11+t:Nat):Int)<(11+(t:Int))):=by omega
         obtain⟨PO,PP,rfl⟩:=aS hown
         have O5:Hid (wr.ownsRow (w.heap.size+1) 3 1 (.slice PO (out.length+(11+t)) PP) (out++List.replicate (11+t) 0).length (vals (out++List.replicate (11+t) 0))):=by
          show wr.ownsRow _ _ _ _ _ _;rw[aac,aaE];exact hown
         clear hown;go_wp2
         go_roundw
         case rel=>exact⟨f,out++List.replicate (11+t) 0,dI,O5.out,by rw[aac,aaE];omega,S4,Rl,hp3,HX,by rw[aac,aaE];omega⟩
         case measure=>simp[Jd]<;>omega
      ·have Gc:(N:Int)-(out.length:Int)<(11+(t:Int)):=by omega
       go_wp2;have e:RES=(out++List.replicate (11+t) 0,dI):=by rw[HX.out];exact pF _ _ _ _ _ _ _ (by rw[aac,aaE];omega)
       exact⟨rfl,.inr ⟨PK.out (.inr (by rw[e];simp;omega)),rfl,S3.kp⟩⟩
end Go.Proofs.YtmfijackgekioabGreatDoor
