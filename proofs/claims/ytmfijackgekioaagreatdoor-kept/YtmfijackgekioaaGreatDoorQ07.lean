import Derived.Test.YtmfijackgekioaaGreatDoorQ06
import Derived.Laws.Tables
import Derived.Laws.Rows
set_option maxHeartbeats 16000000
set_option maxRecDepth 100000
namespace Go.Proofs.YtmfijackgekioaaGreatDoor
open Go.RowKit Go.Maps
def Alike (s:ByteArray)(jq far:List Int):Prop:=∀st:Rf.St,st.bad=false->st.pos<=8*s.size ->
 ((Rf.symbol (lw s) jq (Rf.codes jq) st).2.bad=false->Rf.symbol (lw s) jq (Rf.codes jq) st=Rf.symbol (lw s) far (Rf.codes far) st/\(Rf.symbol (lw s) far (Rf.codes far) st).1<=29) /\
 ((Rf.symbol (lw s) jq (Rf.codes jq) st).2.bad=true->(Rf.symbol (lw s) far (Rf.codes far) st).2.bad=true\/29<(Rf.symbol (lw s) far (Rf.codes far) st).1)
theorem BQ (s:ByteArray)(far:List Int)(h:far.length<=30):Alike s far far:=fun st _ _ =>
 ⟨fun hb=>⟨rfl,by have:=(Rf.fY (lw s) far (Rf.codes far) st).2 hb;omega⟩,fun hb=>.inl hb⟩
theorem Fu (L:List Int)(limit:Int)(i:Nat)(far vy:List Int)(st st1 st2 du:Rf.St)(N D:Nat)(j:Int)(h1:Rf.lenOf L i st=(N,st1))(h2:Rf.symbol L far vy st1=(j,st2))(h3:Rf.bO L j.toNat st2=(D,du)): Rf.copied L limit i far vy st=if st1.bad=true then st1 else if st2.bad=true\/29<j then { st2 with bad:=true } else if du.bad=true\/du.out.length<D then { du with bad:=true } else if (Rf.room limit du N).1=true then { (Rf.room limit du N).2 with out:=Rf.yR D N (Rf.room limit du N).2.out } else (Rf.room limit du N).2:=by
 unfold Rf.copied;rw[h1];simp only;rw[h2];simp only;rw[h3]
theorem fG (L:List Int)(limit:Int)(ls cd far vy:List Int)(f:Nat)(st:Rf.St)(h:(st.bad||st.full)=true):Rf.dW L limit ls cd far vy f st=st:=by
 cases f with
 | zero=>rfl
 | succ f=>rw[Rf.dW,if_pos h]
theorem BR (L:List Int)(limit:Int)(ls cd far vy:List Int)(f:Nat)(st st1:Rf.St)(x:Int)(hb:st.bad=false)(hf:st.full=false)(h1:Rf.symbol L ls cd st=(x,st1)): Rf.dW L limit ls cd far vy (f+1) st=if st1.bad=true\/x=256 then st1 else if x<256 then Rf.dW L limit ls cd far vy f (if (Rf.room limit st1 1).1=true then { (Rf.room limit st1 1).2 with out:=(Rf.room limit st1 1).2.out++[UInt8.ofNat x.toNat] } else (Rf.room limit st1 1).2) else if 285<x then Rf.dW L limit ls cd far vy f { st1 with bad:=true } else Rf.dW L limit ls cd far vy f (Rf.copied L limit (x-257).toNat far vy st1):=by
 rw[Rf.dW,if_neg (by rw[hb,hf];decide),h1]
theorem BS (s:ByteArray)(j:Int)(h0:0<=j)(h1:j<=29)(st:Rf.St)(hp:st.pos<=8*s.size):1<=(Rf.bO (lw s) j.toNat st).1/\(Rf.bO (lw s) j.toNat st).1<=65536:=by
 rw[qk (lw s) j h0 st (by rw[au];exact hp)];have h:=zg j h0 h1;have ht:=Rf.take_range (cC s) st (de j);have hpw:=nD (de j) (by omega);simp only;omega
def posR (R:Nat)(w:World):Nat:=match w.cell? ⟨R,1,none⟩ with|some (.int _ n)=>n.toNat|_=>0
theorem Rd.posR {w:World}{R:Nat}{s:ByteArray}{p:Nat}(h:Rd w R s p):Go.Proofs.YtmfijackgekioaaGreatDoor.posR R w=p:=by unfold Go.Proofs.YtmfijackgekioaaGreatDoor.posR;rw[h.cells.2.1];simp
structure Sd (w:World) (R b:Nat) (M1 s1 l1 M2 s2 l2:Nat) (ls jq:List Int):Prop where
 t1:jT w M1 s1 l1 ls
 t2:jT w M2 s2 l2 jq
 m1:R+5<M1
 m2:R+5<M2
 hb:R+5<b
 bx:w.heap[b]?=some (.cells (Mw M1 s1 l1 M2 s2 l2) 166 (0,0))
 sx:w.heap[b+1]?=some (.cells (dx R) 154 (0,0))
theorem jT.pm {w:World}{M sh lo:Nat}{ls:List Int}(h:jT w M sh lo ls)(c:Array Value)(fr:Nat×Nat):w.heap[M]?≠some (.cells c 5 fr):=by
 obtain⟨q,D,⟨es,clock,hb,_⟩,_⟩:=h;rw[hb];simp
theorem jT.of {w w':World}{M sh lo:Nat}{ls:List Int}(h:jT w M sh lo ls)(e:w'.heap[M]?=w.heap[M]?):jT w' M sh lo ls:=by
 obtain⟨q,D,⟨es,clock,hb,r⟩,h3⟩:=h;exact⟨q,D,⟨es,clock,e.trans hb,r⟩,h3⟩
theorem Sd.kept {w w':World}{R b M1 s1 l1 M2 s2 l2:Nat}{ls jq:List Int}(h:Sd w R b M1 s1 l1 M2 s2 l2 ls jq)(F:jH R w w'):Sd w' R b M1 s1 l1 M2 s2 l2 ls jq:=by
 have m1:=h.m1;have m2:=h.m2;have hb:=h.hb
 exact⟨h.t1.of (F.other _ h.t1.lt (by omega) (by omega) h.t1.pm),h.t2.of (F.other _ h.t2.lt (by omega) (by omega) h.t2.pm),h.m1,h.m2,h.hb,
  (F.other _ (lt_of_block h.bx) (by omega) (by omega) (fun c fr=>by rw[h.bx];simp)).trans h.bx,(F.other _ (lt_of_block h.sx) (by omega) (by omega) (fun c fr=>by rw[h.sx];simp)).trans h.sx⟩
theorem Sd.read {w w':World}{R b M1 s1 l1 M2 s2 l2:Nat}{ls jq:List Int}(h:Sd w R b M1 s1 l1 M2 s2 l2 ls jq)(k:Kp (·=R) w w'):Sd w' R b M1 s1 l1 M2 s2 l2 ls jq :=
 h.kept (jH.jo (by have:=lt_of_block h.bx;have:=h.hb;omega) k)
theorem Ja (s:ByteArray)(R:Nat)(limit:Int)(M1 s1 l1 M2 s2 l2:Nat)(ls jq far:List Int)(st:Rf.St)(ov:Value)(w:World)(h:Pg w s R limit st ov)(hT1:jT w M1 s1 l1 ls)(Ig:jT w M2 s2 l2 jq)(m1:R+5<M1)(m2:R+5<M2)(hal:Alike s jq far)(hout:Hid (st.out.length<=258*st.pos)): Calls Tryz.prog 121 #[.pointer (some ⟨R,0,none⟩),I5 M1 s1 l1 M2 s2 l2,I8 R] w fun e w'=>Ends s R limit w (Rf.symbols (lw s) limit ls far st) e w':=by
 have hs:=h.hs;have hlt:=h.lt;obtain⟨F,hF⟩:∃F,F=Rf.symbols (lw s) limit ls far st:=⟨_,rfl⟩
 rw[<-hF];have HF:Hid (F=Rf.dW (lw s) limit ls (Rf.codes ls) far (Rf.codes far) (8*s.size+2) st):=by show _=_;rw[hF,Rf.symbols,au]
 have P0:=(h.alloc (.cells (Mw M1 s1 l1 M2 s2 l2) 166)).alloc (.cells (dx R) 154);have F0:=((jH.refl R w).alloc (by omega) (.cells (Mw M1 s1 l1 M2 s2 l2) 166)).alloc (by simp;omega) (.cells (dx R) 154);have hk0:Kp (fun _=>False) w ((w.alloc (.cells (Mw M1 s1 l1 M2 s2 l2) 166)).alloc (.cells (dx R) 154)):=((Kp.refl _ w).alloc _).alloc _
 have S0:Sd ((w.alloc (.cells (Mw M1 s1 l1 M2 s2 l2) 166)).alloc (.cells (dx R) 154)) R w.heap.size M1 s1 l1 M2 s2 l2 ls jq :=
  ⟨hT1.kept hk0 id,Ig.kept hk0 id,m1,m2,hlt,am (ah w _) _,by have h9:=ah (w.alloc (.cells (Mw M1 s1 l1 M2 s2 l2) 166)) (.cells (dx R) 154);rw[World.size_alloc]at h9;exact h9⟩
 clear hk0 hF hT1 Ig
 go_enter Tryz.func121,Tryz.ntmps121
 go_wp2
 go_loopw [9] (fun _ wr=>∃(f:Nat) (st':Rf.St) (xt:Value),Pg wr s R limit st' xt/\jH R w wr/\Sd wr R w.heap.size M1 s1 l1 M2 s2 l2 ls jq/\Hid (F=Rf.dW (lw s) limit ls (Rf.codes ls) far (Rf.codes far) f st')/\8*s.size+2<=f+st'.pos/\Hid (st'.out.length<=258*st'.pos)) (fun _ wr=>8*s.size-posR R wr)
 case atStart=>exact⟨8*s.size+2,st,ov,P0,F0,S0,HF,by omega,hout⟩
 case round =>
  clear P0 F0 S0 HF h hout;obtain⟨f,st',xt,h,F1,S1,HF,hfu,HO⟩:=hrel;have hp:=h.hp;obtain⟨f,rfl⟩:∃g,f=g+1:=⟨f-1,by omega⟩
  have hst:=BR (lw s) limit ls (Rf.codes ls) far (Rf.codes far) f st';have hrg:=Rf.fY (lw s) ls (Rf.codes ls) st';have ho1:=Rf.fF (lw s) ls (Rf.codes ls) st';have hmp:=Rf.sL (lw s) ls (Rf.codes ls) st';have hpl:=Rf.o7 (lw s) ls (Rf.codes ls) 15 0 0 st' (by rw[au];exact hp);have hrd:=BH M1 s1 l1 ls s R st' wr S1.t1 h.rd (by omega) hs hp h.nb;have Jb:(Rf.symbol (lw s) ls (Rf.codes ls) st').2.pos<=(lw s).length:=hpl;clear hpl;generalize hX:Rf.symbol (lw s) ls (Rf.codes ls) st'=X at *;obtain⟨x,st1⟩:=X;simp only at hst hrg ho1 hmp Jb hrd;have HST:=hst st1 x h.nb h.nf rfl;rw[<-HF.out]at HST;have HS:Hid (F=_):=HST;rw[au]at Jb;obtain⟨d0,d1,d2,d3,d4,d5,dz,UL⟩:=ox S1.bx;obtain⟨e0,e1,e2,ez,Za⟩:=dG S1.sx;have vH:=hidden h.rd.posR;clear hst HST hX;go_wp2_with fail;refine hrd.mono ?_;rintro e w2 (⟨q1,rfl,r2,k2⟩|⟨q1,rfl,k2⟩)
  case inr =>
   go_wp2;have HE:F=st1:=by rw[HS.out,if_pos (.inl q1)]
   exact⟨rfl,fk (by rw[HE];exact q1) (by rw[HE];exact ho1.2.2.trans h.nf) (F1.below.trans (k2.below (by have:=h.lt;omega) (fun k _ h=>by omega)))⟩
  case inl =>
  have h2:Pg w2 s R limit st1 xt:=h.read k2 r2 Jb ho1.1 q1 (ho1.2.2.trans h.nf);have F2:=F1.trans (jH.jo (by have:=h.lt;omega) k2);have S2:=S1.read k2;have hx0:=hrg.1;have aeU:=hmp q1;have Zb:Hid (st1.out.length+258<=258*st1.pos):=by have:=HO.out;show _<=_;rw[ho1.1];omega
  obtain⟨Ye,Yf,e2',ez',UM⟩:=dG S2.sx;clear k2 r2 h F1 S1 HO HF hrd hmp hrg ho1 d0 d1 d2 d3 d4 d5 dz UL e0 e1 e2 ez Za;by_cases hx256:x=256
  ·have HE:Hid (F=st1):=by show _=_;rw[HS.out,if_pos (.inr hx256)]
   subst hx256;go_wp2
   go_end0
   exact .inl ⟨by rw[HE.out];exact q1,by rw[HE.out];exact h2.nf,rfl,⟨xt,by rw[HE.out];exact h2⟩,F2⟩
  ·rw[if_neg (by rw[q1];simp;exact hx256)]at HS;by_cases hxl:x<256
   ·rw[if_pos hxl]at HS;obtain⟨y,hy⟩:∃y:UInt8,y=UInt8.ofNat x.toNat:=⟨_,rfl⟩
    have hyx:(y.toNat:Int)=x:=by rw[hy];simp;omega
    rw[<-hy]at HS;have wu:IntKind.u8.wrap x=(y.toNat:Int):=by rw[IntKind.wrap_u8,hyx];omega
    have O9:Hid (st1.out.length<=11000000000):=by have:=Zb.out;show _<=_;omega
    have Pa:Hid (F=_):=HS.out;clear hy hyx HS;go_wp2_with fail;refine (OZ y s R limit st1 xt _ h2 O9).mono ?_;rintro e w3 (⟨q3,rfl,⟨ov3,h3⟩,F3⟩|⟨q3,rfl,F3⟩)
    case inr =>
     go_wp2;have HE:F={ st1 with full:=true }:=by rw[Pa.out,q3];simp only[Bool.false_eq_true,if_false];exact fG _ _ _ _ _ _ _ _ (by simp)
     exact⟨rfl,.inr ⟨by rw[HE];simp,by rw[HE];rfl,F2.below.trans F3⟩⟩
    case inl =>
    have HS2:Hid (F=Rf.dW (lw s) limit ls (Rf.codes ls) far (Rf.codes far) f { st1 with out:=st1.out++[y] }):=by show _=_;rw[Pa.out,q3];rfl
    have S3:=S2.kept F3;have F4:=F2.trans F3;clear q3 Pa h2 F2 S2 F3 Ye Yf e2' ez' UM wu;go_wp2
    go_roundw
    case rel=>exact⟨f,_,ov3,h3,F4,S3,HS2,by show _<=f+st1.pos;omega,by show _<=_;rw[List.length_append];have:=Zb.out;simp;omega⟩
    case measure=>rw[h3.rd.posR,vH.out];show 8*s.size-st1.pos<_;omega
   ·rw[if_neg hxl]at HS;by_cases hxg:285<x
    ·rw[if_pos hxg]at HS;have HE:Hid (F={ st1 with bad:=true }):=by show _=_;rw[HS.out];exact fG _ _ _ _ _ _ _ _ (by simp)
     go_wp2;exact⟨rfl,fk (by rw[HE.out]) (by rw[HE.out];exact h2.nf) F2.below⟩
    ·rw[if_neg hxg]at HS;have Pb:257<=x:=by omega
     have UN:x<=285:=by omega
     have hLo:=Rf.yT (cC s) (x-257).toNat (by omega) st1
     have TH:(Rf.lenOf (lw s) (x-257).toNat st1).2.pos<=8*s.size/\(Rf.lenOf (lw s) (x-257).toNat st1).2.full=st1.full:=by
      rw[zh (lw s) x Pb UN st1 (by rw[au];exact Jb)];have h9:=Rf.cy (lw s) st1 (vF x) (by rw[au];exact Jb);rw[au]at h9;exact⟨h9,(Rf.aX (lw s) st1 (vF x)).2.2⟩
     have hwl:=Qz x s R st1 w2 Pb UN h2.rd hs h2.hp q1;have hco:=Fu (lw s) limit (x-257).toNat far (Rf.codes far) st1;generalize Rf.lenOf (lw s) (x-257).toNat st1=LN at *;obtain⟨N,st2⟩:=LN;simp only at hLo TH hwl hco;have hc2:=hco st2 (Rf.symbol (lw s) far (Rf.codes far) st2).2 (Rf.bO (lw s) (Rf.symbol (lw s) far (Rf.codes far) st2).1.toNat (Rf.symbol (lw s) far (Rf.codes far) st2).2).2 N (Rf.bO (lw s) (Rf.symbol (lw s) far (Rf.codes far) st2).1.toNat (Rf.symbol (lw s) far (Rf.codes far) st2).2).1 (Rf.symbol (lw s) far (Rf.codes far) st2).1 rfl rfl rfl;clear hco;have QH:=hal st2;have hsr:=Rf.fY (lw s) far (Rf.codes far) st2;have hso:=Rf.fF (lw s) far (Rf.codes far) st2;have hsm:=Rf.jt (lw s) far (Rf.codes far) st2;have hsl:(Rf.symbol (lw s) far (Rf.codes far) st2).2.pos<=(lw s).length:=Rf.o7 (lw s) far (Rf.codes far) 15 0 0 st2 (by rw[au];exact TH.1);rw[au]at hsl;generalize Rf.symbol (lw s) far (Rf.codes far) st2=SY at *;obtain⟨j,du⟩:=SY;simp only at QH hsr hso hsm hsl hc2;have HC:Hid (Rf.copied (lw s) limit (x-257).toNat far (Rf.codes far) st1=_):=hc2;clear hc2;go_wp2_with fail;refine hwl.mono ?_;rintro e w3 (⟨a1,rfl,r3,k3⟩|⟨a1,rfl,k3⟩)
     case inr =>
      go_wp2;have HE:F=st2:=by rw[HS.out,HC.out,if_pos a1];exact fG _ _ _ _ _ _ _ _ (by rw[a1];rfl)
      exact⟨rfl,fk (by rw[HE];exact a1) (by rw[HE];exact TH.2.trans h2.nf) (F2.below.trans (k3.below (by have:=h2.lt;omega) (fun k _ h=>by omega)))⟩
     case inl =>
     rw[if_neg (by rw[a1];decide)]at HC;have h3:Pg w3 s R limit st2 xt:=h2.read k3 r3 TH.1 hLo.2.2 a1 (TH.2.trans h2.nf);have F3:=F2.trans (jH.jo (by have:=h2.lt;omega) k3);have S3:=S2.read k3;have QI:=BH M2 s2 l2 jq s R st2 w3 S3.t2 h3.rd (by omega) hs h3.hp a1;have MI:=QH a1 h3.hp;obtain⟨d0,d1,d2,d3,d4,d5,dz,UL⟩:=ox S3.bx;have HHL:Hid (N<=258/\st1.pos<=st2.pos/\st2.out=st1.out):=hLo;clear k3 r3 h2 F2 S2 QH hwl hLo TH Ye Yf e2' ez' UM;generalize Rf.symbol (lw s) jq (Rf.codes jq) st2=SP at *;obtain⟨jp,Ut⟩:=SP;simp only at QI MI;go_wp2_with fail;refine QI.mono ?_;rintro e w4 (⟨b1,rfl,r4,k4⟩|⟨b1,rfl,k4⟩)
     case inr =>
      go_wp2;have h9:=MI.2 b1;have HE:F={ du with bad:=true }:=by rw[HS.out,HC.out,if_pos h9];exact fG _ _ _ _ _ _ _ _ (by simp)
      exact⟨rfl,fk (by rw[HE]) (by rw[HE];exact hso.2.2.trans h3.nf) (F3.below.trans (k4.below (by have:=h3.lt;omega) (fun k _ h=>by omega)))⟩
     case inl =>
     obtain⟨Jc,QJ⟩:=MI.1 b1;cases Jc;have h4:Pg w4 s R limit du xt:=h3.read k4 r4 hsl hso.1 b1 (hso.2.2.trans h3.nf);have F4:=F3.trans (jH.jo (by have:=h3.lt;omega) k4);have S4:=S3.read k4;rw[if_neg (by rw[b1];simp;exact QJ)]at HC;have hj0:=hsr.1;have Zc:=BS s j hj0 QJ du hsl;have hDl:=Rf.vA (lw s) j.toNat du
     have UO:(Rf.bO (lw s) j.toNat du).2.pos<=8*s.size/\(Rf.bO (lw s) j.toNat du).2.full=du.full:=by
      rw[qk (lw s) j hj0 du (by rw[au];exact hsl)];have h9:=Rf.cy (lw s) du (de j) (by rw[au];exact hsl);rw[au]at h9;exact⟨h9,(Rf.aX (lw s) du (de j)).2.2⟩
     have hwd:=Ms j s R du w4 hj0 QJ h4.rd hs h4.hp b1;have HSO:Hid (du.out=st2.out/\st2.pos<=du.pos):=⟨hso.1,hsm⟩
     generalize Rf.bO (lw s) j.toNat du=DD at *;obtain⟨D,BT⟩:=DD;simp only at Zc hDl UO hwd HC;clear k4 r4 h3 F3 S3 MI QI hso hsm hsr d0 d1 d2 d3 d4 d5 dz UL;go_wp2_with fail;refine hwd.mono ?_;rintro e w5 (⟨c1,rfl,r5,k5⟩|⟨c1,rfl,k5⟩)
     case inr =>
      go_wp2;have HE:F={ BT with bad:=true }:=by rw[HS.out,HC.out,if_pos (.inl c1)];exact fG _ _ _ _ _ _ _ _ (by simp)
      exact⟨rfl,fk (by rw[HE]) (by rw[HE];exact UO.2.trans h4.nf) (F4.below.trans (k5.below (by have:=h4.lt;omega) (fun k _ h=>by omega)))⟩
     case inl =>
     have h5:Pg w5 s R limit BT xt:=h4.read k5 r5 UO.1 hDl.2 c1 (UO.2.trans h4.nf);have F5:=F4.trans (jH.jo (by have:=h4.lt;omega) k5);have S5:=S4.read k5
     have Yg:Hid (BT.out.length+258<=258*BT.pos/\st1.pos<=BT.pos):=by
      have a:=Zb.out;have b:=HHL.out;have c:=HSO.out;have d:=hDl;show _/\_;rw[d.2,c.1,b.2.2];omega
     have O9:Hid (BT.out.length<=11000000000):=by have:=Yg.out.1;have:=UO.1;show _<=_;omega
     have hN:=HHL.out.1;obtain⟨e0,e1,e2,ez,Za⟩:=dG S5.sx;clear k5 r5 h4 F4 S4 hwd hDl;go_wp2_with fail;refine (ME N D s R limit BT xt _ h5 O9 hN Zc.1 Zc.2).mono ?_;rintro e w6 (⟨g1,g2,rfl,⟨UQ,h6⟩,F6⟩|⟨g1,g2,rfl,F6⟩|⟨g1,rfl,F6⟩)
     ·have HS2:Hid (F=Rf.dW (lw s) limit ls (Rf.codes ls) far (Rf.codes far) f { BT with out:=Rf.yR D N BT.out }):=by
       show _=_;rw[HS.out,HC.out,if_neg (by rw[c1];simp;omega),g2];rfl
      have S6:=S5.kept F6;have F7:=F5.trans F6;clear g2 HC HS h5 F5 S5 F6 e0 e1 e2 ez Za;go_wp2
      go_roundw
      case rel=>exact⟨f,_,UQ,h6,F7,S6,HS2,by show _<=f+BT.pos;have:=Yg.out.2;omega,by show (Rf.yR D N BT.out).length<=258*BT.pos;rw[Rf.ol];have:=Yg.out.1;omega⟩
      case measure=>rw[h6.rd.posR,vH.out];show 8*s.size-BT.pos<_;have:=Yg.out.2;omega
     ·go_wp2;have HE:F={ BT with full:=true }:=by rw[HS.out,HC.out,if_neg (by rw[c1];simp;omega),g2];simp only[Bool.false_eq_true,if_false];exact fG _ _ _ _ _ _ _ _ (by simp)
      exact⟨rfl,.inr ⟨by rw[HE];simp,by rw[HE];rfl,F5.below.trans F6⟩⟩
     ·go_wp2;have HE:F={ BT with bad:=true }:=by rw[HS.out,HC.out,if_pos (.inr g1)];exact fG _ _ _ _ _ _ _ _ (by simp)
      exact⟨rfl,fk (by rw[HE]) (by rw[HE];exact h5.nf) (F5.below.trans F6)⟩
abbrev Jd:Array Value:=#[.int .i64 16,.int .i64 17,.int .i64 18,.int .i64 0,.int .i64 8,.int .i64 7,.int .i64 9,.int .i64 6,.int .i64 10,.int .i64 5,.int .i64 11,.int .i64 4,.int .i64 12,.int .i64 3,.int .i64 13,.int .i64 2,.int .i64 14,.int .i64 1,.int .i64 15]
theorem MJ (i:Nat)(h:i<19):Jd[i]?=some (.int .i64 ((Rf.order.getD i 0:Nat):Int)):=by
 match i,h with
 | 0,_=>rfl|1,_=>rfl|2,_=>rfl|3,_=>rfl|4,_=>rfl|5,_=>rfl|6,_=>rfl|7,_=>rfl|8,_=>rfl|9,_=>rfl|10,_=>rfl|11,_=>rfl|12,_=>rfl|13,_=>rfl|14,_=>rfl|15,_=>rfl|16,_=>rfl|17,_=>rfl|18,_=>rfl
 | n+19,h=>omega
abbrev gh:Array Value:=#[.int .i64 0,.int .i64 0,.int .i64 0,.int .i64 0,.int .i64 0,.int .i64 0,.int .i64 0,.int .i64 0,.int .i64 0,.int .i64 0,.int .i64 0,.int .i64 0,.int .i64 0,.int .i64 0,.int .i64 0,.int .i64 0,.int .i64 0,.int .i64 0,.int .i64 0]
theorem xv:(Tryz.prog.info? 233).map (·.size)=some 19:=by kernel_rfl
theorem sj (w:World):Calls Tryz.prog 198 #[] w fun e w'=>∃O:Array Value,e=.returned (.agg O)/\O.size=19/\(∀i,i<19->O[i]?=some (.int .i64 ((Rf.order.getD i 0:Nat):Int)))/\O.all (·.oneCell')=true/\Below w.heap.size w w':=by
 go_enter Tryz.func198,Tryz.ntmps198
 go_wp2_with (first|(refine wpList_build rfl 233 _ rfl (by kernel_rfl) ?_)|(refine wpList_store_row rfl 233 _ _ rfl w.heap.size Jd rfl (by kernel_rfl) 233 gh (ah w _) xv rfl (by kernel_rfl) ?_))
 exact bodyPost_ret (v:=.agg Jd) (results_cell_row rfl _ _ w.heap.size 233 Jd (0,0) _ rfl (setRow_heap _ w.heap.size _ _ 233 _ (ah w _)) Tryz.underlying233 rfl xv) rfl
  ⟨Jd,rfl,rfl,MJ,by kernel_rfl,below_setRow ((Below.refl _ _).alloc (Nat.le_refl _) _) (Nat.le_refl _) _⟩
theorem MK (s:ByteArray)(R:Nat)(st:Rf.St)(w:World)(hr:Rd w R s st.pos)(hs:s.size<=5000000)(hp:st.pos<=8*s.size)(hb:st.bad=false)(Q:List Int×Rf.St)(hQ:Q=Rf.ia (lw s) ((Rf.take (lw s) st 4).1.toNat+4) 0 (List.replicate 19 0) (Rf.take (lw s) st 4).2): Calls Tryz.prog 167 #[.pointer (some ⟨R,0,none⟩)] w fun e w' =>
   (∃M sh lo,Q.2.bad=false/\Rf.full Q.1=true/\e=.returned (BD M sh lo)/\jT w' M sh lo Q.1/\Rd w' R s Q.2.pos/\w.heap.size<=M/\Kp (·=R) w w') \/
   ((Q.2.bad=true\/Rf.full Q.1=false)/\e=dies 6/\Kp (·=R) w w'):=by
 obtain⟨Z,hZ⟩:∃Z:List Value,Z=List.replicate 19 (.int .i64 0):=⟨_,rfl⟩
 have hmk:∀u:World,(Instr.makeSlice 24 (.int .i64 19) (.int .i64 19)).run Tryz.prog u=.ok (.slice (some ⟨u.heap.size,0,none⟩) 19 19) (u.alloc (.cells Z.toArray 3)):=fun u=>mA 19 (by omega) Z hZ u;have HZ:Hid (Z=vals (List.replicate 19 0)):=by show _=_;rw[hZ,bC]
 have sU:=lt_of_block hr;clear hZ
 go_enter Tryz.func167,Tryz.ntmps167
 go_wp2_with fail;refine (sj _).mono ?_;rintro e w1 ⟨O,rfl,Pc,hO2,hO3,b1⟩;simp only[World.size_alloc]at b1;have hsz1:=b1.size;simp only[World.size_alloc]at hsz1;have Je:(Tryz.prog.info? 233).map (·.size)=some O.size:=by rw[Pc];exact xv
 go_wp2_with (refine wpList_store_row rfl 233 _ _ rfl w1.heap.size O rfl (by rfl) 233 gh (ah w1 _) Je Pc.symm hO3 ?_);have hOb:(((w1.alloc (.cells gh 233)).setRow w1.heap.size O).alloc (.cells Z.toArray 3)).heap[w1.heap.size]?=some (.cells O 233 (0,0)):=am (setRow_heap _ w1.heap.size _ _ 233 _ (ah w1 _)) _;have hsr:((w1.alloc (.cells gh 233)).setRow w1.heap.size O).heap.size=w1.heap.size+1:=by simp[World.setRow]
 have Zd:aP (((w1.alloc (.cells gh 233)).setRow w1.heap.size O).alloc (.cells Z.toArray 3)) (w1.heap.size+1) (List.replicate 19 0):=by
  have h9:=ah ((w1.alloc (.cells gh 233)).setRow w1.heap.size O) (.cells Z.toArray 3);rw[hsr]at h9;rw[HZ.out]at h9 ⊢;exact h9
 have hall:∀k,k<w1.heap.size->(((w1.alloc (.cells gh 233)).setRow w1.heap.size O).alloc (.cells Z.toArray 3)).heap[k]?=w1.heap[k]?:=fun k hk =>
  (Below.heap_alloc _ _ _ (by rw[hsr];omega)).trans ((setRow_other _ w1.heap.size k O (by omega)).trans (Below.heap_alloc w1 _ k hk))
 have hRb:=(hall w.heap.size (by omega)).trans ((b1.block _ (by omega)).trans (ah w (.cells #[.map none,.int .u16 0,.int .u16 0] 164)))
 have hk2:Kp (·=R) w (((w1.alloc (.cells gh 233)).setRow w1.heap.size O).alloc (.cells Z.toArray 3)) :=
  ⟨b1.os,b1.tape,b1.output,by simp[World.setRow];omega,fun k hk _=>(hall k (by omega)).trans ((b1.block k (by omega)).trans (Below.heap_alloc w _ k hk))⟩
 have hr2:Rd (((w1.alloc (.cells gh 233)).setRow w1.heap.size O).alloc (.cells Z.toArray 3)) R s st.pos:=(hall R (by omega)).trans ((b1.block R (by omega)).trans (am hr _));have hB:w.heap.size+1<=w1.heap.size:=hsz1;generalize ((w1.alloc (.cells gh 233)).setRow w1.heap.size O).alloc (.cells Z.toArray 3)=W2 at *;generalize w1.heap.size=B at *;clear b1 hsr hall hmk HZ Je Pc hO3 hsz1;refine (dF 4 s R st _ hr2 hs hp hb (by omega)).mono ?_;have g1:=Rf.take_range (cC s) st 4;have p1:=Rf.cy (lw s) st 4 (by rw[au];exact hp);have hbd:=Rf.ew (lw s) st 4;generalize Rf.take (lw s) st 4=A at *;obtain⟨a,st1⟩:=A;simp only at *;rw[au]at p1;rintro e w3 (⟨q1,rfl,r3,k3⟩|⟨q1,rfl,k3⟩)
 case inr =>
  go_wp2
  have hbad:Q.2.bad=true:=by
   rw[hQ];cases a.toNat+4 with
   | zero=>exact q1
   | succ n=>rw[Rf.ia,if_pos q1];exact q1
  exact⟨rfl,.inr ⟨.inl hbad,rfl,hk2.trans k3⟩⟩
 case inl =>
 obtain⟨k,rfl⟩:∃k:Nat,a=(k:Int):=⟨a.toNat,by omega⟩
 have aeX:k<=15:=by have:=g1.2;omega
 have HQ:Hid (Q=Rf.ia (lw s) (k+4) 0 (List.replicate 19 0) st1):=by show _=_;rw[hQ];rfl
 have UR:=(k3.block B (lt_of_block hOb) (by omega)).trans hOb;have US:aP w3 (B+1) (List.replicate 19 0):=(k3.block (B+1) (lt_of_block Zd) (by omega)).trans Zd;have UT:=(k3.block w.heap.size (lt_of_block hRb) (by omega)).trans hRb;have hk3:=hk2.trans k3;clear k3 hk2 hOb Zd hRb hr2 hQ g1 hbd;go_wp2
 go_loopw [13] (fun v wr=>∃(i:Nat) (ls:List Int) (st':Rf.St),i<=k+4/\v=.int .i64 i/\ls.length=19/\Hid (Q=Rf.ia (lw s) (k+4-i) i ls st')/\Hid (Rf.dE ls 7)/\Rd wr R s st'.pos/\Hid (st'.bad=false)/\st'.pos<=8*s.size /\
   aP wr (B+1) ls/\wr.heap[B]?=some (.cells O 233 (0,0))/\wr.heap[w.heap.size]?=some (.cells #[.map none,.int .u16 0,.int .u16 0] 164 (0,0))/\Kp (·=R) w wr) (fun v _=>k+4-(intOf v).toNat)
 case atStart=>exact⟨0,List.replicate 19 0,st1,Nat.zero_le _,rfl,by simp,HQ,Rf.p9 19 7 (by omega),r3,q1,p1,US,UR,UT,hk3⟩
 case round =>
  clear HQ r3 q1 p1 US UR UT hk3;obtain⟨i,ls,st',hi,rfl,ML,HQ,HW,r4,ze,p4,hG,hOb,hRb,hk4⟩:=hrel;by_cases hlt:i<k+4
  ·obtain⟨p,hpp⟩:∃p:Nat,p=Rf.order.getD i 0:=⟨_,rfl⟩
   have aeY:p<19:=by rw[hpp];exact Rf.o8 i
   have co:wr.cell? ⟨B,i,none⟩=some (.int .i64 (p:Int)):=(cell_of_row _ _ _ _ _ _ hOb).trans ((hO2 i (by omega)).trans (by rw[hpp]));obtain⟨x0,cg⟩:∃x0,wr.cell? ⟨B+1,p,none⟩=some (.int .i64 x0):=⟨_,hG.cell p (by omega)⟩
   have bZ:=fun W h=>dF 3 s R st' W h hs p4 ze.out (by omega);have g2:=Rf.take_range (cC s) st' 3;have p5:=Rf.cy (lw s) st' 3 (by rw[au];exact p4);rw[au]at p5;have Pd:Hid (Q=Rf.ia (lw s) (k+4-(i+1)) (i+1) (ls.set p (Rf.take (lw s) st' 3).1) (Rf.take (lw s) st' 3).2):=by show _=_;rw[HQ.out,show k+4-i=(k+4-(i+1))+1 by omega,Rf.ia,if_neg (by rw[ze.out];decide),hpp]
   generalize Rf.take (lw s) st' 3=A at *;obtain⟨x,st2⟩:=A;simp only at bZ g2 p5 Pd;have Jf:=lt_of_block hOb;have Ze:=lt_of_block hG;have j1:(i:Int)<19:=by omega
   have j2:(p:Int)<19:=by omega
   clear hpp;go_wp2;have hS:wr.drew.cell? ⟨B,i,none⟩=some (.int .i64 (p:Int)):=co;refine ax (by kernel_rfl) (fun w'=>w'.cell? ⟨B,i,none⟩=some (.int .i64 (p:Int))) 99 ?_;refine aw (i:=0) (v:=?_) rfl (by kernel_rfl) (by kernel_rfl) (by kernel_rfl) (by kernel_rfl) (fun _ _ _ h=>h) (by rfl) ?_ hS ?_;rotate_left
   ·intro w hSw;(try dsimp only at hSw);go_simp;try with_reducible rfl
   try simp only[Act.put]
   refine aw (i:=1) (v:=?_) rfl (by kernel_rfl) (by kernel_rfl) (by kernel_rfl) (by kernel_rfl) (fun _ _ _ h=>h) (by rfl) ?_ hS ?_;rotate_left
   ·intro w hSw;(try dsimp only at hSw);go_simp;try with_reducible rfl
   try simp only[Act.put]
   refine aw (i:=2) (v:=?_) rfl (by kernel_rfl) (by kernel_rfl) (by kernel_rfl) (by kernel_rfl) (fun _ _ _ h=>h) (by rfl) ?_ hS ?_;rotate_left
   ·intro w hSw;(try dsimp only at hSw);go_simp;try with_reducible rfl
   try simp only[Act.put]
   refine aw (i:=3) (v:=?_) rfl (by kernel_rfl) (by kernel_rfl) (by kernel_rfl) (by kernel_rfl) (fun _ _ _ h=>h) (by rfl) ?_ hS ?_;rotate_left
   ·intro w hSw;(try dsimp only at hSw);go_simp;try with_reducible rfl
   try simp only[Act.put]
   refine aw (i:=4) (v:=?_) rfl (by kernel_rfl) (by kernel_rfl) (by kernel_rfl) (by kernel_rfl) (fun _ _ _ h=>h) (by rfl) ?_ hS ?_;rotate_left
   ·intro w hSw;(try dsimp only at hSw);go_simp;try with_reducible rfl
   try simp only[Act.put]
   refine af (i:=5) (by kernel_rfl) rfl (fun K hK=>?_);go_simp;refine (bZ wr.drew r4).mono ?_;rintro e w5 (⟨q2,rfl,r5,k5⟩|⟨q2,rfl,k5⟩)
   case inr =>
    have hbad:Q.2.bad=true:=by
     rw[Pd.out];cases k+4-(i+1) with
     | zero=>exact q2
     | succ n=>rw[Rf.ia,if_pos q2];exact q2
    exact⟨rfl,.inr ⟨.inl hbad,rfl,hk4.drew.trans k5⟩⟩
   case inl =>
   have MN:w5.heap[B]?=some (.cells O 233 (0,0)):=(k5.block B Jf (by omega)).trans hOb;have Yh:aP w5 (B+1) ls:=(k5.block (B+1) Ze (by omega)).trans hG;have QK:w5.heap[w.heap.size]?=some (.cells #[.map none,.int .u16 0,.int .u16 0] 164 (0,0)):=(k5.block w.heap.size (lt_of_block hRb) (by omega)).trans hRb;have hk5:=hk4.drew.trans k5;have hS5:w5.cell? ⟨B,i,none⟩=some (.int .i64 (p:Int)):=(k5.cell (p:=⟨B,i,none⟩) Jf (show ¬B=R by omega)).trans co;obtain⟨x1,cg5⟩:∃x0,w5.cell? ⟨B+1,p,none⟩=some (.int .i64 x0):=⟨_,Yh.cell p (by omega)⟩
   have fg5:w5.frozen? ⟨B+1,p,none⟩=false:=frozen_of_row w5 _ _ _ _ Yh;have HW2:Hid (Rf.dE (ls.set p x) 7):=Rf.Bv HW.out p x ⟨g2.1,by omega⟩;clear hk4 k5 hOb hG hRb r4 HQ ze cg co bZ;refine hK _ _ (fun _=>hS5) ?_;clear hK K;refine af (i:=6) (by kernel_rfl) rfl (fun K hK=>?_);go_simp;refine hK _ _ (fun _=>hS5) ?_;clear hK K;refine af (i:=7) (by kernel_rfl) rfl (fun K hK=>?_);go_simp;have kS:Kp (·=B+1) w5 (w5.setCell ⟨B+1,p,none⟩ (.int .i64 x)):=(Kp.refl (·=B+1) w5).setCell (p:=⟨B+1,p,none⟩) (.inl rfl) _;refine hK _ _ (fun _=>(kS.cell (p:=⟨B,i,none⟩) (lt_of_block MN) (show ¬B=B+1 by omega)).trans hS5) ?_;clear hK K;refine ak (by kernel_rfl) ?_ _
   have R6:aP (w5.setCell ⟨B+1,p,none⟩ (.int .i64 x)) (B+1) (ls.set p x)/\(w5.setCell ⟨B+1,p,none⟩ (.int .i64 x)).heap[B]?=some (.cells O 233 (0,0))/\(w5.setCell ⟨B+1,p,none⟩ (.int .i64 x)).heap[w.heap.size]?=some (.cells #[.map none,.int .u16 0,.int .u16 0] 164 (0,0)) /\
     Kp (·=R) w (w5.setCell ⟨B+1,p,none⟩ (.int .i64 x))/\Rd (w5.setCell ⟨B+1,p,none⟩ (.int .i64 x)) R s st2.pos :=
    ⟨Yh.set p x,(kS.block B (lt_of_block MN) (by omega)).trans MN,(kS.block _ (lt_of_block QK) (by omega)).trans QK,hk5.setCell (p:=⟨B+1,p,none⟩) (.inr (by show w.heap.size<=B+1;omega)) _,r5.kept kS (by omega)⟩
   clear kS hk5 MN Yh QK r5 cg5 fg5 hS hS5;go_wp2
   go_roundw
   case rel=>exact⟨i+1,ls.set p x,st2,by omega,by go_num,by simp[ML],Pd,HW2,R6.2.2.2.2,q2,p5,R6.1,R6.2.1,R6.2.2.1,R6.2.2.2.1⟩
   case measure=>simp[intOf];omega
  ·have hik:i=k+4:=by omega
   subst hik;have HE:Hid (Q=(ls,st')):=by show _=_;rw[HQ.out,Nat.sub_self];rfl
   have hint:=hG.ints;have OT:∀j,ls.getD j 0<=15:=fun j=>by have:=(HW.out j).2;omega
   obtain⟨t0,t1,t2,tz,Zf⟩:=dG hRb;go_wp2_with fail;refine (BI (some ⟨B+1,0,none⟩) 19 ls 19 _ ML (by omega) hint OT).mono ?_;rintro e w5 ⟨rfl,rfl⟩;cases hfl:Rf.full ls
   ·go_wp2;exact⟨rfl,.inr ⟨.inr (by rw[HE.out];exact hfl),rfl,hk4⟩⟩
   ·have hfs:Rf.fs ls ls.length<=32768:=by have h9:decide (Rf.fs ls ls.length=32768)=true:=hfl;have:=of_decide_eq_true h9;omega
    go_wp2_with fail;refine (i5 (some ⟨B+1,0,none⟩) 19 ls 19 _ ML (by omega) hint (fun a e _=>by cases e;exact lt_of_block hG) OT hfs).mono ?_;rintro e w6 ⟨M,sh,lo,rfl,T6,hM,b6⟩;have Zg:=(b6.block _ Zf).trans hRb;obtain⟨u0,u1,u2,uz,ult⟩:=dG Zg;have Ya:Kp (·=R) w w6:=hk4.trans ⟨b6.os,b6.tape,b6.output,b6.size,fun k hk _=>b6.block k hk⟩;have r6:Rd w6 R s st'.pos:=(b6.block R (lt_of_block r4)).trans r4;have Zh:Hid (jT w6 M sh lo ls/\w.heap.size+1<=M):=⟨T6,by omega⟩
    clear b6 T6 hRb hk4 t0 t1 t2 tz r4 hint hG hOb;go_wp2
    have Zi:∀u v x:Value,Kp (·=w.heap.size) w6 (((w6.setCell ⟨w.heap.size,0,none⟩ u).setCell ⟨w.heap.size,1,none⟩ v).setCell ⟨w.heap.size,2,none⟩ x):=fun u v x =>
     (((Kp.refl (·=w.heap.size) w6).setCell (p:=⟨w.heap.size,0,none⟩) (.inl rfl) u).setCell (p:=⟨w.heap.size,1,none⟩) (.inl rfl) v).setCell (p:=⟨w.heap.size,2,none⟩) (.inl rfl) x
    exact bodyPost_ret (v:=BD M sh lo) (by simp[results,Tryz.results167,go_sem,u0,u1,u2]) rfl
     (.inl ⟨M,sh,lo,by rw[HE.out];exact ze.out,by rw[HE.out];exact hfl,rfl,by rw[HE.out];exact Zh.out.1.kept (Zi _ _ _) (by have:=Zh.out.2;omega),by rw[HE.out];exact r6.kept (Zi _ _ _) (by omega),by have:=Zh.out.2;omega,Ya.then (Zi _ _ _) (fun i h e=>by omega)⟩)
structure Sl (w wr:World) (s:ByteArray) (R pos M sh lo:Nat) (ls:List Int):Prop where
 kp:Kp (·=R) w wr
 bx:wr.heap[w.heap.size]?=some (.cells #[.map (some M),.int .u16 sh,.int .u16 lo] 164 (0,0))
 tb:jT wr M sh lo ls
 rd:Rd wr R s pos
theorem Sl.read {w wr w':World}{s:ByteArray}{R pos q M sh lo:Nat}{ls:List Int}(h:Sl w wr s R pos M sh lo ls)(hR:R<w.heap.size)(hM:M≠R)(k:Kp (·=R) wr w')(r:Rd w' R s q):Sl w w' s R q M sh lo ls :=
 ⟨h.kp.trans k,(k.block _ (lt_of_block h.bx) (by omega)).trans h.bx,h.tb.kept k hM,r⟩
theorem Sl.drew {w wr:World}{s:ByteArray}{R pos M sh lo:Nat}{ls:List Int}(h:Sl w wr s R pos M sh lo ls):Sl w wr.drew s R pos M sh lo ls:=⟨h.kp.drew,h.bx,h.tb,h.rd⟩
theorem Sl.grow {w wr w':World}{s:ByteArray}{R pos M sh lo:Nat}{ls:List Int}{v:Value}{n:Nat}{xs:List Value}(h:Sl w wr s R pos M sh lo ls)(hR:R<w.heap.size)(hM:M<w.heap.size)(o:Obj)(hown:wr.ownsRow (w.heap.size+1) 3 1 v n xs)(hg:(wr.alloc o).grownBy w' v.ownBlock):Sl w w' s R pos M sh lo ls:=by
 have hsz:=h.kp.size;have hb:∀k,k<=w.heap.size->k<wr.heap.size->w'.heap[k]?=wr.heap[k]?:=fun k hk h2=>(hg.block k (by simp;omega) (fun e=>by have:=(hown.lt k e.symm).1;omega)).trans (Below.heap_alloc wr o k h2);refine⟨(h.kp.alloc o).grown hg (fun k e=>.inr (by have:=(hown.lt k e).1;omega)),(hb _ (Nat.le_refl _) (lt_of_block h.bx)).trans h.bx,h.tb.of (hb M (by omega) h.tb.lt),(hb R (by omega) (lt_of_block h.rd)).trans h.rd⟩
theorem pq (L ls cd:List Int)(n f:Nat)(out:List Int)(st:Rf.St)(h:n<=out.length):Rf.mc L ls cd n f out st=(out,st):=by
 cases f with
 | zero=>rfl
 | succ f=>rw[Rf.mc,if_pos (.inl h)]
theorem BV {L ls:List Int}{n:Nat}{st:Rf.St}{RES:List Int×Rf.St}(h:Rf.listed L ls n st=if RES.1.length=n then RES else (RES.1,{ RES.2 with bad:=true }))(hb:RES.2.bad=true\/RES.1.length≠n):(Rf.listed L ls n st).2.bad=true:=by
 rw[h];split
 ·rcases hb with hb|hb
  ·exact hb
  ·rename_i e;exact absurd e hb
 ·rfl
theorem sW {L ls:List Int}{n:Nat}{st:Rf.St}(h:(Rf.listed L ls n st).2.bad=false):(Rf.listed L ls n st).1.length=n:=by
 have e:Rf.listed L ls n st=if (Rf.mc L ls (Rf.codes ls) n (n+1) [] st).1.length=n then Rf.mc L ls (Rf.codes ls) n (n+1) [] st else ((Rf.mc L ls (Rf.codes ls) n (n+1) [] st).1,{ (Rf.mc L ls (Rf.codes ls) n (n+1) [] st).2 with bad:=true }):=rfl
 by_cases hl:(Rf.mc L ls (Rf.codes ls) n (n+1) [] st).1.length=n
 ·rw[e,if_pos hl];exact hl
 ·rw[e,if_neg hl]at h;cases h
theorem zn (n:Nat)(hn:n<=320)(Z:List Value)(hZ:Z=List.replicate n (.int .i64 0))(u:World): (Instr.makeSlice 24 (.int .i64 0) (.int .i64 (n:Int))).run Tryz.prog u=.ok (.slice (some ⟨u.heap.size,0,none⟩) 0 n) (u.alloc (.cells Z.toArray 3)):=by
 obtain⟨i0,hi,hz0,hz1,hz2⟩:=info_parts Tryz.info3;have h:=run_make (P:=Tryz.prog) u 24 3 i0 (.int .i64 0) Tryz.underlying24 hi hz0 .i64 .i64 0 (n:Int) (by omega) (by omega) (by rw[hz2];omega) (by omega);have e2:(madeCells #[Value.int .i64 0] n)=Z.toArray:=by rw[hZ,<-toList_madeCells_one]
 simpa[hz1,Value.cells,e2]using h
theorem QL (N:Nat)(s:ByteArray)(R M sh lo:Nat)(ls:List Int)(st:Rf.St)(w:World)(hr:Rd w R s st.pos)(hT:jT w M sh lo ls)(hMR:M≠R)(ML:ls.length=19)(hN:N<=320)(hs:s.size<=5000000)(hp:st.pos<=8*s.size)(hb:st.bad=false): Calls Tryz.prog 166 #[.pointer (some ⟨R,0,none⟩),BD M sh lo,.int .i64 N] w fun e w' =>
   ((Rf.listed (lw s) ls N st).2.bad=false/\(∃v,e=.returned v/\w'.ownsRow (w.heap.size+1) 3 1 v N (vals (Rf.listed (lw s) ls N st).1))/\Rd w' R s (Rf.listed (lw s) ls N st).2.pos/\Kp (·=R) w w') \/
   ((Rf.listed (lw s) ls N st).2.bad=true/\e=dies 6/\Kp (·=R) w w'):=by
 obtain⟨i0,hi,hz0,hz1,hz2⟩:=info_parts Tryz.info3;obtain⟨Z,hZ⟩:∃Z:List Value,Z=List.replicate N (.int .i64 0):=⟨_,rfl⟩
 have hmk:=zn N hN Z hZ;have hZs:Z.toArray.size=N*1:=by rw[hZ];simp
 have sU:=lt_of_block hr;have uZ:=hT.lt;obtain⟨RES,rL⟩:∃RES,RES=Rf.mc (lw s) ls (Rf.codes ls) N (N+1) [] st:=⟨_,rfl⟩
 obtain⟨LI,Zj⟩:∃LI,LI=Rf.listed (lw s) ls N st:=⟨_,rfl⟩
 have hlen:=@sW (lw s) ls N st;have Jg:=fun hh=>@BV (lw s) ls N st RES (by rw[rL];rfl) hh;have hgood:RES.2.bad=false->RES.1.length=N->LI=RES:=fun _ h2=>by rw[Zj];show (if (Rf.mc (lw s) ls (Rf.codes ls) N (N+1) [] st).1.length=N then _ else _)=_;rw[<-rL,if_pos h2]
 rw[<-Zj]at Jg ⊢;have Pe:Hid (RES.2.bad=true\/RES.1.length≠N->LI.2.bad=true):=Jg;have HGD:Hid (RES.2.bad=false->RES.1.length=N->LI=RES):=hgood
 have S0:Sl w ((w.alloc (.cells #[.map (some M),.int .u16 sh,.int .u16 lo] 164)).alloc (.cells Z.toArray 3)) s R st.pos M sh lo ls :=
  ⟨((Kp.refl _ w).alloc _).alloc _,am (ah w _) _,hT.kept (((Kp.refl (fun _=>False) w).alloc _).alloc _) id,am (am hr _) _⟩
 have O0:((w.alloc (.cells #[.map (some M),.int .u16 sh,.int .u16 lo] 164)).alloc (.cells Z.toArray 3)).ownsRow (w.heap.size+1) 3 1 (.slice (some ⟨w.heap.size+1,0,none⟩) 0 N) 0 (vals []):=by
  have h9:=World.ownsRow_made (base:=w.heap.size+1) (e:=3) (size:=1) (w.alloc (.cells #[.map (some M),.int .u16 sh,.int .u16 lo] 164)) Z.toArray N (by simp) (by unfold maxLen;omega) hZs;rw[World.size_alloc]at h9;exact h9
 have BW:Hid (RES=Rf.mc (lw s) ls (Rf.codes ls) N (N+1) [] st):=rL;clear rL Zj hlen Jg hgood hZ hZs hr hT;obtain⟨cd,hcd⟩:∃cd,cd=Rf.codes ls:=⟨_,rfl⟩
 rw[<-hcd]at BW;have Zk:Hid (cd=Rf.codes ls):=hcd;clear hcd
 go_enter Tryz.func166,Tryz.ntmps166
 go_wp2
 go_loopw [7] (fun v wr=>∃(f:Nat) (out:List Int) (st':Rf.St),wr.ownsRow (w.heap.size+1) 3 1 v out.length (vals out)/\out.length<=N/\Sl w wr s R st'.pos M sh lo ls/\Hid (st'.bad=false)/\st'.pos<=8*s.size/\Hid (RES=Rf.mc (lw s) ls cd N f out st')/\N+1<=f+out.length) (fun v _=>N-IB v)
 case atStart=>exact⟨N+1,[],st,O0,Nat.zero_le _,S0,hb,hp,BW,by simp⟩
 case round =>
  clear O0 S0 BW hmk hb;obtain⟨f,out,st',hown,hol,S1,ze,hp1,HF,hfu⟩:=hrel;by_cases hdone:out.length=N
  ·have HE:Hid (LI=(out,st')):=by
    have e:RES=(out,st'):=by rw[HF.out];exact pq _ _ _ _ _ _ _ (by omega)
    show _=_;rw[HGD.out (by rw[e];exact ze.out) (by rw[e];exact hdone),e]
   obtain⟨oa,oc,rfl⟩:=aQ hown;have hge:¬((out.length:Int)<(N:Int)):=by omega
   have ae2:(N:Int)<=(out.length:Int):=by omega
   have HO:Hid (wr.ownsRow (w.heap.size+1) 3 1 (.slice oa out.length oc) N (vals out)):=by
    have h9:=hown;rw[hdone]at h9 ⊢;exact h9
   clear hdone hown;go_wp2
   go_ret
   exact .inl ⟨by rw[HE.out];exact ze.out,⟨_,rfl,by rw[HE.out];exact HO.out⟩,by rw[HE.out];exact S1.rd,S1.kp⟩
  ·have hlt:out.length<N:=by omega
   have hlt':(out.length:Int)<(N:Int):=by omega
   obtain⟨f,rfl⟩:∃g,f=g+1:=⟨f-1,by omega⟩
   have pY:Hid (RES=_):=HF.out.trans (by rw[Rf.mc,if_neg (by rw[ze.out];simp;omega)]);obtain⟨oa,oc,rfl⟩:=aQ hown;obtain⟨t0,t1,t2,tz,Zf⟩:=dG S1.bx;have hsr:=Rf.fY (lw s) ls cd st';have hsl:(Rf.symbol (lw s) ls cd st').2.pos<=(lw s).length:=Rf.o7 (lw s) ls cd 15 0 0 st' (by rw[au];exact hp1);rw[au]at hsl
   have hrd:Calls Tryz.prog 162 #[BD M sh lo,.pointer (some ⟨R,0,none⟩)] wr fun e w' =>
    ((Rf.symbol (lw s) ls cd st').2.bad=false/\e=.returned (.int .i64 (Rf.symbol (lw s) ls cd st').1)/\Rd w' R s (Rf.symbol (lw s) ls cd st').2.pos/\Kp (·=R) wr w') \/
    ((Rf.symbol (lw s) ls cd st').2.bad=true/\e=dies 6/\Kp (·=R) wr w'):=by rw[Zk.out];exact BH M sh lo ls s R st' wr S1.tb S1.rd hMR hs hp1 ze.out
   generalize Rf.symbol (lw s) ls cd st'=SY at *;obtain⟨x,st2⟩:=SY;simp only at hsr hsl hrd pY;clear HF;go_wp2_with fail;refine hrd.mono ?_;rintro e w2 (⟨q1,rfl,r2,k2⟩|⟨q1,rfl,k2⟩)
   case inr =>
    go_wp2;exact⟨rfl,.inr ⟨Pe.out (.inl (by rw[pY.out,if_pos q1];exact q1)),rfl,S1.kp.trans k2⟩⟩
   case inl =>
   rw[if_neg (by rw[q1];decide)]at pY;have S2:=S1.read sU hMR k2 r2;have O2:w2.ownsRow (w.heap.size+1) 3 1 (.slice oa out.length oc) out.length (vals out):=r8 hown (fun g hg=>k2.block g (hown.lt g hg).2 (fun e=>by have:=(hown.lt g hg).1;omega));have hx0:=hsr.1;have ae3:x<19:=by have:=hsr.2 q1;omega
   have xx:Hid (st2.bad=false):=q1;clear hrd hsr S1 hown k2 r2 t0 t1 t2 tz Zf q1 ze hp1;by_cases h16:x<16
   ·rw[if_pos h16]at pY;have HX:Hid (RES=Rf.mc (lw s) ls cd N f (out++List.replicate 1 x) st2):=pY.out;have QM:=xx;have hp3:=hsl;have S3:=S2;have O3:=O2;have n16:¬x=16:=by omega
    have n17:¬x=17:=by omega
    have n18:¬x=18:=by omega
    have b16:(x==16)=false:=by simp;omega
    have b17:(x==17)=false:=by simp;omega
    have b18:(x==18)=false:=by simp;omega
    clear S2 O2 pY;by_cases hov:1<=N-out.length
    ·have Fv:¬((N:Int)-(out.length:Int)<(1:Int)):=by omega
     have QN:(1:Int)<=(N:Int)-(out.length:Int):=by omega
     have hd:decide ((N:Int)-(out.length:Int)<(1:Int))=false:=by simp;omega
     go_wp2
     go_loopw [7,55] (fun v i wr=>∃j:Nat,j<=1/\i=.int .i64 j/\wr.ownsRow (w.heap.size+1) 3 1 v (out.length+j) (vals (out++List.replicate j x))/\Sl w wr s R st2.pos M sh lo ls) (fun _ i _=>1-(intOf i).toNat)
     case atStart=>exact⟨0,Nat.zero_le _,rfl,by simpa using O3,S3⟩
     case round =>
      clear S3 O3;obtain⟨j,hj,rfl,hown,S4⟩:=hrel;by_cases hjt:j<1
      ·have QO:(j:Int)<(1:Int):=by omega
       go_wp2_with (at_builtin;refine wpList_append_own _ rfl _ _ 24 rfl (w.heap.size+1) 3 i0 (.int .i64 0) 1 8 Tryz.underlying24 hi hz0 hz1 hz2 rfl (by decide) _ _ _ rfl (hown.alloc _) ⟨wr.heap.size,0,none⟩ 1 1 [.int .i64 x] rfl rfl (cell_one_new _ _ _) (by intro u hu;simp at hu;subst hu;rfl) (by unfold maxLen;omega) (by omega) (by have:=S4.kp.size;have:=lt_of_block S4.bx;simp;omega) ?_;intro v' w5 hown' hgrow _)
       have R5:w5.ownsRow (w.heap.size+1) 3 1 v' (out.length+(j+1)) (vals (out++List.replicate (j+1) x))/\Sl w w5 s R st2.pos M sh lo ls:=by
        refine⟨?_,S4.grow sU uZ _ hown hgrow⟩;rw[nE];exact hown'
       clear hown' hgrow hown S4;go_wp2
       go_roundw
       case rel=>exact⟨j+1,by omega,by go_num,R5.1,R5.2⟩
       case measure=>simp[intOf];omega
      ·have BX:j=1:=by omega
       subst BX;have hjn:¬(((1:Nat):Int)<(1:Int)):=by omega
       obtain⟨Pf,Ph,rfl⟩:=aQ hown
       have O5:Hid (wr.ownsRow (w.heap.size+1) 3 1 (.slice Pf (out.length+(1)) Ph) (out++List.replicate (1) x).length (vals (out++List.replicate (1) x))):=by
        show wr.ownsRow _ _ _ _ _ _;rw[List.length_append,List.length_replicate];exact hown
       clear hown;go_wp2
       go_roundw
       case rel=>exact⟨f,out++List.replicate (1) x,st2,O5.out,by rw[List.length_append,List.length_replicate];omega,S4,QM,hp3,HX,by rw[List.length_append,List.length_replicate];omega⟩
       case measure=>simp[IB]<;>omega
    ·exact absurd (show 1<=N-out.length by omega) hov
   ·rw[if_neg h16]at pY;by_cases e16:x=16
    ·rw[if_pos e16]at pY;subst e16;by_cases hnil:out=[]
     ·rw[if_pos hnil]at pY;have hn0:out.length=0:=by rw[hnil];rfl
      have hn1:(out.length:Int)=0:=by omega
      go_wp2;exact⟨rfl,.inr ⟨Pe.out (.inl (by rw[pY.out])),rfl,S2.kp⟩⟩
     ·rw[if_neg hnil]at pY;have hpos:0<out.length:=List.length_pos_iff.2 hnil;have hn1:¬(out.length:Int)=0:=by omega
      have bn:((out.length:Int)==0)=false:=by simp;exact hnil
      obtain⟨g,qm,hv,hgb⟩:=yW O2 hpos;cases hv;obtain⟨y,hy⟩:∃y:Int,y=out.getD (out.length-1) 0:=⟨_,rfl⟩
      obtain⟨q,hq⟩:∃q:Nat,q=out.length-1:=⟨_,rfl⟩
      have hcell:w2.cell? ⟨g,q,none⟩=some (.int .i64 y):=(O2.cellAt q (by omega)).trans (by rw[hy,hq];simp[vals,List.getD,List.getElem?_eq_getElem (show out.length-1<out.length by omega)]);rw[<-hy]at pY;have bZ:=fun W h=>dF 2 s R st2 W h hs hsl xx.out (by omega);have g2:=Rf.take_range (cC s) st2 2;have p2:=Rf.cy (lw s) st2 2 (by rw[au];exact hsl);rw[au]at p2;generalize Rf.take (lw s) st2 2=A at *;obtain⟨t,du⟩:=A;simp only at bZ g2 p2 pY;obtain⟨t,rfl⟩:∃u:Nat,t=(u:Int):=⟨t.toNat,by omega⟩
      have ht:t<4:=by have:=g2.2;omega
      have HX:Hid (RES=Rf.mc (lw s) ls cd N f (out++List.replicate (3+t) y) du):=by show _=_;rw[pY.out];rfl
      have j1:(0:Int)<=(out.length:Int)-1:=by omega
      have j2:(out.length:Int)-1<(out.length:Int):=by omega
      have Y7:IntKind.i64.wrap ((out.length:Int)-1)=(q:Int):=by rw[IntWalk.i64_in _ (by omega)];omega
      have j4:(q:Int)<(out.length:Int):=by omega
      have wr3:IntKind.i64.wrap (3+(t:Int))=3+(t:Int):=IntWalk.i64_in _ (by omega);have Zl:=(O2.lt g rfl).2;have hgR:g≠R:=by omega
      clear pY g2 hy hq;go_wp2;have hS:w2.drew.cell? ⟨g,q,none⟩=some (.int .i64 y):=hcell;refine ax (by kernel_rfl) (fun w'=>w'.cell? ⟨g,q,none⟩=some (.int .i64 y)) 99 ?_;refine aw (i:=0) (v:=?_) rfl (by kernel_rfl) (by kernel_rfl) (by kernel_rfl) (by kernel_rfl) (fun _ _ _ h=>h) (by rfl) ?_ hS ?_;rotate_left
      ·intro w hSw;(try dsimp only at hSw);go_simp;try with_reducible rfl
      try simp only[Act.put]
      refine aw (i:=1) (v:=?_) rfl (by kernel_rfl) (by kernel_rfl) (by kernel_rfl) (by kernel_rfl) (fun _ _ _ h=>h) (by rfl) ?_ hS ?_;rotate_left
      ·intro w hSw;(try dsimp only at hSw);go_simp;try with_reducible rfl
      try simp only[Act.put]
      refine aw (i:=2) (v:=?_) rfl (by kernel_rfl) (by kernel_rfl) (by kernel_rfl) (by kernel_rfl) (fun _ _ _ h=>h) (by rfl) ?_ hS ?_;rotate_left
      ·intro w hSw;(try dsimp only at hSw);go_simp;try with_reducible rfl
      try simp only[Act.put]
      refine aw (i:=3) (v:=?_) rfl (by kernel_rfl) (by kernel_rfl) (by kernel_rfl) (by kernel_rfl) (fun _ _ _ h=>h) (by rfl) ?_ hS ?_;rotate_left
      ·intro w hSw;(try dsimp only at hSw);go_simp;try with_reducible rfl
      try simp only[Act.put]
      refine aw (i:=4) (v:=?_) rfl (by kernel_rfl) (by kernel_rfl) (by kernel_rfl) (by kernel_rfl) (fun _ _ _ h=>h) (by rfl) ?_ hS ?_;rotate_left
      ·intro w hSw;(try dsimp only at hSw);go_simp;try with_reducible rfl
      try simp only[Act.put]
      refine aw (i:=5) (v:=?_) rfl (by kernel_rfl) (by kernel_rfl) (by kernel_rfl) (by kernel_rfl) (fun _ _ _ h=>h) (by rfl) ?_ hS ?_;rotate_left
      ·intro w hSw;(try dsimp only at hSw);go_simp;try with_reducible rfl
      try simp only[Act.put]
      refine aw (i:=6) (v:=?_) rfl (by kernel_rfl) (by kernel_rfl) (by kernel_rfl) (by kernel_rfl) (fun _ _ _ h=>h) (by rfl) ?_ hS ?_;rotate_left
      ·intro w hSw;(try dsimp only at hSw);go_simp;try with_reducible rfl
      try simp only[Act.put]
      refine af (i:=7) (by kernel_rfl) rfl (fun K hK=>?_);go_simp;refine (bZ w2.drew S2.rd).mono ?_;rintro e w3 (⟨q2,rfl,r3,k3⟩|⟨q2,rfl,k3⟩)
      case inr =>
       have e:RES.2.bad=true:=by
        rw[HX.out];cases f with
        | zero=>exact q2
        | succ f=>rw[Rf.mc,if_pos (.inr q2)];exact q2
       exact⟨rfl,.inr ⟨Pe.out (.inl e),rfl,S2.kp.drew.trans k3⟩⟩
      case inl =>
      have iA:w3.cell? ⟨g,q,none⟩=some (.int .i64 y):=(k3.cell (p:=⟨g,q,none⟩) Zl hgR).trans hcell;have S3:=S2.drew.read sU hMR k3 r3;have O3:w3.ownsRow (w.heap.size+1) 3 1 (.slice (some ⟨g,0,none⟩) out.length oc) out.length (vals out):=r8 O2 (fun g' hg=>k3.block g' (O2.lt g' hg).2 (fun e=>by have:=(O2.lt g' hg).1;omega));have QM:Hid (du.bad=false):=q2;have hp3:=p2;refine hK _ _ (fun _=>iA) ?_;clear hK K;refine aw (i:=8) (v:=?_) rfl (by kernel_rfl) (by kernel_rfl) (by kernel_rfl) (by kernel_rfl) (fun _ _ _ h=>h) (by rfl) ?_ iA ?_;rotate_left
      ·intro w hSw;(try dsimp only at hSw);go_simp;try with_reducible rfl
      try simp only[Act.put]
      refine af (i:=9) (by kernel_rfl) rfl (fun K hK=>?_);go_simp;refine hK _ _ (fun _=>iA) ?_;clear hK K;refine af (i:=10) (by kernel_rfl) rfl (fun K hK=>?_);go_simp;refine hK _ _ (fun _=>iA) ?_;clear hK K;refine ak (by kernel_rfl) ?_ _;clear S2 O2 k3 r3 bZ q2 p2 hS iA hcell Y7 j1 j2 j4;by_cases hov:3+t<=N-out.length
      ·have Fv:¬((N:Int)-(out.length:Int)<(3+(t:Int))):=by omega
       have QN:(3+(t:Int))<=(N:Int)-(out.length:Int):=by omega
       have hd:decide ((N:Int)-(out.length:Int)<(3+(t:Int)))=false:=by simp;omega
       go_wp2
       go_loopw [7,55] (fun v i wr=>∃j:Nat,j<=3+t/\i=.int .i64 j/\wr.ownsRow (w.heap.size+1) 3 1 v (out.length+j) (vals (out++List.replicate j y))/\Sl w wr s R du.pos M sh lo ls) (fun _ i _=>3+t-(intOf i).toNat)
       case atStart=>exact⟨0,Nat.zero_le _,rfl,by simpa using O3,S3⟩
       case round =>
        clear S3 O3;obtain⟨j,hj,rfl,hown,S4⟩:=hrel;by_cases hjt:j<3+t
        ·have QO:(j:Int)<(3+(t:Int)):=by omega
         go_wp2_with (at_builtin;refine wpList_append_own _ rfl _ _ 24 rfl (w.heap.size+1) 3 i0 (.int .i64 0) 1 8 Tryz.underlying24 hi hz0 hz1 hz2 rfl (by decide) _ _ _ rfl (hown.alloc _) ⟨wr.heap.size,0,none⟩ 1 1 [.int .i64 y] rfl rfl (cell_one_new _ _ _) (by intro u hu;simp at hu;subst hu;rfl) (by unfold maxLen;omega) (by omega) (by have:=S4.kp.size;have:=lt_of_block S4.bx;simp;omega) ?_;intro v' w5 hown' hgrow _)
         have R5:w5.ownsRow (w.heap.size+1) 3 1 v' (out.length+(j+1)) (vals (out++List.replicate (j+1) y))/\Sl w w5 s R du.pos M sh lo ls:=by
          refine⟨?_,S4.grow sU uZ _ hown hgrow⟩;rw[nE];exact hown'
         clear hown' hgrow hown S4;go_wp2
         go_roundw
         case rel=>exact⟨j+1,by omega,by go_num,R5.1,R5.2⟩
         case measure=>simp[intOf];omega
        ·have BX:j=3+t:=by omega
         subst BX;have hjn:¬(((3+t:Nat):Int)<(3+(t:Int))):=by omega
         obtain⟨Pf,Ph,rfl⟩:=aQ hown
         have O5:Hid (wr.ownsRow (w.heap.size+1) 3 1 (.slice Pf (out.length+(3+t)) Ph) (out++List.replicate (3+t) y).length (vals (out++List.replicate (3+t) y))):=by
          show wr.ownsRow _ _ _ _ _ _;rw[List.length_append,List.length_replicate];exact hown
         clear hown;go_wp2
         go_roundw
         case rel=>exact⟨f,out++List.replicate (3+t) y,du,O5.out,by rw[List.length_append,List.length_replicate];omega,S4,QM,hp3,HX,by rw[List.length_append,List.length_replicate];omega⟩
         case measure=>simp[IB]<;>omega
      ·have Fv:(N:Int)-(out.length:Int)<(3+(t:Int)):=by omega
       go_wp2;have e:RES=(out++List.replicate (3+t) y,du):=by rw[HX.out];exact pq _ _ _ _ _ _ _ (by rw[List.length_append,List.length_replicate];omega)
       exact⟨rfl,.inr ⟨Pe.out (.inr (by rw[e];simp;omega)),rfl,S3.kp⟩⟩
    ·rw[if_neg e16]at pY;by_cases e17:x=17
     ·rw[if_pos e17]at pY;subst e17;have bZ:=dF 3 s R st2 w2 S2.rd hs hsl xx.out (by omega);have g2:=Rf.take_range (cC s) st2 3;have p2:=Rf.cy (lw s) st2 3 (by rw[au];exact hsl);rw[au]at p2;generalize Rf.take (lw s) st2 3=A at *;obtain⟨t,du⟩:=A;simp only at bZ g2 p2 pY;obtain⟨t,rfl⟩:∃u:Nat,t=(u:Int):=⟨t.toNat,by omega⟩
      have ht:t<8:=by have:=g2.2;omega
      have HX:Hid (RES=Rf.mc (lw s) ls cd N f (out++List.replicate (3+t) 0) du):=by show _=_;rw[pY.out];rfl
      clear pY g2;go_wp2_with fail;refine bZ.mono ?_;rintro e w3 (⟨q2,rfl,r3,k3⟩|⟨q2,rfl,k3⟩)
      case inr =>
       go_wp2
       have e:RES.2.bad=true:=by
        rw[HX.out];cases f with
        | zero=>exact q2
        | succ f=>rw[Rf.mc,if_pos (.inr q2)];exact q2
       exact⟨rfl,.inr ⟨Pe.out (.inl e),rfl,S2.kp.trans k3⟩⟩
      case inl =>
      have S3:=S2.read sU hMR k3 r3;have O3:w3.ownsRow (w.heap.size+1) 3 1 (.slice oa out.length oc) out.length (vals out):=r8 O2 (fun g hg=>k3.block g (O2.lt g hg).2 (fun e=>by have:=(O2.lt g hg).1;omega));have QM:Hid (du.bad=false):=q2;have hp3:=p2;clear S2 O2 k3 r3 bZ q2 p2;by_cases hov:3+t<=N-out.length
      ·have Fv:¬((N:Int)-(out.length:Int)<(3+(t:Int))):=by omega
       have QN:(3+(t:Int))<=(N:Int)-(out.length:Int):=by omega
       have hd:decide ((N:Int)-(out.length:Int)<(3+(t:Int)))=false:=by simp;omega
       go_wp2
       go_loopw [7,55] (fun v i wr=>∃j:Nat,j<=3+t/\i=.int .i64 j/\wr.ownsRow (w.heap.size+1) 3 1 v (out.length+j) (vals (out++List.replicate j 0))/\Sl w wr s R du.pos M sh lo ls) (fun _ i _=>3+t-(intOf i).toNat)
       case atStart=>exact⟨0,Nat.zero_le _,rfl,by simpa using O3,S3⟩
       case round =>
        clear S3 O3;obtain⟨j,hj,rfl,hown,S4⟩:=hrel;by_cases hjt:j<3+t
        ·have QO:(j:Int)<(3+(t:Int)):=by omega
         go_wp2_with (at_builtin;refine wpList_append_own _ rfl _ _ 24 rfl (w.heap.size+1) 3 i0 (.int .i64 0) 1 8 Tryz.underlying24 hi hz0 hz1 hz2 rfl (by decide) _ _ _ rfl (hown.alloc _) ⟨wr.heap.size,0,none⟩ 1 1 [.int .i64 0] rfl rfl (cell_one_new _ _ _) (by intro u hu;simp at hu;subst hu;rfl) (by unfold maxLen;omega) (by omega) (by have:=S4.kp.size;have:=lt_of_block S4.bx;simp;omega) ?_;intro v' w5 hown' hgrow _)
         have R5:w5.ownsRow (w.heap.size+1) 3 1 v' (out.length+(j+1)) (vals (out++List.replicate (j+1) 0))/\Sl w w5 s R du.pos M sh lo ls:=by
          refine⟨?_,S4.grow sU uZ _ hown hgrow⟩;rw[nE];exact hown'
         clear hown' hgrow hown S4;go_wp2
         go_roundw
         case rel=>exact⟨j+1,by omega,by go_num,R5.1,R5.2⟩
         case measure=>simp[intOf];omega
        ·have BX:j=3+t:=by omega
         subst BX;have hjn:¬(((3+t:Nat):Int)<(3+(t:Int))):=by omega
         obtain⟨Pf,Ph,rfl⟩:=aQ hown
         have O5:Hid (wr.ownsRow (w.heap.size+1) 3 1 (.slice Pf (out.length+(3+t)) Ph) (out++List.replicate (3+t) 0).length (vals (out++List.replicate (3+t) 0))):=by
          show wr.ownsRow _ _ _ _ _ _;rw[List.length_append,List.length_replicate];exact hown
         clear hown;go_wp2
         go_roundw
         case rel=>exact⟨f,out++List.replicate (3+t) 0,du,O5.out,by rw[List.length_append,List.length_replicate];omega,S4,QM,hp3,HX,by rw[List.length_append,List.length_replicate];omega⟩
         case measure=>simp[IB]<;>omega
      ·have Fv:(N:Int)-(out.length:Int)<(3+(t:Int)):=by omega
       go_wp2;have e:RES=(out++List.replicate (3+t) 0,du):=by rw[HX.out];exact pq _ _ _ _ _ _ _ (by rw[List.length_append,List.length_replicate];omega)
       exact⟨rfl,.inr ⟨Pe.out (.inr (by rw[e];simp;omega)),rfl,S3.kp⟩⟩
     ·rw[if_neg e17]at pY;have e18:x=18:=by omega
      subst e18;have bZ:=dF 7 s R st2 w2 S2.rd hs hsl xx.out (by omega);have g2:=Rf.take_range (cC s) st2 7;have p2:=Rf.cy (lw s) st2 7 (by rw[au];exact hsl);rw[au]at p2;generalize Rf.take (lw s) st2 7=A at *;obtain⟨t,du⟩:=A;simp only at bZ g2 p2 pY;obtain⟨t,rfl⟩:∃u:Nat,t=(u:Int):=⟨t.toNat,by omega⟩
      have ht:t<128:=by have:=g2.2;omega
      have HX:Hid (RES=Rf.mc (lw s) ls cd N f (out++List.replicate (11+t) 0) du):=by show _=_;rw[pY.out];rfl
      clear pY g2;go_wp2_with fail;refine bZ.mono ?_;rintro e w3 (⟨q2,rfl,r3,k3⟩|⟨q2,rfl,k3⟩)
      case inr =>
       go_wp2
       have e:RES.2.bad=true:=by
        rw[HX.out];cases f with
        | zero=>exact q2
        | succ f=>rw[Rf.mc,if_pos (.inr q2)];exact q2
       exact⟨rfl,.inr ⟨Pe.out (.inl e),rfl,S2.kp.trans k3⟩⟩
      case inl =>
      have S3:=S2.read sU hMR k3 r3;have O3:w3.ownsRow (w.heap.size+1) 3 1 (.slice oa out.length oc) out.length (vals out):=r8 O2 (fun g hg=>k3.block g (O2.lt g hg).2 (fun e=>by have:=(O2.lt g hg).1;omega));have QM:Hid (du.bad=false):=q2;have hp3:=p2;clear S2 O2 k3 r3 bZ q2 p2;by_cases hov:11+t<=N-out.length
      ·have Fv:¬((N:Int)-(out.length:Int)<(11+(t:Int))):=by omega
       have QN:(11+(t:Int))<=(N:Int)-(out.length:Int):=by omega
       have hd:decide ((N:Int)-(out.length:Int)<(11+(t:Int)))=false:=by simp;omega
       go_wp2
       go_loopw [7,55] (fun v i wr=>∃j:Nat,j<=11+t/\i=.int .i64 j/\wr.ownsRow (w.heap.size+1) 3 1 v (out.length+j) (vals (out++List.replicate j 0))/\Sl w wr s R du.pos M sh lo ls) (fun _ i _=>11+t-(intOf i).toNat)
       case atStart=>exact⟨0,Nat.zero_le _,rfl,by simpa using O3,S3⟩
       case round =>
        clear S3 O3;obtain⟨j,hj,rfl,hown,S4⟩:=hrel;by_cases hjt:j<11+t
        ·have QO:(j:Int)<(11+(t:Int)):=by omega
         go_wp2_with (at_builtin;refine wpList_append_own _ rfl _ _ 24 rfl (w.heap.size+1) 3 i0 (.int .i64 0) 1 8 Tryz.underlying24 hi hz0 hz1 hz2 rfl (by decide) _ _ _ rfl (hown.alloc _) ⟨wr.heap.size,0,none⟩ 1 1 [.int .i64 0] rfl rfl (cell_one_new _ _ _) (by intro u hu;simp at hu;subst hu;rfl) (by unfold maxLen;omega) (by omega) (by have:=S4.kp.size;have:=lt_of_block S4.bx;simp;omega) ?_;intro v' w5 hown' hgrow _)
         have R5:w5.ownsRow (w.heap.size+1) 3 1 v' (out.length+(j+1)) (vals (out++List.replicate (j+1) 0))/\Sl w w5 s R du.pos M sh lo ls:=by
          refine⟨?_,S4.grow sU uZ _ hown hgrow⟩;rw[nE];exact hown'
         clear hown' hgrow hown S4;go_wp2
         go_roundw
         case rel=>exact⟨j+1,by omega,by go_num,R5.1,R5.2⟩
         case measure=>simp[intOf];omega
        ·have BX:j=11+t:=by omega
         subst BX;have hjn:¬(((11+t:Nat):Int)<(11+(t:Int))):=by omega
         obtain⟨Pf,Ph,rfl⟩:=aQ hown
         have O5:Hid (wr.ownsRow (w.heap.size+1) 3 1 (.slice Pf (out.length+(11+t)) Ph) (out++List.replicate (11+t) 0).length (vals (out++List.replicate (11+t) 0))):=by
          show wr.ownsRow _ _ _ _ _ _;rw[List.length_append,List.length_replicate];exact hown
         clear hown;go_wp2
         go_roundw
         case rel=>exact⟨f,out++List.replicate (11+t) 0,du,O5.out,by rw[List.length_append,List.length_replicate];omega,S4,QM,hp3,HX,by rw[List.length_append,List.length_replicate];omega⟩
         case measure=>simp[IB]<;>omega
      ·have Fv:(N:Int)-(out.length:Int)<(11+(t:Int)):=by omega
       go_wp2;have e:RES=(out++List.replicate (11+t) 0,du):=by rw[HX.out];exact pq _ _ _ _ _ _ _ (by rw[List.length_append,List.length_replicate];omega)
       exact⟨rfl,.inr ⟨Pe.out (.inr (by rw[e];simp;omega)),rfl,S3.kp⟩⟩
end Go.Proofs.YtmfijackgekioaaGreatDoor
