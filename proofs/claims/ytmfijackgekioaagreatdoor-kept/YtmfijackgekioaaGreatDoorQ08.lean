import Derived.Test.YtmfijackgekioaaGreatDoorQ07
import Derived.Laws.BytesArg
import Derived.Laws.IdiomStrings
import Derived.Laws.EntriesVeiled
set_option maxHeartbeats 8000000
set_option maxRecDepth 100000
namespace Go.Proofs.YtmfijackgekioaaGreatDoor
open Go.RowKit Go.Maps
theorem QP (L:List Int)(limit:Int)(st:Rf.St)(H D:Int×Rf.St)(Q A:List Int×Rf.St)(hH:H=Rf.take L st 5)(hD:D=Rf.take L H.2 5)(hQ:Q=Rf.ia L ((Rf.take L D.2 4).1.toNat+4) 0 (List.replicate 19 0) (Rf.take L D.2 4).2)(hA:A=Rf.listed L Q.1 (H.1+D.1+258).toNat Q.2): Rf.own L limit st=if Q.2.bad=true\/29<H.1\/29<D.1\/Rf.full Q.1=false then { Q.2 with bad:=true } else if A.2.bad=true then A.2 else if Rf.iX (A.1.take (H.1.toNat+257)) (A.1.drop (H.1.toNat+257))=true then { A.2 with bad:=true } else Rf.symbols L limit (A.1.take (H.1.toNat+257)) (A.1.drop (H.1.toNat+257)) A.2:=by
 subst hH hD hQ hA;rfl
theorem zo (l far:List Int):Rf.iX l far=(decide (l.getD 256 0=0)||!Rf.full l||!ou far):=by
 unfold Rf.iX ou;rw[Bool.not_not]
theorem QQ (far:List Int)(h0:∀j,0<=far.getD j 0)(k:Nat):(Rf.fs far k:Int)<=16384*Rf.eQ far k:=by
 induction k with
 | zero=>simp[Rf.fs,Rf.eQ]
 | succ k ih =>
  have:=h0 k;simp only[Rf.fs,Rf.eQ];split
  ·rename_i hz
   have e:32768/2^(far.getD k 0).toNat<=16384:=by
    have h2:2<=2^(far.getD k 0).toNat:=by
     have:=Nat.pow_le_pow_right (n:=2) (by omega) (show 1<=(far.getD k 0).toNat by omega);simpa using this
    exact Nat.le_trans (Nat.div_le_div_left h2 (by omega)) (by omega)
   omega
  ·omega
theorem Fw (far:List Int)(h0:∀j,0<=far.getD j 0)(h:ou far=true):Rf.fs far far.length<=32768:=by
 by_cases hf:Rf.full far=true
 ·have h9:decide (Rf.fs far far.length=32768)=true:=hf;have:=of_decide_eq_true h9;omega
 ·have hs:=QQ far h0 far.length;have hf2:Rf.full far=false:=by cases h9:Rf.full far<;>simp_all
  unfold ou at h;rw[hf2]at h;simp at h;rcases h with h|h<;>omega
theorem zp (L:List Int)(f i:Nat)(ls:List Int)(st:Rf.St)(h0:st.bad=true):(Rf.ia L f i ls st).2.bad=true:=by
 cases f with
 | zero=>exact h0
 | succ f=>rw[Rf.ia,if_pos h0];exact h0
theorem kI (L:List Int)(st:Rf.St)(n:Nat)(h:st.bad=true):(Rf.take L st n).2.bad=true:=by
 cases hc:(Rf.take L st n).2.bad
 ·have:=Rf.ew L st n hc;rw[h]at this;exact absurd this.2 (by decide)
 ·rfl
theorem nF (L:List Int):∀(f i:Nat) (ls:List Int) (st:Rf.St),(Rf.ia L f i ls st).2.full=st.full/\(Rf.ia L f i ls st).2.out=st.out/\(st.pos<=L.length->(Rf.ia L f i ls st).2.pos<=L.length)
 | 0,_,_,_=>⟨rfl,rfl,id⟩
 | f+1,i,ls,st=>by
  rw[Rf.ia];split
  ·exact⟨rfl,rfl,id⟩
  ·have h:=nF L f (i+1) (ls.set (Rf.order.getD i 0) (Rf.take L st 3).1) (Rf.take L st 3).2;have t:=Rf.aX L st 3;exact⟨h.1.trans t.2.2,h.2.1.trans t.1,fun hp=>h.2.2 (Rf.cy L st 3 hp)⟩
theorem mF (L ls cd:List Int)(n:Nat):∀(f:Nat) (out:List Int) (st:Rf.St),(Rf.mc L ls cd n f out st).2.full=st.full/\(st.pos<=L.length->(Rf.mc L ls cd n f out st).2.pos<=L.length)
 | 0,_,_=>⟨rfl,id⟩
 | f+1,out,st=>by
  have so:=Rf.fF L ls cd st;have sl:st.pos<=L.length->(Rf.symbol L ls cd st).2.pos<=L.length:=Rf.o7 L ls cd 15 0 0 st;have t2:=fun k=>Rf.aX L (Rf.symbol L ls cd st).2 k;have tp:=fun k hp=>Rf.cy L (Rf.symbol L ls cd st).2 k (sl hp);simp only[Rf.mc];split
  ·exact⟨rfl,id⟩
  ·split
   ·exact⟨so.2.2,sl⟩
   ·split
    ·have h:=mF L ls cd n f (out++[(Rf.symbol L ls cd st).1]) (Rf.symbol L ls cd st).2;exact⟨h.1.trans so.2.2,fun hp=>h.2 (sl hp)⟩
    ·split
     ·split
      ·exact⟨(t2 2).2.2.trans so.2.2,fun hp=>tp 2 hp⟩
      ·have h:=mF L ls cd n f (out++List.replicate (3+(Rf.take L (Rf.symbol L ls cd st).2 2).1.toNat) (out.getD (out.length-1) 0)) (Rf.take L (Rf.symbol L ls cd st).2 2).2;exact⟨h.1.trans ((t2 2).2.2.trans so.2.2),fun hp=>h.2 (tp 2 hp)⟩
     ·split
      ·have h:=mF L ls cd n f (out++List.replicate (3+(Rf.take L (Rf.symbol L ls cd st).2 3).1.toNat) 0) (Rf.take L (Rf.symbol L ls cd st).2 3).2;exact⟨h.1.trans ((t2 3).2.2.trans so.2.2),fun hp=>h.2 (tp 3 hp)⟩
      ·have h:=mF L ls cd n f (out++List.replicate (11+(Rf.take L (Rf.symbol L ls cd st).2 7).1.toNat) 0) (Rf.take L (Rf.symbol L ls cd st).2 7).2;exact⟨h.1.trans ((t2 7).2.2.trans so.2.2),fun hp=>h.2 (tp 7 hp)⟩
theorem zq (L ls:List Int)(n:Nat)(st:Rf.St):(Rf.listed L ls n st).2.full=st.full/\(st.pos<=L.length->(Rf.listed L ls n st).2.pos<=L.length):=by
 have h:=mF L ls (Rf.codes ls) n (n+1) [] st;show (if _ then _ else _:List Int×Rf.St).2.full=st.full/\(_->(if _ then _ else _:List Int×Rf.St).2.pos<=_)
 split
 ·exact h
 ·exact h
theorem Jh (s:ByteArray)(R:Nat)(limit:Int)(st:Rf.St)(w:World)(hr:Rd w R s st.pos)(hs:s.size<=5000000)(hp:st.pos<=8*s.size)(hb:st.bad=false)(hf:st.full=false): Calls Tryz.prog 122 #[.pointer (some ⟨R,0,none⟩)] w fun e w' =>
   (∃M1 s1 l1 M2 s2 l2 ls far st2,Rf.own (lw s) limit st=Rf.symbols (lw s) limit ls far st2/\st2.bad=false/\st2.full=false/\st2.out=st.out/\st2.pos<=8*s.size/\st.pos<=st2.pos/\far.length<=30/\e=.returned (I5 M1 s1 l1 M2 s2 l2) /\
    jT w' M1 s1 l1 ls/\jT w' M2 s2 l2 far/\w.heap.size<=M1/\w.heap.size<=M2/\Rd w' R s st2.pos/\Kp (·=R) w w') \/
   ((Rf.own (lw s) limit st).bad=true/\(Rf.own (lw s) limit st).full=false/\e=dies 6/\Kp (·=R) w w'):=by
 have sU:=lt_of_block hr;have hown:=QP (lw s) limit st;obtain⟨OW,hOW⟩:∃OW,OW=Rf.own (lw s) limit st:=⟨_,rfl⟩
 rw[<-hOW]at hown ⊢;clear hOW;have h1r:=(am hr (.cells fj 166))
 have Zm:Hid ((w.alloc (.cells fj 166)).heap[w.heap.size]?=some (.cells fj 166 (0,0))):=ah w _;have K1:Kp (·=R) w (w.alloc (.cells fj 166)):=(Kp.refl _ w).alloc _
 go_enter Tryz.func122,Tryz.ntmps122
 go_wp2_with fail;refine (dF 5 s R st _ h1r hs hp hb (by omega)).mono ?_;have g1:=Rf.take_range (cC s) st 5;have o1:=Rf.aX (lw s) st 5;have p1:=Rf.cy (lw s) st 5 (by rw[au];exact hp);have mo1:=Rf.eL (lw s) st 5;have hown1:=fun D Q A=>hown (Rf.take (lw s) st 5) D Q A rfl;generalize Rf.take (lw s) st 5=H at *;obtain⟨hh,st1⟩:=H;simp only at g1 o1 p1 mo1 hown1;rw[au]at p1;rintro e w2 (⟨q1,rfl,r2,k2⟩|⟨q1,rfl,k2⟩)
 case inr =>
  go_wp2;have e1:=hown1 _ _ _ rfl rfl rfl;rw[if_pos (.inl (zp _ _ _ _ _ (kI _ _ _ (kI _ _ _ q1))))]at e1
  have ff:OW.full=false:=by
   rw[e1];show (Rf.ia _ _ _ _ _).2.full=false;rw[(nF _ _ _ _ _).1,(Rf.aX _ _ _).2.2,(Rf.aX _ _ _).2.2,o1.2.2];exact hf
  exact⟨rfl,.inr ⟨by rw[e1],ff,rfl,K1.trans k2⟩⟩
 case inl =>
 have K2:=K1.trans k2;have HR2:Hid (w2.heap[w.heap.size]?=some (.cells fj 166 (0,0))):=(k2.block _ (lt_of_block Zm.out) (by omega)).trans Zm.out;obtain⟨h,rfl⟩:∃h:Nat,hh=(h:Int):=⟨hh.toNat,by omega⟩
 have ae4:h<32:=by have:=g1.2;omega
 clear k2 K1 Zm h1r hown g1;go_wp2_with fail;refine (dF 5 s R st1 _ r2 hs p1 q1 (by omega)).mono ?_;have g2:=Rf.take_range (cC s) st1 5;have o2:=Rf.aX (lw s) st1 5;have p2:=Rf.cy (lw s) st1 5 (by rw[au];exact p1);have mo2:=Rf.eL (lw s) st1 5;have hown2:=fun Q A=>hown1 (Rf.take (lw s) st1 5) Q A rfl;generalize Rf.take (lw s) st1 5=D at *;obtain⟨dd,st2⟩:=D;simp only at g2 o2 p2 mo2 hown2;rw[au]at p2;rintro e w3 (⟨q2,rfl,r3,k3⟩|⟨q2,rfl,k3⟩)
 case inr =>
  go_wp2;have e1:=hown2 _ _ rfl rfl;rw[if_pos (.inl (zp _ _ _ _ _ (kI _ _ _ q2)))]at e1
  have ff:OW.full=false:=by
   rw[e1];show (Rf.ia _ _ _ _ _).2.full=false;rw[(nF _ _ _ _ _).1,(Rf.aX _ _ _).2.2,o2.2.2,o1.2.2];exact hf
  exact⟨rfl,.inr ⟨by rw[e1],ff,rfl,K2.trans k3⟩⟩
 case inl =>
 have K3:=K2.trans k3;have HR3:Hid (w3.heap[w.heap.size]?=some (.cells fj 166 (0,0))):=(k3.block _ (lt_of_block HR2.out) (by omega)).trans HR2.out;obtain⟨d,rfl⟩:∃d:Nat,dd=(d:Int):=⟨dd.toNat,by omega⟩
 have hd32:d<32:=by have:=g2.2;omega
 have ho2:st2.out=st.out:=o2.1.trans o1.1;have hf2:st2.full=false:=o2.2.2.trans (o1.2.2.trans hf);have hm2:st.pos<=st2.pos:=by omega
 obtain⟨Q,hQ⟩:∃Q,Q=Rf.ia (lw s) ((Rf.take (lw s) st2 4).1.toNat+4) 0 (List.replicate 19 0) (Rf.take (lw s) st2 4).2:=⟨_,rfl⟩
 have hown3:=fun A=>hown2 Q A hQ
 have UU:Q.2.full=false/\Q.2.out=st.out/\Q.2.pos<=8*s.size:=by
  have t:=Rf.aX (lw s) st2 4;have l:=nF (lw s) ((Rf.take (lw s) st2 4).1.toNat+4) 0 (List.replicate 19 0) (Rf.take (lw s) st2 4).2;have tp:=Rf.cy (lw s) st2 4 (by rw[au];exact p2);rw[hQ];refine⟨l.1.trans (t.2.2.trans hf2),l.2.1.trans (t.1.trans ho2),?_⟩;have:=l.2.2 tp;rw[au]at this;exact this
 have hQm:st.pos<=Q.2.pos:=by
  have t:=Rf.eL (lw s) st2 4;have l:=(Rf.qg (lw s) ((Rf.take (lw s) st2 4).1.toNat+4) 0 (List.replicate 19 0) (Rf.take (lw s) st2 4).2).1;rw[hQ];omega
 have hQl:Q.1.length=19:=by rw[hQ,Rf.qV];simp
 have htab:=MK s R st2 w3 r3 hs p2 q2 Q hQ;have UV:=lt_of_block r3;clear k3 K2 HR2 r2 r3 hown1 hown2 g2 o1 o2 mo1 mo2 hQ p1 q1
 have FB:Hid (∀A,(Q.2.bad=true\/29<(h:Int)\/29<(d:Int)\/Rf.full Q.1=false)->A=Rf.listed (lw s) Q.1 ((h:Int)+(d:Int)+258).toNat Q.2->OW.bad=true/\OW.full=false):=fun A hc hA=>by
  have e1:=hown3 A hA;rw[if_pos hc]at e1;rw[e1];exact⟨rfl,UU.1⟩
 by_cases h29:29<h
 ·have z1:(286:Int)<(h:Int)+257:=by omega
  have fb:=FB.out _ (.inr (.inl (by omega))) rfl;go_wp2;exact⟨rfl,.inr ⟨fb.1,fb.2,rfl,K3⟩⟩
 ·have z1:¬(286:Int)<(h:Int)+257:=by omega
  by_cases d29:29<d
  ·have z2:(30:Int)<(d:Int)+1:=by omega
   have fb:=FB.out _ (.inr (.inr (.inl (by omega)))) rfl;go_wp2;exact⟨rfl,.inr ⟨fb.1,fb.2,rfl,K3⟩⟩
  ·have z2:¬(30:Int)<(d:Int)+1:=by omega
   go_wp2_with fail;refine htab.mono ?_;rintro e w4 (⟨M,sh,lo,b1,b2,rfl,T4,r4,hM4,k4⟩|⟨hc,rfl,k4⟩)
   case inr =>
    go_wp2;have fb:=FB.out _ (by rcases hc with hc|hc;exact .inl hc;exact .inr (.inr (.inr hc))) rfl;exact⟨rfl,.inr ⟨fb.1,fb.2,rfl,K3.trans k4⟩⟩
   case inl =>
   have K4:=K3.trans k4;have HR4:Hid (w4.heap[w.heap.size]?=some (.cells fj 166 (0,0))):=(k4.block _ (lt_of_block HR3.out) (by omega)).trans HR3.out;obtain⟨N,hN⟩:∃N:Nat,N=h+d+258:=⟨_,rfl⟩
   obtain⟨A,hA⟩:∃A,A=Rf.listed (lw s) Q.1 N Q.2:=⟨_,rfl⟩
   have Ji:=hown3 A (by rw[hA,show ((h:Int)+(d:Int)+258).toNat=N by omega]);rw[if_neg (by rw[b1,b2];simp;omega)]at Ji;have HOW:Hid (OW=_):=Ji;have UW:=QL N s R M sh lo Q.1 Q.2 w4 r4 T4 (by have:=HR3.out;omega) hQl (by omega) hs UU.2.2 b1;rw[<-hA]at UW;have Yi:Rf.dE A.1 15:=by rw[hA];exact Rf.uX (cC s) Q.1 hQl N Q.2
   have MO:A.2.full=false/\A.2.out=st.out/\A.2.pos<=8*s.size/\st.pos<=A.2.pos:=by
    have f1:=zq (lw s) Q.1 N Q.2;have f2:=sP (lw s) Q.1 N Q.2;have f3:=f1.2 (by rw[au];exact UU.2.2);rw[au]at f3;rw[hA];exact⟨f1.1.trans UU.1,f2.1.trans UU.2.1,f3,by omega⟩
   have hAn:A.2.bad=false->A.1.length=N:=by rw[hA];exact sW
   rw[show ((N:Nat):Int)=(h:Int)+257+((d:Int)+1) by omega]at UW;have Jj:=r4;clear htab k4 K3 HR3 hown3 Ji FB T4 r4 UV hA;obtain⟨all,Yj⟩:=A;simp only at UW Yi MO hAn HOW;go_wp2_with fail;refine UW.mono ?_;rintro e w5 (⟨c1,⟨v,rfl,Jk⟩,r5,k5⟩|⟨c1,rfl,k5⟩)
   case inr =>
    go_wp2;rw[if_pos c1]at HOW;exact⟨rfl,.inr ⟨by rw[HOW.out];exact c1,by rw[HOW.out];exact MO.1,rfl,K4.trans k5⟩⟩
   case inl =>
   rw[if_neg (by rw[c1];decide)]at HOW;have K5:=K4.trans k5;have MP:Hid (w5.heap[w.heap.size]?=some (.cells fj 166 (0,0))):=(k5.block _ (lt_of_block HR4.out) (by omega)).trans HR4.out;have hlen:=hAn c1;obtain⟨g,cp,rfl,hg⟩:=yW Jk (by omega);obtain⟨hcp,hcm,hgw⟩:=Ml Jk;obtain⟨F1,F2⟩:=Mk Jk (show g≠R by have:=lt_of_block Jj;omega) (h+257);have QR:Hid (X9 w5 R (some ⟨g,0,none⟩) (all.take (h+257))/\X9 w5 R (some ⟨g,h+257,none⟩) (all.drop (h+257))):=⟨F1,F2⟩
   have QS:=sO Jk 256 (by omega);obtain⟨MQ,Jl⟩:∃x:Int,x=all[256]'(by omega):=⟨_,rfl⟩
   rw[<-Jl]at QS
   have Pj:Hid ((all.take (h+257)).getD 256 0=MQ):=by
    show _=_;rw[Jl,List.getD,List.getElem?_take_of_lt (by omega),List.getElem?_eq_getElem (by omega)];rfl
   clear F1 F2 Jk Jl UW k5 K4 HR4;subst hN;have hl1:(all.take (h+257)).length=h+257:=by rw[List.length_take];omega
   have hl2:(all.drop (h+257)).length=d+1:=by rw[List.length_drop];omega
   have HW1:Hid (Rf.dE (all.take (h+257)) 15/\Rf.dE (all.drop (h+257)) 15):=⟨Rf.yU Yi _ (by omega),Rf.yV Yi _⟩
   simp only[Int.toNat_natCast]at HOW;rw[zo,Pj.out]at HOW;generalize all.take (h+257)=L1 at *;generalize all.drop (h+257)=L2 at *;have y1:(0:Int)<=(h:Int)+257:=by omega
   have y2:(h:Int)+257<=((h+d+258:Nat):Int):=by omega
   have y3:(h:Int)+257<=(cp:Int):=by omega
   have y4:((h+d+258:Nat):Int)<=(cp:Int):=by omega
   have y5:((h:Int)+257).toNat=h+257:=by omega
   have y6:h+d+258-(h+257)=d+1:=by omega
   clear Yi hAn hlen Pj;go_wp2
   go_quiet (fail)
   have K6:=K5.drewN nq;have r6:Rd (w5.drewN nq) R s Yj.pos:=r5;have Zn:Hid ((w5.drewN nq).heap[w.heap.size]?=some (.cells fj 166 (0,0))):=MP.out;have Pn:Hid (Ints (w5.drewN nq) (some ⟨g,0,none⟩) L1/\Ints (w5.drewN nq) (some ⟨g,h+257,none⟩) L2/\g<(w5.drewN nq).heap.size):=⟨QR.out.1.ints,QR.out.2.ints,hgw⟩
   have c6:(w5.drewN nq).cell? ⟨g,256,none⟩=some (.int .i64 MQ):=QS;clear K5 r5 MP QR QS hgw y1 y2 y3 y4 y5 y6 hb;generalize w5.drewN nq=w6 at *;have hrg1:∀j,L1.getD j 0<=15:=fun j=>(HW1.out.1 j).2;have hrg2:∀j,L2.getD j 0<=15:=fun j=>(HW1.out.2 j).2;have hz2:∀j,0<=L2.getD j 0:=fun j=>(HW1.out.2 j).1;generalize cp-(h+257)=c2 at *;by_cases hz:MQ=0
   ·subst hz;simp only[decide_true,Bool.true_or,if_true]at HOW;go_wp2;exact⟨rfl,.inr ⟨by rw[HOW.out],by rw[HOW.out];exact MO.1,rfl,K6⟩⟩
   ·have hz':decide (MQ=0)=false:=by simp[hz]
    rw[hz',Bool.false_or]at HOW;clear hz';go_wp2_with fail;refine (BI (some ⟨g,0,none⟩) cp L1 (h+257) _ hl1 (by omega) Pn.out.1 hrg1).mono ?_;rintro e w7 ⟨rfl,rfl⟩;cases hfl:Rf.full L1
    ·rw[hfl]at HOW;simp only[Bool.not_false,Bool.true_or,if_true]at HOW;go_wp2;exact⟨rfl,.inr ⟨by rw[HOW.out],by rw[HOW.out];exact MO.1,rfl,K6⟩⟩
    ·rw[hfl]at HOW;simp only[Bool.not_true,Bool.false_or]at HOW;go_wp2_with fail;refine (UF (some ⟨g,h+257,none⟩) c2 L2 (d+1) _ hl2 (by omega) Pn.out.2.1 hz2 hrg2).mono ?_;rintro e w8 ⟨rfl,rfl⟩;cases hdo:ou L2
     ·rw[hdo]at HOW;simp only[Bool.not_false,if_true]at HOW;go_wp2;exact⟨rfl,.inr ⟨by rw[HOW.out],by rw[HOW.out];exact MO.1,rfl,K6⟩⟩
     ·rw[hdo]at HOW;simp only[Bool.not_true,Bool.false_eq_true,if_false]at HOW;have fs1:Rf.fs L1 L1.length<=32768:=by have h9:decide (Rf.fs L1 L1.length=32768)=true:=hfl;have:=of_decide_eq_true h9;omega
      have fs2:=Fw L2 hz2 hdo;go_wp2_with fail;refine (i5 (some ⟨g,0,none⟩) cp L1 (h+257) _ hl1 (by omega) Pn.out.1 (fun a e _=>by cases e;exact Pn.out.2.2) hrg1 fs1).mono ?_;rintro e w9 ⟨M1,s1,lo1,rfl,T9,hM9,b9⟩;have ae7:=b9.size;have i2:Ints w9 (some ⟨g,h+257,none⟩) L2:=Pn.out.2.1.below b9 (fun a e _=>by cases e;exact Pn.out.2.2);have Jm:=lt_of_block Zn.out;have hlR:=lt_of_block r6;have Zo:Hid (w9.heap[w.heap.size]?=some (.cells fj 166 (0,0))):=(b9.block _ Jm).trans Zn.out;have r9:Rd w9 R s Yj.pos:=(b9.block R hlR).trans r6;have K9:Kp (·=R) w w9:=K6.trans (Kp.aG b9);go_wp2_with fail;refine (i5 (some ⟨g,h+257,none⟩) c2 L2 (d+1) _ hl2 (by omega) i2 (fun a e _=>by cases e;have:=Pn.out.2.2;show g<_;omega) hrg2 fs2).mono ?_;rintro e Md ⟨M2,s2,lo2,rfl,T10,ae8,b10⟩;have Zp:=lt_of_block Zo.out;have Zq:Hid (Md.heap[w.heap.size]?=some (.cells fj 166 (0,0))):=(b10.block _ Zp).trans Zo.out;have r10:Rd Md R s Yj.pos:=(b10.block R (lt_of_block r9)).trans r9;have K10:Kp (·=R) w Md:=K9.trans (Kp.aG b10);have Fx:Hid (jT Md M1 s1 lo1 L1/\jT Md M2 s2 lo2 L2/\w.heap.size+1<=M1/\w.heap.size+1<=M2):=⟨T9.below b10 T9.lt,T10,by omega,by omega⟩
      obtain⟨v0,v1,v2,v3,v4,v5,vz,vlt⟩:=ox Zq.out;clear b9 b10 T9 T10 i2 Zo r9 K9 r6 K6 Zn Pn c6;go_wp2;have hk:=sg Md w.heap.size
      exact bodyPost_ret (v:=I5 M1 s1 lo1 M2 s2 lo2) (by simp[results,Tryz.results122,go_sem,v0,v1,v2,v3,v4,v5]) rfl
       (.inl ⟨M1,s1,lo1,M2,s2,lo2,L1,L2,Yj,HOW.out,c1,MO.1,MO.2.1,MO.2.2.1,MO.2.2.2,by rw[hl2];omega,rfl,Fx.out.1.kept (hk _ _ _ _ _ _) (by have:=Fx.out.2.2.1;omega),Fx.out.2.1.kept (hk _ _ _ _ _ _) (by have:=Fx.out.2.2.2;omega),by have:=Fx.out.2.2.1;omega,by have:=Fx.out.2.2.2;omega,r10.kept (hk _ _ _ _ _ _) (by omega),K10.then (hk _ _ _ _ _ _) (fun i h e=>by omega)⟩)
theorem fH {w:World}{base n:Nat}{v:Value}{l:List UInt8}(h:w.ownsRow base 5 1 v n (l.map bU))(hn:l.length=n):(convert 107 9 v).run Tryz.prog w=.ok (.string ⟨l.toArray⟩) w:=by
 subst hn;rcases h.2 with⟨rfl,h0⟩|⟨g,cap,cur,rfl,hb,hg,h1,h2,h3,ht⟩
 ·have e:l=[]:=List.eq_nil_of_length_eq_zero h0;subst e;exact run_convert_bytes_nil (P:=Tryz.prog) w 107 5 Tryz.underlying107 Tryz.underlying5 0 0 9 Tryz.underlying9
 ·refine run_convert_bytes_back (P:=Tryz.prog) w 107 9 5 ⟨g,0,none⟩ cap l Tryz.underlying107 Tryz.underlying5 Tryz.underlying9 (fun j hj=>?_);rw[Addr.add_mid,Nat.zero_add,h.cellAt j (by omega)];simp[hj]
theorem QT (w:World)(a b c d:Array Value)(ta tb tc td:TypeId): ((((w.alloc (.cells a ta)).alloc (.cells b tb)).alloc (.cells c tc)).alloc (.cells d td)).heap.size=w.heap.size+4/\((((w.alloc (.cells a ta)).alloc (.cells b tb)).alloc (.cells c tc)).alloc (.cells d td)).heap[w.heap.size]?=some (.cells a ta (0,0)) /\ ((((w.alloc (.cells a ta)).alloc (.cells b tb)).alloc (.cells c tc)).alloc (.cells d td)).heap[w.heap.size+1]?=some (.cells b tb (0,0))/\((((w.alloc (.cells a ta)).alloc (.cells b tb)).alloc (.cells c tc)).alloc (.cells d td)).heap[w.heap.size+3]?=some (.cells d td (0,0)) /\ Below w.heap.size w ((((w.alloc (.cells a ta)).alloc (.cells b tb)).alloc (.cells c tc)).alloc (.cells d td)):=by
 refine⟨by simp,am (am (am (ah w _) _) _) _,?_,?_,((((Below.refl _ _).alloc (Nat.le_refl _) _).alloc (by simp) _).alloc (by simp;omega) _).alloc (by simp;omega) _⟩
 ·have h:=ah (w.alloc (.cells a ta)) (.cells b tb);rw[World.size_alloc]at h;exact am (am h _) _
 ·have h:=ah (((w.alloc (.cells a ta)).alloc (.cells b tb)).alloc (.cells c tc)) (.cells d td);rw[World.size_alloc,World.size_alloc,World.size_alloc]at h;exact h
theorem MR (p:Addr)(lim:Int)(w:World): Calls Tryz.prog 116 #[.pointer (some p),.int .i64 lim] w fun e w'=>e=.returned (.agg #[.func (.func 152) #[] #[.pointer (some ⟨w.heap.size+1,0,none⟩),.pointer (some ⟨w.heap.size,0,none⟩)], .func (.func 153) #[] #[.pointer (some ⟨w.heap.size+3,0,none⟩),.pointer (some ⟨w.heap.size,0,none⟩)],.func (.func 154) #[] #[.pointer (some ⟨w.heap.size,0,none⟩),.pointer (some ⟨w.heap.size+3,0,none⟩)]]) /\ w'.heap.size=w.heap.size+4/\w'.heap[w.heap.size]?=some (.cells #[.pointer (some p)] 156 (0,0)) /\ w'.heap[w.heap.size+1]?=some (.cells #[.int .i64 lim] 3 (0,0))/\w'.heap[w.heap.size+3]?=some (.cells #[.func (.func 152) #[] #[.pointer (some ⟨w.heap.size+1,0,none⟩),.pointer (some ⟨w.heap.size,0,none⟩)]] 150 (0,0))/\Below w.heap.size w w':=by
 have TC:∀(fn:Fn) (first cap:Array Value) (w:World),(Instr.makeFunc fn first cap).run Tryz.prog w=.ok (.func fn first cap) w:=fun _ _ _ _=>rfl
 go_enter Tryz.func116,Tryz.ntmps116
 go_wp2
 have h4:=QT w #[.pointer (some p)] #[.int .i64 lim] #[.func (.func 152) #[] #[.pointer (some ⟨w.heap.size+1,0,none⟩),.pointer (some ⟨w.heap.size,0,none⟩)],
    .func (.func 153) #[] #[.pointer (some ⟨w.heap.size+3,0,none⟩),.pointer (some ⟨w.heap.size,0,none⟩)],.func (.func 154) #[] #[.pointer (some ⟨w.heap.size,0,none⟩),.pointer (some ⟨w.heap.size+3,0,none⟩)]]
    #[.func (.func 152) #[] #[.pointer (some ⟨w.heap.size+1,0,none⟩),.pointer (some ⟨w.heap.size,0,none⟩)]] 156 3 154 150
 exact bodyPost_ret (v:=.agg #[.func (.func 152) #[] #[.pointer (some ⟨w.heap.size+1,0,none⟩),.pointer (some ⟨w.heap.size,0,none⟩)],
    .func (.func 153) #[] #[.pointer (some ⟨w.heap.size+3,0,none⟩),.pointer (some ⟨w.heap.size,0,none⟩)],.func (.func 154) #[] #[.pointer (some ⟨w.heap.size,0,none⟩),.pointer (some ⟨w.heap.size+3,0,none⟩)]])
  (by simp[results,Tryz.results116,go_sem]) rfl ⟨rfl,h4⟩
theorem QU (R:Nat)(lim:Int)(w:World)(hw:w.heap.size=R+2): Calls Tryz.prog 116 #[.pointer (some ⟨R+1,0,none⟩),.int .i64 lim] w fun e w'=>e=.returned (I8 R)/\w'.heap.size=R+6/\w'.heap[R+2]?=some (.cells #[.pointer (some ⟨R+1,0,none⟩)] 156 (0,0)) /\ w'.heap[R+3]?=some (.cells #[.int .i64 lim] 3 (0,0))/\w'.heap[R+5]?=some (.cells #[qW R] 150 (0,0))/\Below (R+2) w w':=by
 have h:=MR ⟨R+1,0,none⟩ lim w;rw[hw]at h;exact h
theorem xr.kept {w w':World}{b R:Nat}(h:xr w b)(hb:R+5<b)(F:jH R w w'):xr w' b:=by
 have e:∀k,R+5<k->k<w.heap.size->(∀c fr,w.heap[k]?≠some (.cells c 5 fr))->w'.heap[k]?=w.heap[k]?:=fun k h1 h2 h3=>F.other k h2 (by omega) (by omega) h3;refine⟨(e b hb (lt_of_block h.f) (fun c fr=>by rw[h.f];simp)).trans h.f,?_⟩;rcases h.ex with⟨g1,g2⟩|⟨M1,s1,l1,M2,s2,l2,g1,g2,T1,T2,m1,m2⟩
 ·exact .inl ⟨(e _ (by omega) (lt_of_block g1) (fun c fr=>by rw[g1];simp)).trans g1,(e _ (by omega) (lt_of_block g2) (fun c fr=>by rw[g2];simp)).trans g2⟩
 ·exact .inr ⟨M1,s1,l1,M2,s2,l2,(e _ (by omega) (lt_of_block g1) (fun c fr=>by rw[g1];simp)).trans g1,(e _ (by omega) (lt_of_block g2) (fun c fr=>by rw[g2];simp)).trans g2,T1.of (e _ (by omega) T1.lt T1.pm),T2.of (e _ (by omega) T2.lt T2.pm),m1,m2⟩
theorem Pg.once {w w':World}{s:ByteArray}{R b:Nat}{limit:Int}{st:Rf.St}{ov:Value}(h:Pg w s R limit st ov)(hb:R+5<b)(k:Kp (fun k=>k=b+1\/k=b+2) w w')(hno:∀g,ov.ownBlock=some g->g≠b+1/\g≠b+2):Pg w' s R limit st ov:=by
 have hlt:=h.lt;have e:∀j,j<=R+5->w'.heap[j]?=w.heap[j]?:=fun j hj=>k.block j (by omega) (by omega);exact⟨(e R (by omega)).trans h.rd,(e _ (by omega)).trans h.o,(e _ (by omega)).trans h.p,(e _ (by omega)).trans h.l,(e _ (by omega)).trans h.n,zi h.ho (fun g hg=>k.block g (h.ho.lt g hg).2 (by have:=hno g hg;omega)),h.hp,h.hs,h.hl,h.hol,h.nb,h.nf⟩
theorem Pg.Jn {w:World}{s:ByteArray}{R:Nat}{limit:Int}{st:Rf.St}{ov:Value}(h:Pg w s R limit st ov){k:Nat}(hk:∀c fr,w.heap[k]?≠some (.cells c 5 fr)):∀g,ov.ownBlock=some g->g≠k:=by
 intro g hg e;subst e;obtain⟨cur,q⟩:=iZ h.ho g hg;exact hk _ _ q
end Go.Proofs.YtmfijackgekioaaGreatDoor
