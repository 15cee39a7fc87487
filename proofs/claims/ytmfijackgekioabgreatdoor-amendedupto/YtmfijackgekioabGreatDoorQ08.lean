import Derived.Test.YtmfijackgekioabGreatDoorQ07
import Derived.Laws.BytesArg
import Derived.Laws.IdiomStrings
import Derived.Laws.EntriesVeiled
set_option maxHeartbeats 8000000
set_option maxRecDepth 100000
namespace Go.Proofs.YtmfijackgekioabGreatDoor
open Go.RowKit Go.Maps
theorem Ro (L:List Int)(limit:Int)(st:Rf.St)(H D:Int×Rf.St)(Q A:List Int×Rf.St)(hH:H=Rf.take L st 5)(hD:D=Rf.take L H.2 5)(hQ:Q=Rf.ik L ((Rf.take L D.2 4).1.toNat+4) 0 (List.replicate 19 0) (Rf.take L D.2 4).2)(hA:A=Rf.listed L Q.1 (H.1+D.1+258).toNat Q.2): Rf.own L limit st=if Q.2.bad=true\/29<H.1\/29<D.1\/Rf.full Q.1=false then { Q.2 with bad:=true } else if A.2.bad=true then A.2 else if Rf.jb (A.1.take (H.1.toNat+257)) (A.1.drop (H.1.toNat+257))=true then { A.2 with bad:=true } else Rf.symbols L limit (A.1.take (H.1.toNat+257)) (A.1.drop (H.1.toNat+257)) A.2:=by
 subst hH hD hQ hA;rfl
theorem zQ (l far:List Int):Rf.jb l far=(decide (l.getD 256 0=0)||!Rf.full l||!oJ far):=by
 unfold Rf.jb oJ;rw[Bool.not_not]
theorem Rp (far:List Int)(h0:∀j,0<=far.getD j 0)(k:Nat):(Rf.fs far k:Int)<=16384*Rf.fc far k:=by
 induction k with
 | zero=>simp[Rf.fs,Rf.fc]
 | succ k ih =>
  have:=h0 k;simp only[Rf.fs,Rf.fc];split
  ·rename_i hz
   have e:32768/2^(far.getD k 0).toNat<=16384:=by
    have h2:2<=2^(far.getD k 0).toNat:=by
     have:=abs (n:=2) (by omega) (show 1<=(far.getD k 0).toNat by omega);simpa using this
    exact abe (Nat.div_le_div_left h2 (by omega)) (by omega)
   omega
  ·omega
theorem Gd (far:List Int)(h0:∀j,0<=far.getD j 0)(h:oJ far=true):Rf.fs far far.length<=32768:=by
 by_cases hf:Rf.full far=true
 ·have h9:decide (Rf.fs far far.length=32768)=true:=hf;have:=of_decide_eq_true h9;omega
 ·have hs:=Rp far h0 far.length;have hf2:Rf.full far=false:=by cases h9:Rf.full far<;>simp_all
  unfold oJ at h;rw[hf2]at h;simp at h;rcases h with h|h<;>omega
theorem zR (L:List Int)(f i:Nat)(ls:List Int)(st:Rf.St)(h0:st.bad=true):(Rf.ik L f i ls st).2.bad=true:=by
 cases f with
 | zero=>exact h0
 | succ f=>rw[Rf.ik,aaj h0];exact h0
theorem kX (L:List Int)(st:Rf.St)(n:Nat)(h:st.bad=true):(Rf.take L st n).2.bad=true:=by
 cases hc:(Rf.take L st n).2.bad
 ·have:=Rf.eH L st n hc;rw[h]at this;exact absurd this.2 (by decide)
 ·rfl
theorem nM (L:List Int):∀(f i:Nat) (ls:List Int) (st:Rf.St),(Rf.ik L f i ls st).2.full=st.full/\(Rf.ik L f i ls st).2.out=st.out/\(st.pos<=L.length->(Rf.ik L f i ls st).2.pos<=L.length)
 | 0,_,_,_=>⟨rfl,rfl,id⟩
 | f+1,i,ls,st=>by
  rw[Rf.ik];split
  ·exact⟨rfl,rfl,id⟩
  ·have h:=nM L f (i+1) (ls.set (Rf.order.getD i 0) (Rf.take L st 3).1) (Rf.take L st 3).2;have t:=Rf.aZ L st 3;exact⟨h.1.trans t.2.2,h.2.1.trans t.1,fun hp=>h.2.2 (Rf.cO L st 3 hp)⟩
theorem mN (L ls cd:List Int)(n:Nat):∀(f:Nat) (out:List Int) (st:Rf.St),(Rf.mr L ls cd n f out st).2.full=st.full/\(st.pos<=L.length->(Rf.mr L ls cd n f out st).2.pos<=L.length)
 | 0,_,_=>⟨rfl,id⟩
 | f+1,out,st=>by
  have so:=Rf.fK L ls cd st;have sl:st.pos<=L.length->(Rf.symbol L ls cd st).2.pos<=L.length:=Rf.px L ls cd 15 0 0 st;have t2:=fun k=>Rf.aZ L (Rf.symbol L ls cd st).2 k;have tp:=fun k hp=>Rf.cO L (Rf.symbol L ls cd st).2 k (sl hp);simp only[Rf.mr];split
  ·exact⟨rfl,id⟩
  ·split
   ·exact⟨so.2.2,sl⟩
   ·split
    ·have h:=mN L ls cd n f (out++[(Rf.symbol L ls cd st).1]) (Rf.symbol L ls cd st).2;exact⟨h.1.trans so.2.2,fun hp=>h.2 (sl hp)⟩
    ·split
     ·split
      ·exact⟨(t2 2).2.2.trans so.2.2,fun hp=>tp 2 hp⟩
      ·have h:=mN L ls cd n f (out++List.replicate (3+(Rf.take L (Rf.symbol L ls cd st).2 2).1.toNat) (out.getD (out.length-1) 0)) (Rf.take L (Rf.symbol L ls cd st).2 2).2;exact⟨h.1.trans ((t2 2).2.2.trans so.2.2),fun hp=>h.2 (tp 2 hp)⟩
     ·split
      ·have h:=mN L ls cd n f (out++List.replicate (3+(Rf.take L (Rf.symbol L ls cd st).2 3).1.toNat) 0) (Rf.take L (Rf.symbol L ls cd st).2 3).2;exact⟨h.1.trans ((t2 3).2.2.trans so.2.2),fun hp=>h.2 (tp 3 hp)⟩
      ·have h:=mN L ls cd n f (out++List.replicate (11+(Rf.take L (Rf.symbol L ls cd st).2 7).1.toNat) 0) (Rf.take L (Rf.symbol L ls cd st).2 7).2;exact⟨h.1.trans ((t2 7).2.2.trans so.2.2),fun hp=>h.2 (tp 7 hp)⟩
theorem zT (L ls:List Int)(n:Nat)(st:Rf.St):(Rf.listed L ls n st).2.full=st.full/\(st.pos<=L.length->(Rf.listed L ls n st).2.pos<=L.length):=by
 have h:=mN L ls (Rf.codes ls) n (n+1) [] st;show (if _ then _ else _:List Int×Rf.St).2.full=st.full/\(_->(if _ then _ else _:List Int×Rf.St).2.pos<=_)
 split
 ·exact h
 ·exact h
theorem JM (s:ByteArray)(R:Nat)(limit:Int)(st:Rf.St)(w:World)(hr:Rd w R s st.pos)(hs:s.size<=5000000)(hp:st.pos<=8*s.size)(hb:st.bad=false)(hf:st.full=false): Calls Tryz.prog 76 #[.pointer (some ⟨R,0,none⟩)] w fun e w' =>
   (∃M1 s1 l1 M2 s2 l2 ls far st2,Rf.own (lw s) limit st=Rf.symbols (lw s) limit ls far st2/\st2.bad=false/\st2.full=false/\st2.out=st.out/\st2.pos<=8*s.size/\st.pos<=st2.pos/\far.length<=30/\e=.returned (JA M1 s1 l1 M2 s2 l2) /\
    j0 w' M1 s1 l1 ls/\j0 w' M2 s2 l2 far/\w.heap.size<=M1/\w.heap.size<=M2/\Rd w' R s st2.pos/\Kp (·=R) w w') \/
   ((Rf.own (lw s) limit st).bad=true/\(Rf.own (lw s) limit st).full=false/\e=dies 6/\Kp (·=R) w w'):=by
 have tj:=aaa hr;have hown:=Ro (lw s) limit st;obtain⟨OW,hOW⟩:∃OW,OW=Rf.own (lw s) limit st:=⟨_,rfl⟩
 rw[<-hOW]at hown ⊢;clear hOW;have h1r:=(ak hr (.cells fq 123))
 have ZP:Hid ((w.alloc (.cells fq 123)).heap[w.heap.size]?=some (.cells fq 123 (0,0))):=ah w _;have K1:Kp (·=R) w (w.alloc (.cells fq 123)):=(Kp.refl _ w).alloc _
 go_enter Tryz.func76,Tryz.ntmps76
 go_wp2_with fail;refine (dQ 5 s R st _ h1r hs hp hb (by omega)).mono ?_;have g1:=Rf.take_range (cQ s) st 5;have o1:=Rf.aZ (lw s) st 5;have p1:=Rf.cO (lw s) st 5 (by rw[aw];exact hp);have mo1:=Rf.eV (lw s) st 5;have hown1:=fun D Q A=>hown (Rf.take (lw s) st 5) D Q A rfl;generalize Rf.take (lw s) st 5=H at *;obtain⟨hh,st1⟩:=H;simp only at g1 o1 p1 mo1 hown1;rw[aw]at p1;rintro e w2 (⟨q1,rfl,r2,k2⟩|⟨q1,rfl,k2⟩)
 case inr =>
  go_wp2;have e1:=hown1 _ _ _ rfl rfl rfl;rw[aaj (.inl (zR _ _ _ _ _ (kX _ _ _ (kX _ _ _ q1))))]at e1
  have ff:OW.full=false:=by
   rw[e1];show (Rf.ik _ _ _ _ _).2.full=false;rw[(nM _ _ _ _ _).1,(Rf.aZ _ _ _).2.2,(Rf.aZ _ _ _).2.2,o1.2.2];exact hf
  exact⟨rfl,.inr ⟨by rw[e1],ff,rfl,K1.trans k2⟩⟩
 case inl =>
 have K2:=K1.trans k2;have HR2:Hid (w2.heap[w.heap.size]?=some (.cells fq 123 (0,0))):=(k2.block _ (aaa ZP.out) (by omega)).trans ZP.out;obtain⟨h,rfl⟩:∃h:Nat,hh=(h:Int):=⟨hh.toNat,by omega⟩
 have aft:h<32:=by have:=g1.2;omega
 clear k2 K1 ZP h1r hown g1;go_wp2_with fail;refine (dQ 5 s R st1 _ r2 hs p1 q1 (by omega)).mono ?_;have g2:=Rf.take_range (cQ s) st1 5;have o2:=Rf.aZ (lw s) st1 5;have p2:=Rf.cO (lw s) st1 5 (by rw[aw];exact p1);have mo2:=Rf.eV (lw s) st1 5;have hown2:=fun Q A=>hown1 (Rf.take (lw s) st1 5) Q A rfl;generalize Rf.take (lw s) st1 5=D at *;obtain⟨dd,st2⟩:=D;simp only at g2 o2 p2 mo2 hown2;rw[aw]at p2;rintro e w3 (⟨q2,rfl,r3,k3⟩|⟨q2,rfl,k3⟩)
 case inr =>
  go_wp2;have e1:=hown2 _ _ rfl rfl;rw[aaj (.inl (zR _ _ _ _ _ (kX _ _ _ q2)))]at e1
  have ff:OW.full=false:=by
   rw[e1];show (Rf.ik _ _ _ _ _).2.full=false;rw[(nM _ _ _ _ _).1,(Rf.aZ _ _ _).2.2,o2.2.2,o1.2.2];exact hf
  exact⟨rfl,.inr ⟨by rw[e1],ff,rfl,K2.trans k3⟩⟩
 case inl =>
 have K3:=K2.trans k3;have HR3:Hid (w3.heap[w.heap.size]?=some (.cells fq 123 (0,0))):=(k3.block _ (aaa HR2.out) (by omega)).trans HR2.out;obtain⟨d,rfl⟩:∃d:Nat,dd=(d:Int):=⟨dd.toNat,by omega⟩
 have hd32:d<32:=by have:=g2.2;omega
 have ho2:st2.out=st.out:=o2.1.trans o1.1;have hf2:st2.full=false:=o2.2.2.trans (o1.2.2.trans hf);have hm2:st.pos<=st2.pos:=by omega
 obtain⟨Q,hQ⟩:∃Q,Q=Rf.ik (lw s) ((Rf.take (lw s) st2 4).1.toNat+4) 0 (List.replicate 19 0) (Rf.take (lw s) st2 4).2:=⟨_,rfl⟩
 have hown3:=fun A=>hown2 Q A hQ
 have Vl:Q.2.full=false/\Q.2.out=st.out/\Q.2.pos<=8*s.size:=by
  have t:=Rf.aZ (lw s) st2 4;have l:=nM (lw s) ((Rf.take (lw s) st2 4).1.toNat+4) 0 (List.replicate 19 0) (Rf.take (lw s) st2 4).2;have tp:=Rf.cO (lw s) st2 4 (by rw[aw];exact p2);rw[hQ];refine⟨l.1.trans (t.2.2.trans hf2),l.2.1.trans (t.1.trans ho2),?_⟩;have:=l.2.2 tp;rw[aw]at this;exact this
 have hQm:st.pos<=Q.2.pos:=by
  have t:=Rf.eV (lw s) st2 4;have l:=(Rf.qm (lw s) ((Rf.take (lw s) st2 4).1.toNat+4) 0 (List.replicate 19 0) (Rf.take (lw s) st2 4).2).1;rw[hQ];omega
 have hQl:Q.1.length=19:=by rw[hQ,Rf.ri];simp
 have htab:=Ng s R st2 w3 r3 hs p2 q2 Q hQ;have Vm:=aaa r3;clear k3 K2 HR2 r2 r3 hown1 hown2 g2 o1 o2 mo1 mo2 hQ p1 q1
 have FB:Hid (∀A,(Q.2.bad=true\/29<(h:Int)\/29<(d:Int)\/Rf.full Q.1=false)->A=Rf.listed (lw s) Q.1 ((h:Int)+(d:Int)+258).toNat Q.2->OW.bad=true/\OW.full=false):=fun A hc hA=>by
  have e1:=hown3 A hA;rw[aaj hc]at e1;rw[e1];exact⟨rfl,Vl.1⟩
 by_cases h29:29<h
 ·have z1:(286:Int)<(h:Int)+257:=by omega
  have fb:=FB.out _ (.inr (.inl (by omega))) rfl;go_wp2;exact⟨rfl,.inr ⟨fb.1,fb.2,rfl,K3⟩⟩
 ·have z1:¬(286:Int)<(h:Int)+257:=by omega
  by_cases d29:29<d
  ·have z2:(30:Int)<(d:Int)+1:=by omega
   have fb:=FB.out _ (.inr (.inr (.inl (by omega)))) rfl;go_wp2;exact⟨rfl,.inr ⟨fb.1,fb.2,rfl,K3⟩⟩
  ·have z2:¬(30:Int)<(d:Int)+1:=by omega
   go_wp2_with fail;refine htab.mono ?_;rintro e w4 (⟨M,sh,lo,b1,b2,rfl,T4,r4,hM4,k4⟩|⟨hc,rfl,k4⟩)
   case inr =>
    go_wp2;have fb:=FB.out _ (by rcases hc with hc|hc;exact .inl hc;exact .inr (.inr (.inr hc))) rfl;exact⟨rfl,.inr ⟨fb.1,fb.2,rfl,K3.trans k4⟩⟩
   case inl =>
   have K4:=K3.trans k4;have HR4:Hid (w4.heap[w.heap.size]?=some (.cells fq 123 (0,0))):=(k4.block _ (aaa HR3.out) (by omega)).trans HR3.out;obtain⟨N,hN⟩:∃N:Nat,N=h+d+258:=⟨_,rfl⟩
   obtain⟨A,hA⟩:∃A,A=Rf.listed (lw s) Q.1 N Q.2:=⟨_,rfl⟩
   have JN:=hown3 A (by rw[hA,show ((h:Int)+(d:Int)+258).toNat=N by omega]);rw[aai (by rw[b1,b2];simp;omega)]at JN;have HOW:Hid (OW=_):=JN;have Rq:=Rk N s R M sh lo Q.1 Q.2 w4 r4 T4 (by have:=HR3.out;omega) hQl (by omega) hs Vl.2.2 b1;rw[<-hA]at Rq;have YH:Rf.dP A.1 15:=by rw[hA];exact Rf.vt (cQ s) Q.1 hQl N Q.2
   have Nj:A.2.full=false/\A.2.out=st.out/\A.2.pos<=8*s.size/\st.pos<=A.2.pos:=by
    have f1:=zT (lw s) Q.1 N Q.2;have f2:=sZ (lw s) Q.1 N Q.2;have f3:=f1.2 (by rw[aw];exact Vl.2.2);rw[aw]at f3;rw[hA];exact⟨f1.1.trans Vl.1,f2.1.trans Vl.2.1,f3,by omega⟩
   have hAn:A.2.bad=false->A.1.length=N:=by rw[hA];exact tm
   rw[show ((N:Nat):Int)=(h:Int)+257+((d:Int)+1) by omega]at Rq;have JO:=r4;clear htab k4 K3 HR3 hown3 JN FB T4 r4 Vm hA;obtain⟨all,YI⟩:=A;simp only at Rq YH Nj hAn HOW;go_wp2_with fail;refine Rq.mono ?_;rintro e w5 (⟨c1,⟨v,rfl,JP⟩,r5,k5⟩|⟨c1,rfl,k5⟩)
   case inr =>
    go_wp2;rw[aaj c1]at HOW;exact⟨rfl,.inr ⟨by rw[HOW.out];exact c1,by rw[HOW.out];exact Nj.1,rfl,K4.trans k5⟩⟩
   case inl =>
   rw[aai (by rw[c1];decide)]at HOW;have K5:=K4.trans k5;have Nk:Hid (w5.heap[w.heap.size]?=some (.cells fq 123 (0,0))):=(k5.block _ (aaa HR4.out) (by omega)).trans HR4.out;have hlen:=hAn c1;obtain⟨g,cp,rfl,hg⟩:=zC JP (by omega);obtain⟨hcp,hcm,hgw⟩:=MQ JP;obtain⟨F1,F2⟩:=MP JP (show g≠R by have:=aaa JO;omega) (h+257);have Rr:Hid (Yy w5 R (some ⟨g,0,none⟩) (all.take (h+257))/\Yy w5 R (some ⟨g,h+257,none⟩) (all.drop (h+257))):=⟨F1,F2⟩
   have Rs:=sY JP 256 (by omega);obtain⟨Nl,JQ⟩:∃x:Int,x=all[256]'(by omega):=⟨_,rfl⟩
   rw[<-JQ]at Rs
   have PQ:Hid ((all.take (h+257)).getD 256 0=Nl):=by
    show _=_;rw[JQ,List.getD,List.getElem?_take_of_lt (by omega),aan (by omega)];rfl
   clear F1 F2 JP JQ Rq k5 K4 HR4;subst hN;have hl1:(all.take (h+257)).length=h+257:=by rw[aa7];omega
   have hl2:(all.drop (h+257)).length=d+1:=by rw[acb];omega
   have HW1:Hid (Rf.dP (all.take (h+257)) 15/\Rf.dP (all.drop (h+257)) 15):=⟨Rf.zA YH _ (by omega),Rf.zB YH _⟩
   simp only[acQ]at HOW;rw[zQ,PQ.out]at HOW;generalize all.take (h+257)=L1 at *;generalize all.drop (h+257)=L2 at *;have y1:(0:Int)<=(h:Int)+257:=by omega
   have y2:(h:Int)+257<=((h+d+258:Nat):Int):=by omega
   have y3:(h:Int)+257<=(cp:Int):=by omega
   have y4:((h+d+258:Nat):Int)<=(cp:Int):=by omega
   have y5:((h:Int)+257).toNat=h+257:=by omega
   have y6:h+d+258-(h+257)=d+1:=by omega
   clear YH hAn hlen PQ;go_wp2
   go_quiet (fail)
   have K6:=K5.drewN nq;have r6:Rd (w5.drewN nq) R s YI.pos:=r5;have ZQ:Hid ((w5.drewN nq).heap[w.heap.size]?=some (.cells fq 123 (0,0))):=Nk.out;have PS:Hid (Ints (w5.drewN nq) (some ⟨g,0,none⟩) L1/\Ints (w5.drewN nq) (some ⟨g,h+257,none⟩) L2/\g<(w5.drewN nq).heap.size):=⟨Rr.out.1.ints,Rr.out.2.ints,hgw⟩
   have c6:(w5.drewN nq).cell? ⟨g,256,none⟩=some (.int .i64 Nl):=Rs;clear K5 r5 Nk Rr Rs hgw y1 y2 y3 y4 y5 y6 hb;generalize w5.drewN nq=w6 at *;have hrg1:∀j,L1.getD j 0<=15:=fun j=>(HW1.out.1 j).2;have hrg2:∀j,L2.getD j 0<=15:=fun j=>(HW1.out.2 j).2;have hz2:∀j,0<=L2.getD j 0:=fun j=>(HW1.out.2 j).1;generalize cp-(h+257)=c2 at *;by_cases hz:Nl=0
   ·subst hz;simp only[decide_true,Bool.true_or,if_true]at HOW;go_wp2;exact⟨rfl,.inr ⟨by rw[HOW.out],by rw[HOW.out];exact Nj.1,rfl,K6⟩⟩
   ·have hz':decide (Nl=0)=false:=by simp[hz]
    rw[hz',Bool.false_or]at HOW;clear hz';go_wp2_with fail;refine (Co (some ⟨g,0,none⟩) cp L1 (h+257) _ hl1 (by omega) PS.out.1 hrg1).mono ?_;rintro e w7 ⟨rfl,rfl⟩;cases hfl:Rf.full L1
    ·rw[hfl]at HOW;simp only[Bool.not_false,Bool.true_or,if_true]at HOW;go_wp2;exact⟨rfl,.inr ⟨by rw[HOW.out],by rw[HOW.out];exact Nj.1,rfl,K6⟩⟩
    ·rw[hfl]at HOW;simp only[Bool.not_true,Bool.false_or]at HOW;go_wp2_with fail;refine (U7 (some ⟨g,h+257,none⟩) c2 L2 (d+1) _ hl2 (by omega) PS.out.2.1 hz2 hrg2).mono ?_;rintro e w8 ⟨rfl,rfl⟩;cases hdo:oJ L2
     ·rw[hdo]at HOW;simp only[Bool.not_false,if_true]at HOW;go_wp2;exact⟨rfl,.inr ⟨by rw[HOW.out],by rw[HOW.out];exact Nj.1,rfl,K6⟩⟩
     ·rw[hdo]at HOW;simp only[Bool.not_true,ace,if_false]at HOW;have fs1:Rf.fs L1 L1.length<=32768:=by have h9:decide (Rf.fs L1 L1.length=32768)=true:=hfl;have:=of_decide_eq_true h9;omega
      have fs2:=Gd L2 hz2 hdo;go_wp2_with fail;refine (je (some ⟨g,0,none⟩) cp L1 (h+257) _ hl1 (by omega) PS.out.1 (fun a e _=>by cases e;exact PS.out.2.2) hrg1 fs1).mono ?_;rintro e w9 ⟨M1,s1,lo1,rfl,T9,hM9,b9⟩;have afx:=b9.size;have i2:Ints w9 (some ⟨g,h+257,none⟩) L2:=PS.out.2.1.below b9 (fun a e _=>by cases e;exact PS.out.2.2);have JR:=aaa ZQ.out;have hlR:=aaa r6;have ZR:Hid (w9.heap[w.heap.size]?=some (.cells fq 123 (0,0))):=(b9.block _ JR).trans ZQ.out;have r9:Rd w9 R s YI.pos:=(b9.block R hlR).trans r6;have K9:Kp (·=R) w w9:=K6.trans (Kp.aF b9);go_wp2_with fail;refine (je (some ⟨g,h+257,none⟩) c2 L2 (d+1) _ hl2 (by omega) i2 (fun a e _=>by cases e;have:=PS.out.2.2;show g<_;omega) hrg2 fs2).mono ?_;rintro e ME ⟨M2,s2,lo2,rfl,T10,afy,b10⟩;have ZS:=aaa ZR.out;have ZT:Hid (ME.heap[w.heap.size]?=some (.cells fq 123 (0,0))):=(b10.block _ ZS).trans ZR.out;have r10:Rd ME R s YI.pos:=(b10.block R (aaa r9)).trans r9;have K10:Kp (·=R) w ME:=K9.trans (Kp.aF b10);have Ge:Hid (j0 ME M1 s1 lo1 L1/\j0 ME M2 s2 lo2 L2/\w.heap.size+1<=M1/\w.heap.size+1<=M2):=⟨T9.below b10 T9.lt,T10,by omega,by omega⟩
      obtain⟨v0,v1,v2,v3,v4,v5,vz,vlt⟩:=oK ZT.out;clear b9 b10 T9 T10 i2 ZR r9 K9 r6 K6 ZQ PS c6;go_wp2;have hk:=sF ME w.heap.size
      exact aaF (v:=JA M1 s1 lo1 M2 s2 lo2) (by simp[results,Tryz.results76,go_sem,v0,v1,v2,v3,v4,v5]) rfl
       (.inl ⟨M1,s1,lo1,M2,s2,lo2,L1,L2,YI,HOW.out,c1,Nj.1,Nj.2.1,Nj.2.2.1,Nj.2.2.2,by rw[hl2];omega,rfl,Ge.out.1.kept (hk _ _ _ _ _ _) (by have:=Ge.out.2.2.1;omega),Ge.out.2.1.kept (hk _ _ _ _ _ _) (by have:=Ge.out.2.2.2;omega),by have:=Ge.out.2.2.1;omega,by have:=Ge.out.2.2.2;omega,r10.kept (hk _ _ _ _ _ _) (by omega),K10.then (hk _ _ _ _ _ _) (fun i h e=>by omega)⟩)
theorem fM {w:World}{base n:Nat}{v:Value}{l:List UInt8}(h:w.ownsRow base 5 1 v n (l.map cm))(hn:l.length=n):(convert 36 9 v).run Tryz.prog w=.ok (.string ⟨l.toArray⟩) w:=by
 subst hn;rcases h.2 with⟨rfl,h0⟩|⟨g,cap,cur,rfl,hb,hg,h1,h2,h3,ht⟩
 ·have e:l=[]:=aaG h0;subst e;exact run_convert_bytes_nil (P:=Tryz.prog) w 36 5 Tryz.underlying36 Tryz.underlying5 0 0 9 Tryz.underlying9
 ·refine run_convert_bytes_back (P:=Tryz.prog) w 36 9 5 ⟨g,0,none⟩ cap l Tryz.underlying36 Tryz.underlying5 Tryz.underlying9 (fun j hj=>?_);rw[Addr.add_mid,aaO,h.cellAt j (by omega)];simp[hj]
theorem Rt (w:World)(a b c d:Array Value)(ta tb tc td:TypeId): ((((w.alloc (.cells a ta)).alloc (.cells b tb)).alloc (.cells c tc)).alloc (.cells d td)).heap.size=w.heap.size+4/\((((w.alloc (.cells a ta)).alloc (.cells b tb)).alloc (.cells c tc)).alloc (.cells d td)).heap[w.heap.size]?=some (.cells a ta (0,0)) /\ ((((w.alloc (.cells a ta)).alloc (.cells b tb)).alloc (.cells c tc)).alloc (.cells d td)).heap[w.heap.size+1]?=some (.cells b tb (0,0))/\((((w.alloc (.cells a ta)).alloc (.cells b tb)).alloc (.cells c tc)).alloc (.cells d td)).heap[w.heap.size+3]?=some (.cells d td (0,0)) /\ Below w.heap.size w ((((w.alloc (.cells a ta)).alloc (.cells b tb)).alloc (.cells c tc)).alloc (.cells d td)):=by
 refine⟨by simp,ak (ak (ak (ah w _) _) _) _,?_,?_,((((aav _ _).alloc (aah _) _).alloc (by simp) _).alloc (by simp;omega) _).alloc (by simp;omega) _⟩
 ·have h:=ah (w.alloc (.cells a ta)) (.cells b tb);rw[aas]at h;exact ak (ak h _) _
 ·have h:=ah (((w.alloc (.cells a ta)).alloc (.cells b tb)).alloc (.cells c tc)) (.cells d td);rw[aas,aas,aas]at h;exact h
theorem Nm (p:Addr)(lim:Int)(w:World): Calls Tryz.prog 70 #[.pointer (some p),.int .i64 lim] w fun e w'=>e=.returned (.agg #[.func (.func 98) #[] #[.pointer (some ⟨w.heap.size+1,0,none⟩),.pointer (some ⟨w.heap.size,0,none⟩)], .func (.func 99) #[] #[.pointer (some ⟨w.heap.size+3,0,none⟩),.pointer (some ⟨w.heap.size,0,none⟩)],.func (.func 100) #[] #[.pointer (some ⟨w.heap.size,0,none⟩),.pointer (some ⟨w.heap.size+3,0,none⟩)]]) /\ w'.heap.size=w.heap.size+4/\w'.heap[w.heap.size]?=some (.cells #[.pointer (some p)] 113 (0,0)) /\ w'.heap[w.heap.size+1]?=some (.cells #[.int .i64 lim] 3 (0,0))/\w'.heap[w.heap.size+3]?=some (.cells #[.func (.func 98) #[] #[.pointer (some ⟨w.heap.size+1,0,none⟩),.pointer (some ⟨w.heap.size,0,none⟩)]] 98 (0,0))/\Below w.heap.size w w':=by
 have Uf:∀(fn:Fn) (first cap:Array Value) (w:World),(Instr.makeFunc fn first cap).run Tryz.prog w=.ok (.func fn first cap) w:=fun _ _ _ _=>rfl
 go_enter Tryz.func70,Tryz.ntmps70
 go_wp2
 have h4:=Rt w #[.pointer (some p)] #[.int .i64 lim] #[.func (.func 98) #[] #[.pointer (some ⟨w.heap.size+1,0,none⟩),.pointer (some ⟨w.heap.size,0,none⟩)],
    .func (.func 99) #[] #[.pointer (some ⟨w.heap.size+3,0,none⟩),.pointer (some ⟨w.heap.size,0,none⟩)],.func (.func 100) #[] #[.pointer (some ⟨w.heap.size,0,none⟩),.pointer (some ⟨w.heap.size+3,0,none⟩)]]
    #[.func (.func 98) #[] #[.pointer (some ⟨w.heap.size+1,0,none⟩),.pointer (some ⟨w.heap.size,0,none⟩)]] 113 3 111 98
 exact aaF (v:=.agg #[.func (.func 98) #[] #[.pointer (some ⟨w.heap.size+1,0,none⟩),.pointer (some ⟨w.heap.size,0,none⟩)],
    .func (.func 99) #[] #[.pointer (some ⟨w.heap.size+3,0,none⟩),.pointer (some ⟨w.heap.size,0,none⟩)],.func (.func 100) #[] #[.pointer (some ⟨w.heap.size,0,none⟩),.pointer (some ⟨w.heap.size+3,0,none⟩)]])
  (by simp[results,Tryz.results70,go_sem]) rfl ⟨rfl,h4⟩
theorem Ru (R:Nat)(lim:Int)(w:World)(hw:w.heap.size=R+2): Calls Tryz.prog 70 #[.pointer (some ⟨R+1,0,none⟩),.int .i64 lim] w fun e w'=>e=.returned (JD R)/\w'.heap.size=R+6/\w'.heap[R+2]?=some (.cells #[.pointer (some ⟨R+1,0,none⟩)] 113 (0,0)) /\ w'.heap[R+3]?=some (.cells #[.int .i64 lim] 3 (0,0))/\w'.heap[R+5]?=some (.cells #[rj R] 98 (0,0))/\Below (R+2) w w':=by
 have h:=Nm ⟨R+1,0,none⟩ lim w;rw[hw]at h;exact h
theorem xP.kept {w w':World}{b R:Nat}(h:xP w b)(hb:R+5<b)(F:jP R w w'):xP w' b:=by
 have e:∀k,R+5<k->k<w.heap.size->(∀c fr,w.heap[k]?≠some (.cells c 5 fr))->w'.heap[k]?=w.heap[k]?:=fun k h1 h2 h3=>F.other k h2 (by omega) (by omega) h3;refine⟨(e b hb (aaa h.f) (fun c fr=>by rw[h.f];simp)).trans h.f,?_⟩;rcases h.ex with⟨g1,g2⟩|⟨M1,s1,l1,M2,s2,l2,g1,g2,T1,T2,m1,m2⟩
 ·exact .inl ⟨(e _ (by omega) (aaa g1) (fun c fr=>by rw[g1];simp)).trans g1,(e _ (by omega) (aaa g2) (fun c fr=>by rw[g2];simp)).trans g2⟩
 ·exact .inr ⟨M1,s1,l1,M2,s2,l2,(e _ (by omega) (aaa g1) (fun c fr=>by rw[g1];simp)).trans g1,(e _ (by omega) (aaa g2) (fun c fr=>by rw[g2];simp)).trans g2,T1.of (e _ (by omega) T1.lt T1.pE),T2.of (e _ (by omega) T2.lt T2.pE),m1,m2⟩
theorem Pg.once {w w':World}{s:ByteArray}{R b:Nat}{limit:Int}{st:Rf.St}{ov:Value}(h:Pg w s R limit st ov)(hb:R+5<b)(k:Kp (fun k=>k=b+1\/k=b+2) w w')(hno:∀g,ov.ownBlock=some g->g≠b+1/\g≠b+2):Pg w' s R limit st ov:=by
 have hlt:=h.lt;have e:∀j,j<=R+5->w'.heap[j]?=w.heap[j]?:=fun j hj=>k.block j (by omega) (by omega);exact⟨(e R (by omega)).trans h.rd,(e _ (by omega)).trans h.o,(e _ (by omega)).trans h.p,(e _ (by omega)).trans h.l,(e _ (by omega)).trans h.n,zL h.ho (fun g hg=>k.block g (h.ho.lt g hg).2 (by have:=hno g hg;omega)),h.hp,h.hs,h.hl,h.hol,h.nb,h.nf⟩
theorem Pg.JS {w:World}{s:ByteArray}{R:Nat}{limit:Int}{st:Rf.St}{ov:Value}(h:Pg w s R limit st ov){k:Nat}(hk:∀c fr,w.heap[k]?≠some (.cells c 5 fr)):∀g,ov.ownBlock=some g->g≠k:=by
 intro g hg e;subst e;obtain⟨cur,q⟩:=jd h.ho g hg;exact hk _ _ q
end Go.Proofs.YtmfijackgekioabGreatDoor
