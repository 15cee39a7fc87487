import Derived.Test.YtmfijackgekioabGreatDoorQ09
import Derived.Defers
import Derived.Recover
set_option maxHeartbeats 16000000
set_option maxRecDepth 100000
namespace Go.Proofs.YtmfijackgekioabGreatDoor
section
open Go.RowKit Go.Maps
theorem ji (L:List Int)(limit:Int)(f:Nat)(last:Int)(st:Rf.St)(h:last≠0\/(st.bad||st.full)=true):Rf.oU L limit f last st=st:=by
 cases f with
 | zero=>rfl
 | succ f=>rw[Rf.oU,aai h]
theorem GG (L:List Int)(limit:Int)(f:Nat)(st st1 st2:Rf.St)(a k:Int)(hb:st.bad=false)(hf:st.full=false)(h1:Rf.take L st 1=(a,st1))(h2:Rf.take L st1 2=(k,st2)): Rf.oU L limit (f+1) 0 st=if st2.bad=true then st2 else Rf.oU L limit f a (Rf.block L limit k { st2 with kinds:=st2.kinds++[k] }):=by
 rw[Rf.oU,aag (by rw[hb,hf];simp),h1];simp only;rw[h2]
def Qs (w:World)(F:Rf.St)(e:Ending)(w':World):Prop :=
 (F.bad=false/\F.full=false/\e=.returned (.tuple #[.string ⟨F.out.toArray⟩,.int .i64 (((F.pos+7)/8:Nat):Int)])/\Below w.heap.size w w'/\F.pos<=40000000/\F.out.length<=11000000000)\/((F.bad||F.full)=true/\e=dies (code F)/\Below w.heap.size w w')
theorem Au {w:World}{b:Nat}(h:yq w b):(∀c fr,w.heap[b+1]?≠some (.cells c 5 fr))/\(∀c fr,w.heap[b+2]?≠some (.cells c 5 fr)):=by
 rcases h.ex with⟨g1,g2⟩|⟨M1,s1,l1,M2,s2,l2,g1,g2,_⟩
 ·exact⟨fun c fr=>by rw[g1];simp,fun c fr=>by rw[g2];simp⟩
 ·exact⟨fun c fr=>by rw[g1];simp,fun c fr=>by rw[g2];simp⟩
theorem m8 (a:Int)(h:a=0\/a=1):(a==1)=decide (a≠0):=by rcases h with rfl|rfl<;>rfl
theorem EZ (s:ByteArray)(limit:Int)(w:World)(hs:s.size<=5000000)(hl0:-9223372036854775808<=limit)(hl1:limit<=9223372036854775807)(hfx:Alike s bj Rf.gv): Calls Tryz.prog 39 #[.string s,.int .i64 limit] w fun e w'=>Qs w (Rf.inflate (lw s) limit) e w':=by
 obtain⟨RES,sF⟩:∃RES,RES=Rf.inflate (lw s) limit:=⟨_,rfl⟩
 rw[<-sF];have C9:Hid (RES=Rf.oU (lw s) limit (8*s.size+2) 0 ⟨0,false,false,[],[]⟩):=by show _=_;rw[sF,Rf.inflate,aw]
 clear sF;obtain⟨lim,hlim⟩:∃lim:Int,lim=max limit 0:=⟨_,rfl⟩
 have hmx:(if (0:Int)>limit then (0:Int) else limit)=lim:=by rw[hlim];split<;>omega
 have aaE:(if limit<(0:Int) then (0:Int) else limit)=lim:=by rw[hlim];split<;>omega
 have aaF:Hid (lim=max limit 0):=hlim;obtain⟨R,hR⟩:∃R,R=w.heap.size:=⟨_,rfl⟩
 have hsk:=RZ R lim ((w.alloc (.cells #[.string s,.int .i64 0] 107)).alloc (.cells #[.slice none 0 0] 36)) (by simp;omega);rw[hR]at hsk;clear hlim
 go_enter Tryz.func39,Tryz.ntmps39
 go_wp2_with fail;refine hsk.mono ?_;rintro e w3 ⟨rfl,R8,g2,g3,g5,b3⟩;have g0:w3.heap[w.heap.size]?=some (.cells #[.string s,.int .i64 0] 107 (0,0)):=(b3.block _ (by omega)).trans (ak (ah w _) _);have g1:w3.heap[w.heap.size+1]?=some (.cells #[.slice none 0 0] 36 (0,0)):=(b3.block _ (by omega)).trans (by have h9:=ah (w.alloc (.cells #[.string s,.int .i64 0] 107)) (.cells #[.slice none 0 0] 36);rw[aap]at h9;exact h9);have B3:Below w.heap.size w w3:=(((aav _ _).alloc (aaf _) _).alloc (by simp) _).trans (b3.mono (by omega));have P3:Pg w3 s w.heap.size limit ⟨0,false,false,[],[]⟩ (.slice none 0 0):=⟨g0,g1,g2,by rw[<-aaF.out];exact g3,g5,World.ownsRow_nil _ _ _ _,aao _,hs,hl1,by show (0:Int)<=_;omega,rfl,rfl⟩
 clear hsk b3 g0 g1 g2 g3 g5 hmx aaE hR;obtain⟨T,hT⟩:∃T,T=w.heap.size+6:=⟨_,rfl⟩
 have hRT:w.heap.size+5<T:=by omega
 have hmk:=RE (w3.alloc (.cells (dJ w.heap.size) 111));simp only[aap]at hmk;rw[R8,<-hT]at hmk;go_wp2_with fail;rw[<-hT];refine hmk.mono ?_;rintro e w4 ⟨rfl,O4,b4,Ka⟩
 have P4:Pg w4 s w.heap.size limit ⟨0,false,false,[],[]⟩ (.slice none 0 0):=by
  have k4:Kp (·=w.heap.size) w3 w4:=⟨b4.os,b4.tape,b4.output,by omega,fun k hk _=>(b4.block k (by omega)).trans (abV w3 _ k hk)⟩
  exact P3.read k4 ((b4.block _ (by omega)).trans (ak P3.rd _)) (aao _) rfl rfl rfl
 have B4:Below w.heap.size w w4:=B3.trans ((((aav w.heap.size w3).alloc (by omega) _)).trans (b4.mono (by omega)));have UQ:Hid (w4.heap[T]?=some (.cells (dJ w.heap.size) 111 (0,0))):=(b4.block _ (by omega)).trans (by rw[hT,<-R8];exact ah w3 _);clear hmk b4 P3 B3 Ka R8;have HT2:Hid (T=w.heap.size+6):=hT;clear hT;go_wp2
 go_loopw [10] (fun v wr=>∃(f:Nat) (last:Int) (st:Rf.St) (ov:Value),(last=0\/last=1)/\v=.bool (decide (last≠0))/\Pg wr s w.heap.size limit st ov/\yq wr (T+1)/\Hid (wr.heap[T]?=some (.cells (dJ w.heap.size) 111 (0,0)))/\Below w.heap.size w wr/\Hid (RES=Rf.oU (lw s) limit f last st)/\8*s.size+2<=f+st.pos/\Hid (st.out.length<=258*st.pos)) (fun _ wr=>8*s.size-posR w.heap.size wr)
 case atStart=>exact⟨8*s.size+2,0,_,_,.inl rfl,rfl,P4,O4,UQ,B4,C9,by omega,aao _⟩
 case round =>
  clear P4 O4 UQ B4 C9;obtain⟨f,last,st,ov,h01,rfl,P1,O1,UQ,B1,HF,hfu,HO⟩:=hrel;have hp1:=P1.hp;obtain⟨f,rfl⟩:∃g,f=g+1:=⟨f-1,by omega⟩
  rcases h01 with rfl|rfl
  ·have wM:Hid (posR w.heap.size wr=st.pos):=P1.rd.posR;have HST:=GG (lw s) limit f st (Rf.take (lw s) st 1).2 (Rf.take (lw s) (Rf.take (lw s) st 1).2 2).2 (Rf.take (lw s) st 1).1 (Rf.take (lw s) (Rf.take (lw s) st 1).2 2).1 P1.nb P1.nf rfl rfl;rw[<-HF.out]at HST;have Qk:Hid (RES=_):=HST;have n1:=dS 1 s w.heap.size st wr P1.rd hs hp1 P1.nb (by omega);have g1:=Rf.take_range (cR s) st 1;have o1:=Rf.bd (lw s) st 1;have p1:=Rf.cQ (lw s) st 1 (by rw[aw];exact hp1);have tb1:=Rf.eQ (lw s) st 1;clear HST HF;generalize Rf.take (lw s) st 1=A at *;obtain⟨a,st1⟩:=A;simp only at Qk n1 g1 o1 p1 tb1;rw[aw]at p1;have hd0:decide ((0:Int)≠0)=false:=by decide
   go_wp2_with fail;refine n1.mono ?_;rintro e w2 (⟨q1,rfl,r2,k2⟩|⟨q1,rfl,k2⟩)
   case inr =>
    go_wp2;have hb2:=lH (lw s) st1 2 q1;have e1:RES=(Rf.take (lw s) st1 2).2:=by rw[Qk.out,aai hb2]
    have ef:RES.full=false:=by rw[e1,(Rf.bd _ _ _).2.2,o1.2.2];exact P1.nf
    exact⟨rfl,.inr ⟨by rw[e1,hb2];rfl,by rw[mY ef],B1.trans (k2.below (by have:=P1.lt;omega) (fun k _ h=>by omega))⟩⟩
   case inl =>
   have P2:Pg w2 s w.heap.size limit st1 ov:=P1.read k2 r2 p1 o1.1 q1 (o1.2.2.trans P1.nf);have F2:=j8.jJ (by have:=P1.lt;omega) k2;have O2:=O1.kept (by omega) F2;have R9:Hid (w2.heap[T]?=some (.cells (dJ w.heap.size) 111 (0,0))):=(k2.block _ (aac UQ.out) (by omega)).trans UQ.out;have B2:=B1.trans F2.below;have ps1:=tb1 q1;have NR:a=0\/a=1:=by have:=g1.1;have:=g1.2;omega
   have hbt:=m8 a NR;have ho1:=o1.1;clear P1 O1 UQ B1 F2 k2 r2 n1 o1 tb1 g1 hd0;have HS2:=Qk;have n2:=dS 2 s w.heap.size st1 w2 P2.rd hs p1 q1 (by omega);have g2:=Rf.take_range (cR s) st1 2;have o2:=Rf.bd (lw s) st1 2;have p2:=Rf.cQ (lw s) st1 2 (by rw[aw];exact p1);have UR:=Rf.eQ (lw s) st1 2;clear Qk;generalize Rf.take (lw s) st1 2=A at *;obtain⟨k,st2⟩:=A;simp only at HS2 n2 g2 o2 p2 UR;rw[aw]at p2;go_wp2_with fail;refine n2.mono ?_;rintro e w3 (⟨q2,rfl,r3,k3⟩|⟨q2,rfl,k3⟩)
   case inr =>
    go_wp2;have e1:RES=st2:=by rw[HS2.out,aai q2]
    have ef:RES.full=false:=by rw[e1,o2.2.2];exact P2.nf
    exact⟨rfl,.inr ⟨by rw[e1,q2];rfl,by rw[mY ef],B2.trans (k3.below (by have:=P2.lt;omega) (fun k _ h=>by omega))⟩⟩
   case inl =>
   rw[aag (by rw[q2];decide)]at HS2;have P3:Pg w3 s w.heap.size limit { st2 with kinds:=st2.kinds++[k] } ov:=P2.read k3 r3 p2 o2.1 q2 (o2.2.2.trans P2.nf);have F3:=j8.jJ (by have:=P2.lt;omega) k3;have O3:=O2.kept (by omega) F3;have Av:Hid (w3.heap[T]?=some (.cells (dJ w.heap.size) 111 (0,0))):=(k3.block _ (aac R9.out) (by omega)).trans R9.out;have B3:=B2.trans F3.below;have ps2:=UR q2;have hpos:st2.pos=st.pos+3:=by have:=ps2.1;have:=ps1.1;omega
   have hout2:st2.out=st.out:=o2.1.trans ho1;have US:Hid (st2.out.length<=258*st2.pos):=by have:=HO.out;show _<=_;rw[hout2];omega
   have hk0:0<=k:=g2.1;have hk4:k<4:=by have:=g2.2;omega
   have hgb:=fun kk=>Rf.CK (cR s) limit kk { st2 with kinds:=st2.kinds++[k] };obtain⟨c0,c1,c2,cz,yt⟩:=dU Av.out;clear P2 O2 R9 B2 F3 k3 r3 n2 o2 UR g2 ps1 ps2 HO hout2 ho1;rcases (show k=0\/k=1\/k=2\/k=3 by omega) with rfl|rfl|rfl|rfl
   ·have e:Rf.block (lw s) limit 0 { st2 with kinds:=st2.kinds++[0] }=Rf.plain (lw s) limit { st2 with kinds:=st2.kinds++[0] }:=aai rfl;have hg:=hgb 0;rw[e]at HS2 hg;clear e hgb;have aaH:Hid (st2.out.length<=10900000000):=by have:=US.out;show _<=_;omega
    go_wp2_with fail;refine (J0 s w.heap.size limit { st2 with kinds:=st2.kinds++[0] } ov _ P3 aaH).mono ?_;rintro e w5 hE;generalize Rf.plain (lw s) limit { st2 with kinds:=st2.kinds++[0] }=F at *;rcases hE with⟨f1,f2,rfl,⟨ov5,P5⟩,F5⟩|⟨f1,rfl,F5⟩
    ·have O5:=O3.kept (by omega) F5;have qO:Hid (w5.heap[T]?=some (.cells (dJ w.heap.size) 111 (0,0))):=(F5.other _ yt (by omega) (by omega) (fun c fr=>by rw[Av.out];simp)).trans Av.out;have B5:=B3.trans F5.below;have hg1:st2.pos<=F.pos:=hg.1;have hg2:F.out.length+258*st2.pos<=st2.out.length+258*F.pos:=hg.2;clear P3 O3 Av B3 F5 c0 c1 c2 cz yt hg;go_wp2
     go_roundw
     case rel=>exact⟨f,a,F,ov5,NR,by simp,P5,O5,qO,B5,HS2,by omega,by have:=US.out;show _<=_;omega⟩
     case measure=>rw[P5.rd.posR,wM.out];omega
    ·go_wp2;have e1:RES=F:=by rw[HS2.out];exact ji _ _ _ _ _ (.inr f1)
     exact⟨rfl,.inr ⟨by rw[e1];exact f1,by rw[e1],B3.trans F5⟩⟩
   ·have e:Rf.block (lw s) limit 1 { st2 with kinds:=st2.kinds++[1] }=Rf.symbols (lw s) limit Rf.bV Rf.gv { st2 with kinds:=st2.kinds++[1] }:=(aag (by decide)).trans (aai rfl);have hg:=hgb 1;rw[e]at HS2 hg;clear e hgb;have O3d:yq w3.drew (T+1):=⟨O3.f,O3.ex⟩
    have hon:=RF (T+1) w3.drew O3d;have hsy:=fun M1 s1 l1 M2 s2 l2 w5 P5 T1 T2 m1 m2=>J1 s w.heap.size limit M1 s1 l1 M2 s2 l2 Rf.bV bj Rf.gv { st2 with kinds:=st2.kinds++[1] } ov w5 P5 T1 T2 m1 m2 hfx US;generalize Rf.bV=FS at *;generalize bj=FP at *;generalize Rf.gv=FD at *;generalize Rf.symbols (lw s) limit FS FD { st2 with kinds:=st2.kinds++[1] }=F at *;go_wp2;have hS:w3.drew.cell? ⟨T,0,none⟩=some (rO w.heap.size)/\w3.drew.cell? ⟨T,1,none⟩=some (CW w.heap.size)/\w3.drew.cell? ⟨T,2,none⟩=some (tN w.heap.size):=⟨c0,c1,c2⟩
    refine ax (fun w'=>w'.cell? ⟨T,0,none⟩=some (rO w.heap.size)/\w'.cell? ⟨T,1,none⟩=some (CW w.heap.size)/\w'.cell? ⟨T,2,none⟩=some (tN w.heap.size)) 99 ?_;refine aD 0 (v:=?_) ?_ hS ?_;rotate_left
    ·intro w hSw;(try dsimp only at hSw);obtain⟨Aw,Ax,Ay⟩:=hSw;go_simp;try with_reducible rfl
    try simp only[Act.put]
    refine aD 1 (v:=?_) ?_ hS ?_;rotate_left
    ·intro w hSw;(try dsimp only at hSw);obtain⟨Aw,Ax,Ay⟩:=hSw;go_simp;try with_reducible rfl
    try simp only[Act.put]
    refine aD 3 (v:=?_) ?_ hS ?_;rotate_left
    ·intro w hSw;(try dsimp only at hSw);obtain⟨Aw,Ax,Ay⟩:=hSw;go_simp;try with_reducible rfl
    try simp only[Act.put]
    refine ag 2 fun K hK=>?_;go_simp;refine hon.mono ?_;rintro e w5 ⟨M1,s1,l1,M2,s2,l2,rfl,T1,T2,m1,m2,O5,k5⟩;have P5:Pg w5 s w.heap.size limit { st2 with kinds:=st2.kinds++[1] } ov:=(P3.drewN 1).once (b:=T+1) (by omega) k5 (fun g hg9=>⟨P3.Kf (Au O3).1 g hg9,P3.Kf (Au O3).2 g hg9⟩);have qO:Hid (w5.heap[T]?=some (.cells (dJ w.heap.size) 111 (0,0))):=(k5.block T yt (by omega)).trans Av.out;have B5:Below w.heap.size w3 w5:=(aaA (aav w.heap.size w3) 1).trans (k5.below (by have:=P3.lt;show _<=w3.heap.size;omega) (fun k _ h=>by omega));have hS5:=dU qO.out;refine hK _ _ (fun _=>⟨hS5.1,hS5.2.1,hS5.2.2.1⟩) ?_;clear hK K;refine ag 4 fun K hK=>?_;go_simp;refine (hsy M1 s1 l1 M2 s2 l2 w5 P5 T1 T2 (by omega) (by omega)).mono ?_;clear hsy hon O3d T1 T2 k5;rintro e w6 hE;have hg1:st2.pos<=F.pos:=hg.1;have hg2:F.out.length+258*st2.pos<=st2.out.length+258*F.pos:=hg.2;rcases hE with⟨f1,f2,rfl,⟨VQ,P6⟩,F6⟩|⟨f1,rfl,F6⟩
    case inr =>
     have e1:RES=F:=by rw[HS2.out];exact ji _ _ _ _ _ (.inr f1)
     exact⟨rfl,.inr ⟨by rw[e1];exact f1,by rw[e1],(B3.trans B5).trans F6⟩⟩
    case inl =>
    have O6:=O5.kept (by omega) F6;have Kg:Hid (w6.heap[T]?=some (.cells (dJ w.heap.size) 111 (0,0))):=(F6.other _ (aac qO.out) (by omega) (by omega) (fun c fr=>by rw[qO.out];simp)).trans qO.out;have B6:=(B3.trans B5).trans F6.below;have zO:=dU Kg.out;refine hK _ _ (fun _=>⟨zO.1,zO.2.1,zO.2.2.1⟩) ?_;clear hK K;refine am ?_;clear P3 O3 Av B3 B5 P5 O5 qO F6 c0 c1 c2 cz yt hg hS hS5 zO;go_wp2
    go_roundw
    case rel=>exact⟨f,a,F,VQ,NR,by simp,P6,O6,Kg,B6,HS2,by omega,by have:=US.out;show _<=_;omega⟩
    case measure=>rw[P6.rd.posR,wM.out];omega
   ·have e:Rf.block (lw s) limit 2 { st2 with kinds:=st2.kinds++[2] }=Rf.own (lw s) limit { st2 with kinds:=st2.kinds++[2] }:=(aag (by decide)).trans ((aag (by decide)).trans (aai rfl));have hg:=hgb 2;rw[e]at HS2 hg;clear e hgb;have htb:=J8 s w.heap.size limit { st2 with kinds:=st2.kinds++[2] } w3.drew P3.rd hs p2 q2 P3.nf;generalize Rf.own (lw s) limit { st2 with kinds:=st2.kinds++[2] }=F at *;go_wp2;have hS:w3.drew.cell? ⟨T,0,none⟩=some (rO w.heap.size)/\w3.drew.cell? ⟨T,1,none⟩=some (CW w.heap.size)/\w3.drew.cell? ⟨T,2,none⟩=some (tN w.heap.size):=⟨c0,c1,c2⟩
    refine ax (fun w'=>w'.cell? ⟨T,0,none⟩=some (rO w.heap.size)/\w'.cell? ⟨T,1,none⟩=some (CW w.heap.size)/\w'.cell? ⟨T,2,none⟩=some (tN w.heap.size)) 99 ?_;refine aD 0 (v:=?_) ?_ hS ?_;rotate_left
    ·intro w hSw;(try dsimp only at hSw);obtain⟨Aw,Ax,Ay⟩:=hSw;go_simp;try with_reducible rfl
    try simp only[Act.put]
    refine aD 1 (v:=?_) ?_ hS ?_;rotate_left
    ·intro w hSw;(try dsimp only at hSw);obtain⟨Aw,Ax,Ay⟩:=hSw;go_simp;try with_reducible rfl
    try simp only[Act.put]
    refine aD 3 (v:=?_) ?_ hS ?_;rotate_left
    ·intro w hSw;(try dsimp only at hSw);obtain⟨Aw,Ax,Ay⟩:=hSw;go_simp;try with_reducible rfl
    try simp only[Act.put]
    refine ag 2 fun K hK=>?_;go_simp;refine htb.mono ?_;rintro e w5 (⟨M1,s1,l1,M2,s2,l2,ls,far,dI,eF,x1,x2,x3,x4,x5,x6,rfl,T1,T2,m1,m2,r5,k5⟩|⟨x1,x2,rfl,k5⟩)
    case inr =>
     have e1:RES=F:=by rw[HS2.out];exact ji _ _ _ _ _ (.inr (by rw[x1];rfl))
     exact⟨rfl,.inr ⟨by rw[e1,x1];rfl,by rw[e1,mY x2],(B3.trans (aaA (aav w.heap.size w3) 1)).trans (k5.below (by have:=P3.lt;show _<=w3.heap.size;omega) (fun k _ h=>by omega))⟩⟩
    case inl =>
    have P5:Pg w5 s w.heap.size limit dI ov:=(P3.drewN 1).read k5 r5 x4 x3 x1 x2;have F5:j8 w.heap.size w3 w5:=((j8.refl w.heap.size w3).drewN 1).trans (j8.jJ (by have:=P3.lt;show _<=w3.heap.size;omega) k5);have O5:=O3.kept (by omega) F5;have qO:Hid (w5.heap[T]?=some (.cells (dJ w.heap.size) 111 (0,0))):=(k5.block T yt (by omega)).trans Av.out;have B5:Below w.heap.size w3 w5:=F5.below;have hS5:=dU qO.out;have x5':st2.pos<=dI.pos:=x5;have x3':dI.out=st2.out:=x3;have EV:Hid (dI.out.length<=258*dI.pos):=by have:=US.out;show _<=_;rw[x3'];omega
    have hlt3:=P3.lt;have Zn:w3.heap.size<=M1:=m1;have m2':w3.heap.size<=M2:=m2;refine hK _ _ (fun _=>⟨hS5.1,hS5.2.1,hS5.2.2.1⟩) ?_;clear hK K;refine ag 4 fun K hK=>?_;go_simp;refine (J1 s w.heap.size limit M1 s1 l1 M2 s2 l2 ls far far dI ov w5 P5 T1 T2 (by omega) (by omega) (C3 s far x6) EV).mono ?_;rw[<-eF];clear htb T1 T2 k5 F5 x1 x2 x3 x3' r5;rintro e w6 hE;have hg1:st2.pos<=F.pos:=hg.1;have hg2:F.out.length+258*st2.pos<=st2.out.length+258*F.pos:=hg.2;rcases hE with⟨f1,f2,rfl,⟨VQ,P6⟩,F6⟩|⟨f1,rfl,F6⟩
    case inr =>
     have e1:RES=F:=by rw[HS2.out];exact ji _ _ _ _ _ (.inr f1)
     exact⟨rfl,.inr ⟨by rw[e1];exact f1,by rw[e1],(B3.trans B5).trans F6⟩⟩
    case inl =>
    have O6:=O5.kept (by omega) F6;have Kg:Hid (w6.heap[T]?=some (.cells (dJ w.heap.size) 111 (0,0))):=(F6.other _ (aac qO.out) (by omega) (by omega) (fun c fr=>by rw[qO.out];simp)).trans qO.out;have B6:=(B3.trans B5).trans F6.below;have zO:=dU Kg.out;refine hK _ _ (fun _=>⟨zO.1,zO.2.1,zO.2.2.1⟩) ?_;clear hK K;refine am ?_;clear P3 O3 Av B3 B5 P5 O5 qO F6 c0 c1 c2 cz yt hg hS hS5 zO;go_wp2
    go_roundw
    case rel=>exact⟨f,a,F,VQ,NR,by simp,P6,O6,Kg,B6,HS2,by omega,by have:=US.out;show _<=_;omega⟩
    case measure=>rw[P6.rd.posR,wM.out];omega
   ·have e:Rf.block (lw s) limit 3 { st2 with kinds:=st2.kinds++[3] }={ st2 with kinds:=st2.kinds++[3],bad:=true }:=(aag (by decide)).trans ((aag (by decide)).trans (aag (by decide)));rw[e]at HS2;go_wp2;have e1:RES={ st2 with kinds:=st2.kinds++[3],bad:=true }:=by rw[HS2.out];exact ji _ _ _ _ _ (.inr rfl)
    exact⟨rfl,.inr ⟨by rw[e1];rfl,by rw[e1,mY (by exact P3.nf)],B3⟩⟩
  ·have HE:Hid (RES=st):=by show _=_;rw[HF.out];exact ji _ _ _ _ _ (.inl (by decide))
   have hcv:=fR P1.ho rfl;have hw1:=P1.rd;obtain⟨o1,o2,o3,o4,o5⟩:=P1.cells;have hus:=JG s w.heap.size st.pos wr.drew P1.rd (by omega);have aaI:(convert 36 9 ov).run Tryz.prog wr.drew=.ok (.string ⟨st.out.toArray⟩) wr.drew:=fR (w:=wr.drew) P1.ho rfl;have Ag:Hid (RES.pos<=40000000/\RES.out.length<=11000000000):=by have h1:=HO.out;have h2:=P1.hp;show _/\_;rw[HE.out];exact⟨by omega,by omega⟩
   have HE2:Hid (RES.bad=false/\RES.full=false):=by show _/\_;rw[HE.out];exact⟨P1.nb,P1.nf⟩
   go_wp2;have hS:wr.drew.cell? ⟨w.heap.size+1,0,none⟩=some ov/\(convert 36 9 ov).run Tryz.prog wr.drew=.ok (.string ⟨st.out.toArray⟩) wr.drew/\True:=⟨o1,aaI,trivial⟩
   refine ax (fun w'=>w'.cell? ⟨w.heap.size+1,0,none⟩=some ov/\(convert 36 9 ov).run Tryz.prog w'=.ok (.string ⟨st.out.toArray⟩) w'/\True) 99 ?_;refine aD 0 (v:=?_) ?_ hS ?_;rotate_left
   ·intro w hSw;(try dsimp only at hSw);obtain⟨Aw,Ax,Ay⟩:=hSw;go_simp;try with_reducible rfl
   try simp only[Act.put]
   refine aD 1 (v:=?_) ?_ hS ?_;rotate_left
   ·intro w hSw;(try dsimp only at hSw);obtain⟨Aw,Ax,Ay⟩:=hSw;go_simp;try with_reducible rfl
   try simp only[Act.put]
   refine aD 2 (v:=?_) ?_ hS ?_;rotate_left
   ·intro w hSw;(try dsimp only at hSw);obtain⟨Aw,Ax,Ay⟩:=hSw;go_simp;try with_reducible rfl
   try simp only[Act.put]
   refine ag 3 fun K hK=>?_;go_simp;refine hus.mono ?_;rintro e w5 ⟨rfl,rfl⟩;refine hK _ _ (fun _=>hS) ?_;clear hK K;refine ag 4 fun K hK=>?_;go_simp;refine hK _ _ (fun _=>hS) ?_;clear hK K;refine ag 5 fun K hK=>?_;go_simp;refine hK _ _ (fun _=>hS) ?_;clear hK K;refine am ?_;go_wp2
   go_ret2
   exact .inl ⟨HE2.out.1,HE2.out.2,by rw[HE.out];rfl,aaA B1 1,Ag.out⟩
end
section
open Go.RowKit
theorem E3 (j:Nat):Rf.gv.getD j 0=if j<32 then 5 else 0:=by rw[Rf.gv,gF]
theorem yx (j:Nat):bj.getD j 0=if j<30 then 5 else 0:=by rw[bj,gF]
theorem GH:∀j,j<32->(Rf.codes Rf.gv).getD j 0=((j:Nat):Int):=by decide +kernel
theorem wO:∀j,j<30->(Rf.codes bj).getD j 0=((j:Nat):Int):=by decide +kernel
theorem Az:Rf.gv.length=32:=by simp[Rf.gv]
theorem tP:bj.length=30:=by simp[bj]
theorem GI (n v:Int)(h:n≠5):Rf.find Rf.gv (Rf.codes Rf.gv) n v=none:=by
 cases hf:Rf.find Rf.gv (Rf.codes Rf.gv) n v with
 | none=>rfl
 | some i =>
  obtain⟨h1,h2,_⟩:=Rf.gd hf;rw[Az]at h1;rw[E3,aai h1]at h2;exact absurd h2.symm h
theorem GJ (n v:Int)(h:n≠5):Rf.find bj (Rf.codes bj) n v=none:=by
 cases hf:Rf.find bj (Rf.codes bj) n v with
 | none=>rfl
 | some i =>
  obtain⟨h1,h2,_⟩:=Rf.gd hf;rw[tP]at h1;rw[yx,aai h1]at h2;exact absurd h2.symm h
theorem GK (v:Nat)(h:v<32):Rf.find Rf.gv (Rf.codes Rf.gv) 5 (v:Int)=some v:=by
 have:=Rf.yo (ls:=Rf.gv) (n:=4) (j:=v) (by omega) (by rw[Az];exact h) (by rw[E3,aai h];rfl);rw[GH v h]at this;exact this
theorem GL (v:Nat)(h:v<30):Rf.find bj (Rf.codes bj) 5 (v:Int)=some v:=by
 have:=Rf.yo (ls:=bj) (n:=4) (j:=v) (by omega) (by rw[tP];exact h) (by rw[yx,aai h];rfl);rw[wO v h]at this;exact this
theorem GM (v:Nat)(h:30<=v):Rf.find bj (Rf.codes bj) 5 (v:Int)=none:=by
 cases hf:Rf.find bj (Rf.codes bj) 5 (v:Int) with
 | none=>rfl
 | some i =>
  obtain⟨h1,_,h3⟩:=Rf.gd hf;rw[tP]at h1;rw[wO i h1]at h3;omega
def Rel (A B:Int×Rf.St):Prop:=(A.2.bad=false->A=B/\B.1<=29)/\(A.2.bad=true->B.2.bad=true\/29<B.1)
theorem wP {L:List Int}(hb:Rf.Bits L):∀(m k:Nat) (v:Nat) (st:Rf.St),k+m=4->v<2^k -> Rel (Rf.eg L bj (Rf.codes bj) (15-k) k v st) (Rf.eg L Rf.gv (Rf.codes Rf.gv) (15-k) k v st)
 | m,k,v,st,hk,hv=>by
  have h01:=Rf.take_one hb st;rw[show 15-k=(14-k)+1 by omega,Rf.eg,Rf.eg];obtain⟨t,ht⟩:∃t:Nat,(Rf.take L st 1).1=(t:Int):=⟨(Rf.take L st 1).1.toNat,by omega⟩
  have ht1:t<=1:=by omega
  by_cases hbad:(Rf.take L st 1).2.bad=true
  ·rw[aai hbad,aai hbad];exact⟨fun h=>by (simp only at h;rw[hbad]at h;cases h),fun _=>.inl hbad⟩
  ·rw[aag hbad,aag hbad,ht];have hbf:(Rf.take L st 1).2.bad=false:=by cases h:(Rf.take L st 1).2.bad<;>simp_all
   have ev:2*((v:Nat):Int)+(t:Int)=((2*v+t:Nat):Int):=by omega
   rw[ev]
   match m,hk with
   | 0,hk =>
    have hk4:k=4:=by omega
    subst hk4;have hv32:2*v+t<32:=by have:v<16:=hv;omega
    rw[show ((4:Nat):Int)+1=5 from rfl,GK _ hv32];by_cases h30:2*v+t<30
    ·rw[GL _ h30];exact⟨fun _=>⟨rfl,by simp only;omega⟩,fun h=>by simp only at h;rw[hbf]at h;cases h⟩
    ·rw[GM _ (by omega)];have hn:=Rf.qL L bj (Rf.codes bj) 5 (fun j hj=>by rw[yx];split<;>omega) (14-4) (4+1) ((2*v+t:Nat):Int) (Rf.take L st 1).2 (by omega);exact⟨fun h=>by (rw[hn]at h;cases h),fun _=>.inr (by simp only;omega)⟩
   | m+1,hk =>
    rw[GI _ _ (by omega),GJ _ _ (by omega)];simp only;have:=wP hb m (k+1) (2*v+t) (Rf.take L st 1).2 (by omega) (by rw[ac8];omega);rw[show 15-(k+1)=14-k by omega]at this;exact this
theorem rP (s:ByteArray):Alike s bj Rf.gv:=fun st _ _=>by
 have h:=wP (cR s) 4 0 0 st rfl (by decide);exact h
theorem oY (o:Int)(w:World):Calls Tryz.prog 21 #[.nilIface,.int .i64 o] w fun e w'=>e=.returned (.int .i64 0)/\w'=w:=by
 go_enter Tryz.func21,Tryz.ntmps21
 go_wp2
 go_ret
 exact⟨rfl,rfl⟩
theorem lJ (c o:Int)(w:World):Calls Tryz.prog 21 #[.iface 63 (.int .i64 c),.int .i64 o] w fun e w'=>e=.returned (.int .i64 c)/\w'=w:=by
 have hta:∀w:World,(Instr.typeAssert (.iface 63 (.int .i64 c)) 20 63 true).run Tryz.prog w=.ok (.tuple #[.int .i64 c,.bool true]) w:=fun _=>by kernel_rfl
 go_enter Tryz.func21,Tryz.ntmps21
 go_wp2
 go_ret
 exact⟨rfl,rfl⟩
theorem sG (p:Addr)(x c:Int)(older:List PanicEntry)(w:World)(hc:w.cell? p=some (.int .i64 x))(hz:w.frozen? p=false): CallsD Tryz.prog 38 #[.pointer (some p)] (.panicking ({ v:=.iface 63 (.int .i64 c),recovered:=false }::older)) w fun e u' w' =>
   e=.returned (.tuple #[])/\u'=.panicking ({ v:=.iface 63 (.int .i64 c),recovered:=true }::older)/\w'=w.setCell p (.int .i64 c):=by
 refine callsD_of_wpS Tryz.func38 rfl fun c₀ cs hu=>?_;apply wpS_region;simp[wpOpsS,go_sem,recoverD,hu,Tryz.ntmps38];refine (lJ c 6 w).mono ?_;rintro e w' ⟨rfl,rfl⟩;simp[go_sem,hc,hz,bodyPostS,results,Tryz.results38]
theorem Db (p:Addr)(x:Int)(w:World)(hc:w.cell? p=some (.int .i64 x))(hz:w.frozen? p=false): CallsD Tryz.prog 38 #[.pointer (some p)] .returning w fun e u' w'=>e=.returned (.tuple #[])/\u'=.returning/\w'=w.setCell p (.int .i64 0):=by
 refine callsD_of_wpS Tryz.func38 rfl fun c₀ cs hu=>?_;apply wpS_region;simp[wpOpsS,go_sem,recoverD,hu,Tryz.ntmps38];refine (oY 6 w).mono ?_;rintro e w' ⟨rfl,rfl⟩;simp[go_sem,hc,hz,bodyPostS,results,Tryz.results38];cases c₀
 simp_all
def answer (F:Rf.St):Value:=if (F.bad||F.full)=true then .tuple #[.string ⟨#[]⟩,.int .i64 0,.int .i64 (code F)] else .tuple #[.string ⟨F.out.toArray⟩,.int .i64 (((F.pos+7)/8:Nat):Int),.int .i64 0]
theorem GN (s:ByteArray)(limit:Int)(w:World)(hs:s.size<=5000000)(hl0:-9223372036854775808<=limit)(hl1:limit<=9223372036854775807): Calls Tryz.prog 26 #[.string s,.int .i64 limit] w fun e w'=>e=.returned (answer (Rf.inflate (lw s) limit))/\Below w.heap.size w w':=by
 have UL:∀(fn:Fn) (first cap:Array Value) (w:World),(Instr.makeFunc fn first cap).run Tryz.prog w=.ok (.func fn first cap) w:=fun _ _ _ _=>rfl;have hby:=EZ s limit (w.alloc (.cells #[.int .i64 0] 31)) hs hl0 hl1 (rP s);generalize Rf.inflate (lw s) limit=F at *
 go_enter_defers Tryz.func26,Tryz.ntmps26
 go_wp2_with fail;refine hby.mono ?_;rintro e w1 (⟨f1,f2,rfl,b1,-⟩|⟨f1,rfl,b1⟩)
 ·rw[aap]at b1;have hb:w1.heap[w.heap.size]?=some (.cells #[.int .i64 0] 31 (0,0)):=(b1.block _ (by omega)).trans (ah w _);obtain⟨c0,cz,yt⟩:=one_cell hb;have HB:Hid (Below w.heap.size w w1):=((aav _ _).alloc (aaf _) _).trans (b1.mono (by omega));have HA:Hid (answer F=.tuple #[.string ⟨F.out.toArray⟩,.int .i64 (((F.pos+7)/8:Nat):Int),.int .i64 0]):=by show _=_;rw[answer,f1,f2];rfl
  have hset:=one_set hb (.int .i64 0);obtain⟨d0,dz,VM⟩:=one_cell hset;clear hby b1 hb;go_wp2;refine leaves_cons (f:=38) (args:=#[.pointer (some ⟨w.heap.size,0,none⟩)]) (by simp) (by simp[go_sem]) ?_;refine (Db ⟨w.heap.size,0,none⟩ 0 _ d0 dz).mono ?_;rintro e u' w'' ⟨rfl,rfl,rfl⟩;have iF:=one_set hset (.int .i64 0);obtain⟨x0,xz,xlt⟩:=one_cell iF;simp[Leaves,settle,results,Tryz.results26,go_sem,x0];rw[HA.out];exact⟨by rw[show ((F.pos:Int)+7)/8=(((F.pos+7)/8:Nat):Int) by omega],(HB.out.setCell (p:=⟨w.heap.size,0,none⟩) (aaf _) _).setCell (p:=⟨w.heap.size,0,none⟩) (aaf _) _⟩
 ·rw[aap]at b1;have hb:w1.heap[w.heap.size]?=some (.cells #[.int .i64 0] 31 (0,0)):=(b1.block _ (by omega)).trans (ah w _);obtain⟨c0,cz,yt⟩:=one_cell hb;have HB:Hid (Below w.heap.size w w1):=((aav _ _).alloc (aaf _) _).trans (b1.mono (by omega));have HA:Hid (answer F=.tuple #[.string ⟨#[]⟩,.int .i64 0,.int .i64 (code F)]):=by show _=_;rw[answer,aai f1]
  generalize code F=cd at *;clear hby b1;go_wp2;refine leaves_cons (f:=38) (args:=#[.pointer (some ⟨w.heap.size,0,none⟩)]) (by simp) (by simp[go_sem]) ?_;refine (sG ⟨w.heap.size,0,none⟩ 0 cd [] _ c0 cz).mono ?_;rintro e u' w'' ⟨rfl,rfl,rfl⟩;have iF:=one_set hb (.int .i64 cd);obtain⟨x0,xz,xlt⟩:=one_cell iF;simp[Leaves,settle,results,Tryz.results26,go_sem,x0];rw[HA.out];exact⟨rfl,HB.out.setCell (p:=⟨w.heap.size,0,none⟩) (aaf _) _⟩
theorem Ki (s:ByteArray)(w:World)(hs:s.size<=maxLen): Calls Tryz.prog 69 #[.string s] w fun e w'=>e=.returned (.int .i64 (Mx.eH s.data.toList))/\w'=w:=by
 unfold maxLen at hs
 go_enter Tryz.func69,Tryz.ntmps69
 go_wp2
 go_loop [3,4,8] (fun x y i=>∃k:Nat,k<=s.size/\i=.int .i64 k/\x=.int .i64 (Mx.Je (s.data.toList.take k))/\y=.int .i64 (Mx.Nh (s.data.toList.take k))) (fun _ _ i=>s.size-(intOf i).toNat)
 case atStart=>exact⟨0,aao _,rfl,rfl,rfl⟩
 case round =>
  obtain⟨k,hk,rfl,rfl,rfl⟩:=hrel;have h1:=Mx.qF (s.data.toList.take k);have h2:=Mx.qG (s.data.toList.take k);by_cases hlt:k<s.size
  ·have hc:(s[k].toNat:Int)<256:=by have:=s[k].toNat_lt;omega
   have HS:Hid (Mx.Je (s.data.toList.take (k+1))=(Mx.Je (s.data.toList.take k)+s[k].toNat)%65521):=by rw[Mx.qH s k hlt];exact Mx.Js _ _
   have HT:Hid (Mx.Nh (s.data.toList.take (k+1))=(Mx.Nh (s.data.toList.take k)+(Mx.Je (s.data.toList.take k)+s[k].toNat)%65521)%65521):=by rw[Mx.qH s k hlt];exact Mx.Jt _ _
   go_wp2
   go_round
   case rel=>exact⟨k+1,by omega,by go_num,by rw[HS.out],by rw[HT.out]⟩
   case measure=>simp[intOf];omega
  ·go_wp2
   go_ret
   exact⟨aK (by rw[aa5 (by simp;omega)];rfl),rfl⟩
def four (a:Int):List UInt8:=[UInt8.ofNat (a/16777216%256).toNat,UInt8.ofNat (a/65536%256).toNat,UInt8.ofNat (a/256%256).toNat,UInt8.ofNat (a%256).toNat]
def oG (T:List UInt8):Int:=(T.getD 0 0).toNat*16777216+(T.getD 1 0).toNat*65536+(T.getD 2 0).toNat*256+(T.getD 3 0).toNat
theorem tQ (T:List UInt8)(h:T.length=4)(a:Int)(h0:0<=a)(h1:a<4294967296):oG T=a↔T=four a:=by
 have e8:∀n:Int,0<=n->n<256->(((UInt8.ofNat n.toNat).toNat:Nat):Int)=n:=fun n h0 h1=>by rw[adh];omega
 match T,h with
 | [x,y,z,u],_ =>
  have hx:=x.toNat_lt;have hy:=y.toNat_lt;have hz:=z.toNat_lt;have hu:=u.toNat_lt
  have ext:∀(p:UInt8) (n:Int),0<=n->n<256->((p.toNat:Int)=n↔p=UInt8.ofNat n.toNat):=fun p n g0 g1=>by
   constructor
   ·intro q;apply UInt8.toNat_inj.mp;have:=e8 n g0 g1;omega
   ·intro q;rw[q,e8 n g0 g1]
  have f0:=ext x (a/16777216%256) (by omega) (by omega);have f1:=ext y (a/65536%256) (by omega) (by omega);have f2:=ext z (a/256%256) (by omega) (by omega);have f3:=ext u (a%256) (by omega) (by omega);unfold oG four;simp only[List.getD_cons_zero,List.getD_cons_succ,List.cons.injEq,and_true];rw[<-f0,<-f1,<-f2,<-f3];omega
theorem Dc (x y k:Nat)(hk:k<=24)(hx:x<8589934592)(hy:y<2^k)(h:x%2^k=0):bits .or .i64 (x:Int) (y:Int)=((x+y:Nat):Int):=by
 have hp:(2:Nat)^k<=2^24:=abp (by omega) hk;obtain⟨c,rfl⟩:∃c,x=2^k*c:=⟨x/2^k,by have:=adl x (2^k);omega⟩
 have h1:=Nat.two_pow_add_eq_or_of_lt hy c
 have key:(BitVec.ofInt 64 ((2^k*c:Nat):Int)|||BitVec.ofInt 64 (y:Int)).toNat=2^k*c+y:=by
  rw[BitVec.toNat_or,abX,abX];have t1:((y:Int)%((2^64:Nat):Int)).toNat=y:=by omega
  have t2:(((2^k*c:Nat):Int)%((2^64:Nat):Int)).toNat=2^k*c:=by omega
  rw[t1,t2,<-h1]
 show IntKind.i64.wrap ((BitVec.ofInt 64 ((2^k*c:Nat):Int)|||BitVec.ofInt 64 (y:Int)).toNat:Nat)=_;rw[key,ac7];omega
theorem fT (X Y:Int)(x y k:Nat)(hk:k<=24)(hx:x<8589934592)(hy:y<2^k)(h:x%2^k=0)(hX:X=(x:Int))(hY:Y=(y:Int)):bits .or .i64 X Y=X+Y:=by
 rw[hX,hY,Dc x y k hk hx hy h];omega
theorem kI (T:ByteArray)(w:World)(h4:4<=T.size): Calls Tryz.prog 57 #[.string T] w fun e w'=>e=.returned (.int .i64 (oG T.data.toList))/\∃m,w'=w.drewN m:=by
 have gt:∀j (h:j<T.size),T[j].toNat=(T.data.toList.getD j 0).toNat:=fun j h=>by
  rw[aad,aaj (by simpa using h)];rfl
 have g0:=gt 0 (by omega);have g1:=gt 1 (by omega);have g2:=gt 2 (by omega);have g3:=gt 3 (by omega);have b0:=(T.data.toList.getD 0 0).toNat_lt;have b1:=(T.data.toList.getD 1 0).toNat_lt;have b2:=(T.data.toList.getD 2 0).toNat_lt;have b3:=(T.data.toList.getD 3 0).toNat_lt;unfold oG;generalize (T.data.toList.getD 0 0).toNat=x at *;generalize (T.data.toList.getD 1 0).toNat=y at *;generalize (T.data.toList.getD 2 0).toNat=z at *;generalize (T.data.toList.getD 3 0).toNat=u at *;clear gt;have o1:=fT ((x:Int)*16777216) ((y:Int)*65536) (x*16777216) (y*65536) 24 (by omega) (by omega) (by omega) (by omega) (by omega) (by omega);have o2:=fT ((x:Int)*16777216+(y:Int)*65536) ((z:Int)*256) (x*16777216+y*65536) (z*256) 16 (by omega) (by omega) (by omega) (by omega) (by omega) (by omega);have o3:=fT ((x:Int)*16777216+(y:Int)*65536+(z:Int)*256) (u:Int) (x*16777216+y*65536+z*256) u 8 (by omega) (by omega) (by omega) (by omega) (by omega) rfl;have O:Hid (_/\_/\_):=⟨o1,o2,o3⟩
 clear o1 o2 o3
 go_enter Tryz.func57,Tryz.ntmps57
 go_wp2
 go_quiet (fail)
 go_wp2
 go_ret
 exact⟨aK (by simp only[O.out.1,O.out.2.1,O.out.2.2]),⟨_,rfl⟩⟩
theorem VX (x:Nat)(h:x<256):bits .and .i64 (x:Int) 15=((x%16:Nat):Int):=by
 have:∀x:Fin 256,bits .and .i64 ((x.val:Nat):Int) 15=((x.val%16:Nat):Int):=by decide +kernel
 exact this ⟨x,h⟩
theorem VY (x:Nat)(h:x<256):(bits .and .i64 (x:Int) 32=0)↔x/32%2=0:=by
 have:∀x:Fin 256,(bits .and .i64 ((x.val:Nat):Int) 32=0)↔x.val/32%2=0:=by decide +kernel
 exact this ⟨x,h⟩
def jr (x y:Nat):Prop:=x%16=8/\x/16<=7/\y/32%2=0/\(256*x+y)%31=0
instance (x y:Nat):Decidable (jr x y):=by unfold jr;infer_instance
theorem VZ (x y:Nat)(w:World)(hx:x<256)(hy:y<256): Calls Tryz.prog 68 #[.int .i64 x,.int .i64 y] w fun e w'=>e=.returned (.bool (decide (jr x y)))/\w'=w:=by
 have Qb:Hid (bits .and .i64 (x:Int) 15=((x%16:Nat):Int)):=VX x hx;have h32:Hid ((bits .and .i64 (y:Int) 32=0)↔y/32%2=0):=VY y hy;obtain⟨d,hd⟩:∃d,decide (jr x y)=d:=⟨_,rfl⟩
 have HD:Hid (decide (jr x y)=d):=hd;rw[hd];clear hd
 go_enter Tryz.func68,Tryz.ntmps68
 go_wp2
 all_goals
  go_ret
  refine⟨aO ?_,rfl⟩;have Qb:=Qb.out;have h32:=h32.out;rw[<-HD.out,acE];rw[decide_eq_true_iff];unfold jr;simp only[beq_iff_eq,ach,false_iff];omega
def af (s:ByteArray)(i:Nat):Nat:=(s.data.toList.getD i 0).toNat
theorem ct (s:ByteArray)(i:Nat)(h:i<s.size):s[i].toNat=af s i:=by
 unfold af;rw[aad,aaj (by simpa using h)];rfl
def mid (s:ByteArray)(limit:Int):Rf.St:=Rf.inflate (lw (s.extract 2 s.size)) limit
def dx (s:ByteArray)(limit:Int):Int :=
 if s.size<2\/¬jr (af s 0) (af s 1) then 8
 else if ((mid s limit).bad||(mid s limit).full)=true then code (mid s limit)
 else if s.size≠((mid s limit).pos+7)/8+6 then 8
 else if s.data.toList.drop (((mid s limit).pos+7)/8+2)≠four (Mx.eH (mid s limit).out) then 9 else 0
def tR (s:ByteArray)(limit:Int):Prop:=2<=s.size->jr (af s 0) (af s 1)->((mid s limit).bad||(mid s limit).full)=false->(mid s limit).pos<=40000000/\(mid s limit).out.length<=11000000000
def Kj (s:ByteArray)(limit:Int)(w:World)(e:Ending)(w':World):Prop :=
 ((dx s limit=0/\e=.returned (.string ⟨(mid s limit).out.toArray⟩))\/(dx s limit≠0/\e=dies (dx s limit)))/\tR s limit/\Below w.heap.size w w'
theorem Sb (s:ByteArray)(limit:Int)(w:World)(hs:s.size<=5000000)(hl0:-9223372036854775808<=limit)(hl1:limit<=9223372036854775807): Calls Tryz.prog 37 #[.string s,.int .i64 limit] w fun e w'=>Kj s limit w e w':=by
 by_cases h2:s.size<2
 ·have HC:Hid (dx s limit=8):=by show _=_;rw[dx,aai (.inl h2)]
  have hd2:decide ((s.size:Int)<2)=true:=abh (by omega)
  go_enter Tryz.func37,Tryz.ntmps37
  go_wp2
  go_quiet (fail)
  go_wp2;refine⟨rfl,.inr ⟨by rw[HC.out];decide,by rw[HC.out]⟩,fun h=>by omega,aaA (aav _ _) _⟩
 ·have hx0:=ct s 0 (by omega);have hy0:=ct s 1 (by omega);have hx:af s 0<256:=by rw[<-hx0];exact s[0].toNat_lt
  have hy:af s 1<256:=by rw[<-hy0];exact s[1].toNat_lt
  have hh:=fun w=>VZ (af s 0) (af s 1) w hx hy;have hd2:decide ((s.size:Int)<2)=false:=abT (by omega);obtain⟨F,hF⟩:∃F,F=mid s limit:=⟨_,rfl⟩
  obtain⟨WC,Zo⟩:∃c,c=dx s limit:=⟨_,rfl⟩
  have pN:Hid (¬jr (af s 0) (af s 1)->WC=8/\tR s limit):=fun h=>⟨by rw[Zo,dx,aai (.inr h)],fun _ h'=>absurd h' h⟩
  have qP:Hid (jr (af s 0) (af s 1)->WC=if (F.bad||F.full)=true then code F else if s.size≠(F.pos+7)/8+6 then 8 else if s.data.toList.drop ((F.pos+7)/8+2)≠four (Mx.eH F.out) then 9 else 0):=fun h=>by
   rw[Zo,dx,aag (by rintro (q|q)<;>contradiction),<-hF]
  have NS:Hid (((F.bad||F.full)=false->F.pos<=40000000/\F.out.length<=11000000000)->tR s limit):=fun h _ _ q=>by rw[<-hF]at q ⊢;exact h q
  unfold Kj;rw[<-Zo,<-hF];generalize tR s limit=FN at *;obtain⟨P,hP⟩:∃P,s.extract 2 s.size=P:=⟨_,rfl⟩
  have hby:∀w,Calls Tryz.prog 39 #[.string P,.int .i64 limit] w fun e w'=>Qs w F e w':=fun w=>by
   rw[hF,mid,hP];exact EZ P limit w (by rw[<-hP,aaO];omega) hl0 hl1 (rP _)
  obtain⟨n,hn⟩:∃n,s.size=n+2:=⟨s.size-2,by omega⟩
  have hPn:P.size=n:=by rw[<-hP,aaO];omega
  have HPd:Hid (P.data.toList=s.data.toList.drop 2):=by
   show _=_;rw[<-hP,acs,acP];rw[acl,aa5 (by simp)]
  have tS:Hid (s.size=n+2):=hn;clear hF Zo hn;generalize af s 0=x at *;generalize af s 1=y at *;by_cases hok:jr x y
  ·rw[abh hok]at hh;have HY:Hid (WC=_):=qP.out hok;clear qP pN
   go_enter Tryz.func37,Tryz.ntmps37
   go_wp2
   go_quiet ((go_at_call 68;exact abn (hh _)))
   go_wp2_with fail;refine (hby _).mono ?_;rintro e w1 (⟨f1,f2,rfl,b1,fb1,fb2⟩|⟨f1,rfl,b1⟩)
   ·have HN:Hid FN:=NS.out fun _=>⟨fb1,fb2⟩
    rw[aag (by rw[f1,f2];decide),tS.out]at HY;have hom:ByteArray.size ⟨F.out.toArray⟩<=maxLen:=by show F.out.toArray.size<=_;unfold maxLen;simp;omega
    have hab:=fun w=>Ki ⟨F.out.toArray⟩ w hom
    have had:Hid (0<=Mx.eH F.out/\Mx.eH F.out<4294967296):=by
     have h1:=Mx.qF F.out;have h2:=Mx.qG F.out;show _/\_;unfold Mx.eH;omega
    have HB1:Hid (Below w.heap.size w w1):=aaA (aav _ _) _ |>.trans b1;obtain⟨u,hu⟩:∃u,(F.pos+7)/8=u:=⟨_,rfl⟩
    rw[hu]at HY ⊢;have hub:u<=5000001:=by omega
    clear fb1 fb2 hu NS hom;by_cases hlen:n=u+4
    ·rw[aag (by omega)]at HY;subst hlen;have hne:(((u:Int)+4-(u:Int)) != 4)=false:=by rw[bne_eq_false_iff_eq];omega
     obtain⟨T,hT⟩:∃T,P.extract u (u+4)=T:=⟨_,rfl⟩
     have HT:Hid (T.data.toList=s.data.toList.drop (u+2)):=by
      show _=_;rw[<-hT,acs,acP,acl,HPd.out,List.drop_drop,aa5 (by have:=tS.out;simp;omega),Nat.add_comm]
     rw[<-HT.out]at HY;have hT4:T.size=4:=by rw[<-hT,aaO];omega
     have UT:=fun w=>kI T w (by omega);have HQ:Hid (oG T.data.toList=Mx.eH F.out↔T.data.toList=four (Mx.eH F.out)):=tQ _ (by simpa using hT4) _ had.out.1 had.out.2;have hnb:u+4<=5000000:=by have:=tS.out;omega
     have hab:∀w,Calls Tryz.prog 69 #[.string ⟨F.out.toArray⟩] w fun e w'=>e=.returned (.int .i64 (Mx.eH F.out))/\w'=w:=fun w=>by
      have:=hab w;simpa using this
     generalize oG T.data.toList=ff at *;generalize four (Mx.eH F.out)=fo at *;generalize Mx.eH F.out=ad at *;obtain⟨b,hb⟩:∃b,(ff != ad)=b:=⟨_,rfl⟩
     have HBQ:Hid ((ff != ad)=b):=hb;go_wp2_with fail;refine (UT _).mono ?_;rintro e w5 ⟨rfl,m5,rfl⟩;go_wp2_with fail;refine (hab _).mono ?_;rintro e w6 ⟨rfl,rfl⟩;cases b with
     | false =>
      have hq:T.data.toList=fo:=HQ.out.1 (by have:=HBQ.out;simpa using this);have HE:Hid (WC=0):=by show _=_;rw[HY.out,aag (by rw[hq];simp)]
      go_wp2
      go_ret
      exact⟨.inl ⟨HE.out,rfl⟩,HN.out,aaA HB1.out _⟩
     | true =>
      have hq:T.data.toList≠fo:=fun q=>by
       have:=HBQ.out;rw[HQ.out.2 q]at this;simp at this
      have HE:Hid (WC=9):=by show _=_;rw[HY.out,aai hq]
      go_wp2;refine⟨rfl,.inr ⟨by rw[HE.out];decide,by rw[HE.out]⟩,HN.out,aaA HB1.out _⟩
    ·rw[aai (by omega)]at HY;have hnb:n<=5000000:=by have:=tS.out;omega
     have hne:(((n:Int)-(u:Int)) != 4)=true:=by rw[bne_iff_ne];omega
     go_wp2;refine⟨rfl,.inr ⟨by rw[HY.out];decide,by rw[HY.out]⟩,HN.out,HB1.out⟩
   ·rw[aai f1]at HY;have HN:Hid FN:=NS.out fun h=>by rw[f1]at h;cases h
    have HC:Hid (code F≠0):=by show _≠_;unfold code;split<;>decide
    go_wp2;refine⟨rfl,.inr ⟨by rw[HY.out];exact HC.out,by rw[HY.out]⟩,HN.out,(aaA (aav _ _) _).trans b1⟩
  ·rw[abT hok]at hh;have HY:=pN.out hok;clear qP pN NS;obtain⟨H1,H2⟩:=HY;have HH:Hid (WC=8/\FN):=⟨H1,H2⟩
   clear H1 H2
   go_enter Tryz.func37,Tryz.ntmps37
   go_wp2
   go_quiet ((go_at_call 68;exact abn (hh _)))
   go_wp2;refine⟨rfl,.inr ⟨by rw[HH.out.1];decide,by rw[HH.out.1]⟩,HH.out.2,aaA (aav _ _) _⟩
def aJ (s:ByteArray)(i:Nat):Int:=af s i*16777216+af s (i+1)*65536+af s (i+2)*256+af s (i+3)
theorem cu (s:ByteArray)(i:Nat):af s i<256:=UInt8.toNat_lt _
theorem qQ (p:Addr)(x c:Int)(older:List PanicEntry)(w:World)(hc:w.cell? p=some (.int .i64 x))(hz:w.frozen? p=false): CallsD Tryz.prog 36 #[.pointer (some p)] (.panicking ({ v:=.iface 63 (.int .i64 c),recovered:=false }::older)) w fun e u' w' =>
   e=.returned (.tuple #[])/\u'=.panicking ({ v:=.iface 63 (.int .i64 c),recovered:=true }::older)/\w'=w.setCell p (.int .i64 c):=by
 refine callsD_of_wpS Tryz.func36 rfl fun c₀ cs hu=>?_;apply wpS_region;simp[wpOpsS,go_sem,recoverD,hu,Tryz.ntmps36];refine (lJ c 6 w).mono ?_;rintro e w' ⟨rfl,rfl⟩;simp[go_sem,hc,hz,bodyPostS,results,Tryz.results36]
theorem AA (p:Addr)(x:Int)(w:World)(hc:w.cell? p=some (.int .i64 x))(hz:w.frozen? p=false): CallsD Tryz.prog 36 #[.pointer (some p)] .returning w fun e u' w'=>e=.returned (.tuple #[])/\u'=.returning/\w'=w.setCell p (.int .i64 0):=by
 refine callsD_of_wpS Tryz.func36 rfl fun c₀ cs hu=>?_;apply wpS_region;simp[wpOpsS,go_sem,recoverD,hu,Tryz.ntmps36];refine (oY 6 w).mono ?_;rintro e w' ⟨rfl,rfl⟩;simp[go_sem,hc,hz,bodyPostS,results,Tryz.results36];cases c₀
 simp_all
def js (s:ByteArray)(limit:Int):ByteArray:=if dx s limit=0 then ⟨(mid s limit).out.toArray⟩ else ⟨#[]⟩
theorem AB (s:ByteArray)(limit:Int)(w:World)(hs:s.size<=5000000)(hl0:-9223372036854775808<=limit)(hl1:limit<=9223372036854775807): Calls Tryz.prog 23 #[.string s,.int .i64 limit] w fun e w'=>e=.returned (.tuple #[.string (js s limit),.int .i64 (dx s limit)])/\tR s limit/\Below w.heap.size w w':=by
 have UL:∀(fn:Fn) (first cap:Array Value) (w:World),(Instr.makeFunc fn first cap).run Tryz.prog w=.ok (.func fn first cap) w:=fun _ _ _ _=>rfl;have hby:=Sb s limit (w.alloc (.cells #[.int .i64 0] 31)) hs hl0 hl1;unfold Kj at hby;have HT:Hid (js s limit=if dx s limit=0 then ⟨(mid s limit).out.toArray⟩ else ⟨#[]⟩):=rfl;generalize js s limit=TX at *;generalize dx s limit=cd at *;generalize mid s limit=F at *;generalize tR s limit=FN at *
 go_enter_defers Tryz.func23,Tryz.ntmps23
 go_wp2_with fail;refine hby.mono ?_;rintro e w1 ⟨⟨f1,rfl⟩|⟨f1,rfl⟩,HN,b1⟩
 ·rw[aap]at b1;have hb:w1.heap[w.heap.size]?=some (.cells #[.int .i64 0] 31 (0,0)):=(b1.block _ (by omega)).trans (ah w _);obtain⟨c0,cz,yt⟩:=one_cell hb;have HB:Hid (Below w.heap.size w w1):=((aav _ _).alloc (aaf _) _).trans (b1.mono (by omega));rw[aai f1]at HT;have HN:Hid FN:=HN;subst f1;have hset:=one_set hb (.int .i64 0);obtain⟨d0,dz,VM⟩:=one_cell hset;clear hby b1 hb;go_wp2;refine leaves_cons (f:=36) (args:=#[.pointer (some ⟨w.heap.size,0,none⟩)]) (by simp) (by simp[go_sem]) ?_;refine (AA ⟨w.heap.size,0,none⟩ 0 _ d0 dz).mono ?_;rintro e u' w'' ⟨rfl,rfl,rfl⟩;have iF:=one_set hset (.int .i64 0);obtain⟨x0,xz,xlt⟩:=one_cell iF;simp[Leaves,settle,results,Tryz.results23,go_sem,x0];rw[HT.out];exact⟨rfl,HN.out,(HB.out.setCell (p:=⟨w.heap.size,0,none⟩) (aaf _) _).setCell (p:=⟨w.heap.size,0,none⟩) (aaf _) _⟩
 ·rw[aap]at b1;have hb:w1.heap[w.heap.size]?=some (.cells #[.int .i64 0] 31 (0,0)):=(b1.block _ (by omega)).trans (ah w _);obtain⟨c0,cz,yt⟩:=one_cell hb;have HB:Hid (Below w.heap.size w w1):=((aav _ _).alloc (aaf _) _).trans (b1.mono (by omega));rw[aag f1]at HT;have HN:Hid FN:=HN;clear hby b1 f1;go_wp2;refine leaves_cons (f:=36) (args:=#[.pointer (some ⟨w.heap.size,0,none⟩)]) (by simp) (by simp[go_sem]) ?_;refine (qQ ⟨w.heap.size,0,none⟩ 0 cd [] _ c0 cz).mono ?_;rintro e u' w'' ⟨rfl,rfl,rfl⟩;have iF:=one_set hb (.int .i64 cd);obtain⟨x0,xz,xlt⟩:=one_cell iF;simp[Leaves,settle,results,Tryz.results23,go_sem,x0];rw[HT.out];exact⟨rfl,HN.out,HB.out.setCell (p:=⟨w.heap.size,0,none⟩) (aaf _) _⟩
end
end Go.Proofs.YtmfijackgekioabGreatDoor
