import Derived.Test.YtmfijackgekioaaGreatDoorQ13
import Derived.Lib.AppendZeros
set_option maxHeartbeats 4000000
set_option maxRecDepth 100000
namespace Go.Proofs.YtmfijackgekioaaGreatDoor
open Go.RowKit
theorem l7 (kc:Nat)(hc:gD kc)(T n cap:Nat)(hn:n<=1000000):∀(d a m b:Nat) (f:Nat->Mb×Nat) (w:World),b-a<=d->a<m->m<b->b<=n->aW w T n f->Rf.dE Mb.w f a m->Rf.dE Mb.w f m b->Rf.Lo f a m b -> Calls Tryz.prog 261 #[.slice (some ⟨T,0,none⟩) n cap,.int .i64 a,.int .i64 m,.int .i64 b,.func (.func kc) #[] #[]] w fun e w'=>e=.returned (.tuple #[])/\Merged T n a b f w w'
 | 0,a,m,b,_,_,hd,h1,h2,_,_,_,_,_=>by omega
 | d+1,a,m,b,f,w,hd,h1,h2,hb,h,s1,s2,hlo=>by
  by_cases e1:m=a+1
  ·subst e1;rw[show ((a+1:Nat):Int)=(a:Int)+1 by omega];exact zn kc hc T n cap a b f w h h2 hb hn s2 hlo
  ·by_cases e2:b=m+1
   ·subst e2;rw[show ((m+1:Nat):Int)=(m:Int)+1 by omega];exact Bj kc hc T n cap a m f w h (by omega) hb hn s1 (fun k k1 k2=>hlo k m k1 k2 (aad _) (by omega))
   ·exact Bm kc hc T n cap hn a m b f w (by omega) (by omega) hb h s1 s2 hlo (fun a' m' b' f' w' q1 q2 q3 q4 q5 q6 q7 q8=>l7 kc hc T n cap hn d a' m' b' f' w' (by omega) q2 q3 q4 q5 q6 q7 q8)
theorem Io {n p k:Nat}{f:Nat->Mb×Nat}(h:Rf.Mid Mb.w n p (2*p) (k*(2*p)) f)(hp:n<=k*(2*p)+p):Rf.dE Mb.w f (k*(2*p)) n:=by
 intro i j h1 h2 h3;have e:k*(2*p)=2*k*p:=by rw[<-aa0,aaV k 2]
 have q1:i/p=2*k:=Rf.oh (by omega) (by omega);have q2:j/p=2*k:=Rf.oh (by omega) (by omega);exact h.2.2.2 i j h2 h3 h1 (by omega)
theorem E9 (kc:Nat)(hc:gD kc)(T n cap:Nat)(F:Nat->Mb)(w:World)(h:aW w T n (fun k=>(F k,k)))(hn:n<=1000000): Calls Tryz.prog 258 #[.slice (some ⟨T,0,none⟩) n cap,.int .i64 n,.func (.func kc) #[] #[]] w fun e w'=>e=.returned (.tuple #[])/\∃g,aW w' T n g/\Rf.fL n g (fun k=>(F k,k))/\Rf.dE Mb.w g 0 n/\Kp (·=T) w w':=by
 go_enter Tryz.func258,Tryz.ntmps258
 go_wp2
 go_loopw [7,8] (fun av bv wr=>∃(k:Nat) (g:Nat->Mb×Nat),k*20<=n/\av=.int .i64 (k*20:Nat)/\bv=.int .i64 (k*20+20:Nat)/\Hid (aW wr T n g)/\Hid (Rf.fL n g (fun k=>(F k,k)))/\Hid (Rf.Mid Mb.w n 1 20 (k*20) g)/\Kp (·=T) w wr) (fun av _ _=>n+20-(intOf av).toNat)
 case atStart=>exact⟨0,_,aaj _,rfl,rfl,h,Rf.fL.refl _ _,(Rf.Gz.ones F n).mid 20,Kp.refl _ _⟩
 case round =>
  clear h;obtain⟨k,g,hk0,rfl,rfl,HR,HP,HM,hk⟩:=hrel
  have htag:∀i j,k*20<=i->i<j->j<n->(g i).2<(g j).2:=fun i j h1 h2 h3=>by
   have a:=HM.out.2.1 i (by omega) h1;have b:=HM.out.2.1 j h3 (by omega);rw[Nat.div_one,Nat.div_one]at a b;omega
  have HT:Hid (∀i j,k*20<=i->i<j->j<n->(g i).2<(g j).2):=htag;obtain⟨A,hA⟩:∃A:Nat,A=k*20:=⟨_,rfl⟩
  have HA:Hid (A=k*20):=hA;rw[<-hA]at hk0 ⊢;clear htag hA;have eB:((A+20:Nat):Int)=(A:Int)+20:=by omega
  by_cases hlt:A+20<=n
  ·have hlt':((A+20:Nat):Int)<=(n:Int):=by omega
   have hcall:=oY kc hc T n cap A (A+20) g wr HR.out hlt hn (by omega) (fun i j h1 h2 h3=>HT.out i j (by rw[<-HA.out];exact h1) h2 (by omega));go_wp2_with fail;refine hcall.mono ?_;rintro e w1 ⟨rfl,g1,hr1,hp1,hi1,hs1,hk1⟩
   have HH:Hid (aW w1 T n g1/\Rf.fL n g1 (fun k=>(F k,k))/\Rf.Mid Mb.w n 1 20 ((k+1)*20) g1/\Kp (·=T) w w1):=by
    refine⟨hr1,hp1.trans HP.out,?_,hk.trans hk1⟩;refine Rf.Mid.step (p:=1) (r:=20) rfl (by omega) (by omega) HM.out (b:=A+20) ?_ ?_ ?_
    ·rw[<-HA.out];omega
    ·rw[<-HA.out];exact hi1
    ·rw[<-HA.out];exact hs1
   have HA2:=HA.out;clear hcall hr1 hp1 hi1 hs1 hk1 HM HP HR hk HT;go_wp2
   go_roundw
   case rel=>exact⟨k+1,g1,by omega,by rw[show (k+1)*20=A+20 by omega];go_num,by rw[show (k+1)*20+20=A+20+20 by omega];go_num,HH.out.1,HH.out.2.1,HH.out.2.2.1,HH.out.2.2.2⟩
   case measure=>simp[intOf];omega
  ·have hlt':¬((A+20:Nat):Int)<=(n:Int):=by omega
   have hcall:=oY kc hc T n cap A n g wr HR.out (aad _) hn (by omega) (fun i j h1 h2 h3=>HT.out i j (by rw[<-HA.out];exact h1) h2 h3);go_wp2_with fail;refine hcall.mono ?_;rintro e w1 ⟨rfl,g1,hr1,hp1,hi1,hs1,hk1⟩
   have HH:Hid (aW w1 T n g1/\Rf.fL n g1 (fun k=>(F k,k))/\Rf.Gz Mb.w n 20 g1/\Kp (·=T) w w1):=by
    refine⟨hr1,hp1.trans HP.out,?_,hk.trans hk1⟩;refine (Rf.Mid.step (p:=1) (r:=20) (k:=k) rfl (by omega) (by omega) HM.out (b:=n) ?_ ?_ ?_).blk ?_
    ·rw[<-HA.out];omega
    ·rw[<-HA.out];exact hi1
    ·rw[<-HA.out];exact hs1
    ·have:=HA.out;omega
   clear hcall hr1 hp1 hi1 hs1 hk1 HM HP HR hk HT HA;go_wp2
   rename World=>wA
   go_loopw [6,7,8,9] (fun sv _ _ _ wq=>∃(p:Nat) (g:Nat->Mb×Nat),0<p/\p<=2000000/\sv=.int .i64 p/\Hid (aW wq T n g)/\Hid (Rf.fL n g (fun k=>(F k,k)))/\Hid (Rf.Gz Mb.w n p g)/\Kp (·=T) w wq) (fun sv _ _ _ _=>n-(intOf sv).toNat)
   case atStart=>exact⟨20,g1,by omega,by omega,rfl,HH.out.1,HH.out.2.1,HH.out.2.2.1,HH.out.2.2.2⟩
   case round =>
    clear HH;obtain⟨p,g,hp0,hp2,rfl,HR,HP,HB,hk⟩:=hrel;by_cases hpn:p<n
    ·obtain⟨P2,hP2⟩:∃P2:Nat,P2=2*p:=⟨_,rfl⟩
     have e2p:2*(p:Int)=(P2:Int):=by omega
     have e2q:(p:Int)*2=(P2:Int):=by omega
     have Zx:Hid (P2=2*p):=hP2;have p2a:P2<=2*p:=by omega
     have p2b:2*p<=P2:=by omega
     clear hP2;go_wp2
     rename World=>wC
     go_loopw [7,8] (fun av bv wz=>∃(k A B:Nat) (g:Nat->Mb×Nat),A<=n/\Hid (A=k*(2*p))/\av=.int .i64 A/\bv=.int .i64 B/\(B<=A+P2/\A+P2<=B)/\Hid (aW wz T n g)/\Hid (Rf.fL n g (fun k=>(F k,k)))/\Hid (Rf.Mid Mb.w n p (2*p) (k*(2*p)) g)/\Kp (·=T) w wz) (fun av _ _=>n+P2-(intOf av).toNat)
     case atStart=>exact⟨0,0,P2,g,aaj _,by show _=_;omega,rfl,rfl,by omega,HR.out,HP.out,by rw[abz];exact HB.out.mid _,hk⟩
     case round =>
      clear HR HP HB hk;obtain⟨k,A,B,g,hAn,HA,rfl,rfl,hB,HR,HP,HM,hk⟩:=hrel;obtain⟨M1,eC⟩:∃M1:Nat,(A:Int)+(p:Int)=(M1:Int):=⟨A+p,by omega⟩
      obtain⟨B2,eB⟩:∃B2:Nat,(B:Int)+(P2:Int)=(B2:Int):=⟨B+P2,by omega⟩
      have HE:Hid (M1=A+p/\B=A+2*p/\B2=B+P2):=by show _/\_/\_;omega
      by_cases hlt2:B<=n
      ·have Sr:(B:Int)<=(n:Int):=by omega
       have sM:=Rf.Mid.ask HM.out (b:=A+2*p) (by rw[<-HA.out];omega) (by rw[<-HA.out];omega);rw[<-HA.out]at sM;have hcall:=l7 kc hc T n cap hn (2*p) A (A+p) (A+2*p) g wr (by omega) (by omega) (by omega) (by omega) HR.out sM.1 sM.2.1 sM.2.2;rw[<-HE.out.1,<-HE.out.2.1]at hcall;clear sM;go_wp2_with fail;refine hcall.mono ?_;rintro e w1 ⟨rfl,g1,hr1,hp1,hi1,hs1,hk1⟩
       have HH:Hid (aW w1 T n g1/\Rf.fL n g1 (fun k=>(F k,k))/\Rf.Mid Mb.w n p (2*p) ((k+1)*(2*p)) g1/\Kp (·=T) w w1):=by
        refine⟨hr1,hp1.trans HP.out,?_,hk.trans hk1⟩;refine Rf.Mid.step (p:=p) (r:=2) (aaV 2 p) hp0 (by omega) HM.out (b:=A+2*p) ?_ ?_ ?_
        ·rw[<-HA.out];omega
        ·rw[<-HA.out,<-HE.out.2.1];exact hi1
        ·rw[<-HA.out,<-HE.out.2.1];exact hs1
       have HA2:Hid (B=(k+1)*(2*p)):=by show _=_;rw[Nat.add_mul,Nat.one_mul,<-HA.out];exact HE.out.2.1
       clear hcall hr1 hp1 hi1 hs1 hk1 HM HP HR hk HA;go_wp2
       go_roundw
       case rel=>exact⟨k+1,B,B2,g1,hlt2,HA2,rfl,rfl,by have:=HE.out;omega,HH.out.1,HH.out.2.1,HH.out.2.2.1,HH.out.2.2.2⟩
       case measure=>simp[intOf];omega
      ·have Sr:¬(B:Int)<=(n:Int):=by omega
       by_cases hm:M1<n
       ·have hm':(M1:Int)<(n:Int):=by omega
        have sM:=Rf.Mid.ask HM.out (b:=n) (by rw[<-HA.out];omega) (by rw[<-HA.out];omega);rw[<-HA.out]at sM;have hcall:=l7 kc hc T n cap hn n A (A+p) n g wr (by omega) (by omega) (by omega) (aad _) HR.out sM.1 sM.2.1 sM.2.2;rw[<-HE.out.1]at hcall;clear sM;go_wp2_with fail;refine hcall.mono ?_;rintro e w1 ⟨rfl,g1,hr1,hp1,hi1,hs1,hk1⟩
        have HH:Hid (aW w1 T n g1/\Rf.fL n g1 (fun k=>(F k,k))/\Rf.Gz Mb.w n (2*p) g1/\Kp (·=T) w w1):=by
         refine⟨hr1,hp1.trans HP.out,?_,hk.trans hk1⟩;refine (Rf.Mid.step (p:=p) (r:=2) (aaV 2 p) hp0 (by omega) HM.out (b:=n) ?_ ?_ ?_).blk ?_
         ·rw[<-HA.out];omega
         ·rw[<-HA.out];exact hi1
         ·rw[<-HA.out];exact hs1
         ·rw[Nat.add_mul,Nat.one_mul,<-HA.out];omega
        clear hcall hr1 hp1 hi1 hs1 hk1 HM HP HR hk HA;go_wp2
        go_roundw
        case rel=>exact⟨P2,g1,by omega,by omega,rfl,HH.out.1,HH.out.2.1,by rw[Zx.out];exact HH.out.2.2.1,HH.out.2.2.2⟩
        case measure=>simp[intOf];omega
       ·have hm':¬(M1:Int)<(n:Int):=by omega
        have HH:Hid (Rf.Gz Mb.w n (2*p) g):=by
         refine (Rf.Mid.step (p:=p) (r:=2) (g:=g) (aaV 2 p) hp0 (by omega) HM.out (b:=n) ?_ (Rf.In.refl _ _ _) ?_).blk ?_
         ·rw[<-HA.out];omega
         ·exact Io HM.out (by rw[<-HA.out];omega)
         ·rw[Nat.add_mul,Nat.one_mul,<-HA.out];omega
        clear HM HA;go_wp2
        go_roundw
        case rel=>exact⟨P2,g,by omega,by omega,rfl,HR,HP,by rw[Zx.out];exact HH,hk⟩
        case measure=>simp[intOf];omega
    ·go_wp2
     go_end0
     exact⟨rfl,g,HR.out,HP.out,HB.out.all (by omega),hk⟩
theorem LM (kc:Nat)(hc:gD kc)(T n cap:Nat)(F:Nat->Mb)(w:World)(h:aW w T n (fun k=>(F k,k)))(hn:n<=1000000): Calls Tryz.prog 248 #[.slice (some ⟨T,0,none⟩) n cap,.func (.func kc) #[] #[]] w fun e w'=>e=.returned (.tuple #[])/\∃g,aW w' T n g/\Rf.Stable Mb.w ((List.range n).map F) ((List.range n).map (fun k=>(g k).1))/\Kp (·=T) w w':=by
 go_enter Tryz.func248,Tryz.ntmps248
 go_wp2_with fail;refine (E9 kc hc T n cap F w h hn).mono ?_;rintro e w1 ⟨rfl,g,h1,h2,h3,h4⟩;go_wp2
 go_end0
 exact⟨rfl,g,h1,Rf.EX h2 h3,h4⟩
theorem Tryz.infoBundle:(Tryz.prog.info? 262).map (fun i=>(i.zero,i.size,i.bytes))=some (some (.agg #[.int .i64 0,.slice none 0 0]),2,32):=by kernel_rfl
theorem add_block (ad:Addr)(j:Nat):(ad.add j).block=ad.block:=by unfold Addr.add;split<;>rfl
structure Src (w:World) (size:Nat) (v:Value) (n:Nat) (xs:List Value):Prop where
 val:∃a c,v=.slice a n c/\(a=none->n=0/\c=0)/\∀ad,a=some ad->xs≠[]->ad.block<w.heap.size/\∀j u,xs[j]?=some u->w.cell? (ad.add j)=some u
 len:xs.length=n*size
 one:∀u∈xs,u.oneCell'=true
theorem Src.below {w w':World}{size:Nat}{v:Value}{n:Nat}{xs:List Value}(h:Src w size v n xs)(k:Below w.heap.size w w'):Src w' size v n xs:=by
 obtain⟨⟨a,c,h1,h2,h3⟩,h4,h5⟩:=h;refine⟨⟨a,c,h1,h2,fun ad e hne=>?_⟩,h4,h5⟩;obtain⟨q1,q2⟩:=h3 ad e hne;exact⟨aar q1 k.size,fun j u hj=>(k.cell (p:=ad.add j) (by rw[add_block];exact q1)).trans (q2 j u hj)⟩
theorem bH {b:Nat}{w wr w':World}{r:Option Nat}(h:Below b w wr)(g:wr.grownBy w' r)(hr:∀k,r=some k->b<=k)(hb:b<=w.heap.size):Below b w w' :=
 ⟨g.os.trans h.os,g.tape.trans h.tape,g.output.trans h.output,aaz h.size g.size,fun k hk=>(g.block k (by have:=h.size;omega) (fun e=>by have:=hr k e.symm;omega)).trans (h.block k hk)⟩
theorem cj {w:World}{base e t ty size bytes:Nat}{i:TypeInfo}{z:Value}(ht:Tryz.prog.underlying t=some (.slice e))(hi:Tryz.prog.info? e=some i)(hz:i.zero=some z)(hsize:i.size=size)(hby:i.bytes=bytes)(hzs:z.cells.size=size)(hsz:0<size){v x:Value}{n m:Nat}{xs news:List Value}(hown:w.ownsRow base e size v n xs)(hs:Src w size x m news)(h63:n+m<=maxLen)(hbytes:(n+m)*bytes<=140737488355328)(hbase:base<=w.heap.size): ∃v' w',(Builtin.append_ #[t,t] ty #[v,x]).run Tryz.prog w=.ok v' w'/\w'.ownsRow base e size v' (n+m) (xs++news)/\w.grownBy w' v.ownBlock:=by
 obtain⟨⟨a,c,rfl,h2,h3⟩,h4,h5⟩:=hs;cases a with
 | none =>
  obtain⟨rfl,rfl⟩:=h2 rfl;have hn:news=[]:=aau (by omega);subst hn;exact⟨v,w,run_append_owned_none (P:=Tryz.prog) w base t ty e i size ht hi v n xs hown,by simpa using hown,⟨rfl,rfl,rfl,aad _,fun _ _ _=>rfl⟩⟩
 | some ad =>
  by_cases hne:news=[]
  ·subst hne;obtain⟨v',w',q1,q2,q3,_⟩:=run_append_own (P:=Tryz.prog) w base t ty e i z size bytes ht hi hz hsize hby hzs hsz v n xs hown ad m c [] h4 (fun j u hj=>by simp at hj) (fun u hu=>by simp at hu) h63 hbytes hbase;exact⟨v',w',q1,q2,q3⟩
  ·obtain⟨v',w',q1,q2,q3,_⟩:=run_append_own (P:=Tryz.prog) w base t ty e i z size bytes ht hi hz hsize hby hzs hsz v n xs hown ad m c news h4 (h3 ad rfl hne).2 h5 h63 hbytes hbase;exact⟨v',w',q1,q2,q3⟩
theorem Ss (n:Nat)(w:World)(hn:n<=1000000): Calls Tryz.prog 256 #[.slice none 0 0,.int .i64 n] w fun e w'=>∃v,e=.returned v/\w'.ownsRow w.heap.size 262 2 v 0 []/\Below w.heap.size w w':=by
 obtain⟨i0,hi,hz0,hz1,hz2⟩:=aaX Tryz.infoBundle;by_cases h0:n=0
 ·subst h0
  go_enter Tryz.func256,Tryz.ntmps256
  go_wp2
  go_ret
  exact⟨_,rfl,aba _ _ _ _,aak _ _⟩
 ·have hr:=fun (w:World) ty=>Lib.run_append_nil_zeros (P:=Tryz.prog) w 259 3 ty 262 i0 (.agg #[.int .i64 0,.slice none 0 0]) .i64 .i64 Tryz.underlying259 Tryz.underlying3 hi hz0 n (by omega) (by omega) (by omega) (by rw[hz2];omega);have hge:=grownCap_ge w n 0 262;have hle:=grownCap_le_maxLen w n 0 262 (by unfold maxLen;omega);have hng:¬(n:Int)<0:=by omega
  have hpos:(n:Int)>0:=by omega
  go_enter Tryz.func256,Tryz.ntmps256
  go_wp2_with (at_builtin;refine aa6 _ rfl _ _ _ _ rfl _ _ rfl rfl _ _ (hr _ _) ?_)
  go_ret
  refine⟨_,rfl,⟨by simp,.inr ⟨w.heap.size,_,_,rfl,aad _,heap_alloc_new w _,aaj _,hle,?_,by simp⟩⟩,?_⟩
  ·simp only[Array.size_append,size_zeroCells,List.size_toArray,aao,abS];omega
  ·have h:=ag w (.cells (Builtin.zeroCells #[.int .i64 0,.slice none 0 0] n++Builtin.zeroCells #[.int .i64 0,.slice none 0 0] (grownCap w n 0 262-n)) 262);exact⟨h.os,h.tape,h.output,h.size,h.block⟩
theorem LO (A cap n1 n2:Nat)(v1 v2:Value)(xs ys:List Value)(w:World)(hA:w.heap[A]?=some (.cells #[v1,v2] 259 (0,0)))(h1:Src w 2 v1 n1 xs)(h2:Src w 2 v2 n2 ys)(hn:n1+n2<=1000000): Calls Tryz.prog 246 #[.slice (some ⟨A,0,none⟩) 2 cap] w fun e w'=>∃v,e=.returned v/\w'.ownsRow w.heap.size 262 2 v (n1+n2) (xs++ys)/\Below w.heap.size w w':=by
 obtain⟨i0,hi,hz0,hz1,hz2⟩:=aaX Tryz.infoBundle;obtain⟨c0,c1,fz,hlt⟩:=fq hA;obtain⟨a1,p1,e1,_⟩:=h1.val;obtain⟨a2,p2,e2,_⟩:=h2.val;have HA:Hid (w.heap[A]?=_):=hA;have H1:Hid (Src _ _ _ _ _):=h1;have H2:Hid (Src _ _ _ _ _):=h2;subst e1 e2;clear h1 h2 hA
 go_enter Tryz.func246,Tryz.ntmps246
 go_wp2
 go_loop [3,5,11] (fun sz _ ix=>∃k:Nat,k<=2/\ix=.int .i64 k/\((k=0/\sz=.int .i64 0)\/(k=1/\sz=.int .i64 n1)\/(k=2/\sz=.int .i64 ((n1:Int)+n2)))) (fun _ _ ix=>2-(intOf ix).toNat)
 case atStart=>exact⟨0,by omega,rfl,.inl ⟨rfl,rfl⟩⟩
 case round =>
  obtain⟨k,hk,rfl,hh⟩:=hrel;rcases hh with⟨rfl,rfl⟩|⟨rfl,rfl⟩|⟨rfl,rfl⟩
  ·have g1:¬(n1:Int)<0:=by omega
   go_wp2
   go_round
   case rel=>exact⟨1,by omega,rfl,.inr (.inl ⟨rfl,by simp⟩)⟩
   case measure=>simp[intOf]
  ·have g1:¬(n1:Int)+(n2:Int)<0:=by omega
   go_wp2
   go_round
   case rel=>exact⟨2,by omega,rfl,.inr (.inr ⟨rfl,rfl⟩)⟩
   case measure=>simp[intOf]
  ·have hgr:=Ss (n1+n2) w hn;rw[show ((n1+n2:Nat):Int)=(n1:Int)+(n2:Int) by omega]at hgr;go_wp2_with fail;refine hgr.mono ?_;rintro e w1 ⟨v0,rfl,ho,hb⟩;obtain⟨oa,oc,rfl⟩:=aU ho;have HO:Hid (w1.ownsRow _ _ _ _ _ _):=ho;clear hgr ho;go_wp2
   go_loopw [6,8,27] (fun nv _ ix wq=>∃k:Nat,k<=2/\ix=.int .i64 k/\∃(m:Nat) (zs:List Value) (oa:Option Addr) (oc:Nat),nv=.slice oa m oc/\Hid (wq.ownsRow w.heap.size 262 2 (.slice oa m oc) m zs)/\Below w.heap.size w wq/\((k=0/\m=0/\zs=[])\/(k=1/\m=n1/\zs=xs)\/(k=2/\m=n1+n2/\zs=xs++ys))) (fun _ _ ix _=>2-(intOf ix).toNat)
   case atStart=>exact⟨0,by omega,rfl,0,[],oa,oc,rfl,HO,hb,.inl ⟨rfl,rfl,rfl⟩⟩
   case round =>
    clear HO hb;obtain⟨k,hk,rfl,m,zs,oa,oc,rfl,HO,hb,hh⟩:=hrel;have hsz:=hb.size;have d0:=(hb.cell (p:=⟨A,0,none⟩) hlt).trans c0;have d1:=(hb.cell (p:=⟨A,1,none⟩) hlt).trans c1;rcases hh with⟨rfl,rfl,rfl⟩|⟨rfl,rfl,rfl⟩|⟨rfl,rfl,rfl⟩
    ·obtain⟨v',w',hr,ho',hg'⟩:=cj (ty:=259) Tryz.underlying259 hi hz0 hz1 hz2 rfl (by decide) HO.out (H1.out.below hb) (by unfold maxLen;omega) (by omega) hsz;rw[aaF,abg]at ho';obtain⟨ll,j5,rfl⟩:=aU ho';have hb':=bH hb hg' (fun j hj=>(HO.out.lt j hj).1) (aad _);have HH:Hid (_/\_):=⟨ho',hb'⟩
     clear ho' hb' hg';go_wp2_with (at_builtin;refine aa6 _ rfl _ _ _ _ rfl _ _ rfl rfl _ _ hr ?_)
     go_roundw
     case rel=>exact⟨1,by omega,rfl,_,_,_,_,rfl,HH.out.1,HH.out.2,.inr (.inl ⟨rfl,rfl,rfl⟩)⟩
     case measure=>simp[intOf]
    ·obtain⟨v',w',hr,ho',hg'⟩:=cj (ty:=259) Tryz.underlying259 hi hz0 hz1 hz2 rfl (by decide) HO.out (H2.out.below hb) (by unfold maxLen;omega) (by omega) hsz;obtain⟨ll,j5,rfl⟩:=aU ho';have hb':=bH hb hg' (fun j hj=>(HO.out.lt j hj).1) (aad _);have HH:Hid (_/\_):=⟨ho',hb'⟩
     clear ho' hb' hg';go_wp2_with (at_builtin;refine aa6 _ rfl _ _ _ _ rfl _ _ rfl rfl _ _ hr ?_)
     go_roundw
     case rel=>exact⟨2,by omega,rfl,_,_,_,_,rfl,HH.out.1,HH.out.2,.inr (.inr ⟨rfl,rfl,rfl⟩)⟩
     case measure=>simp[intOf]
    ·go_wp2
     go_ret
     exact⟨_,rfl,HO.out,hb⟩
theorem Sv (n:Nat)(w:World)(hn:n<=1000000): Calls Tryz.prog 259 #[.slice none 0 0,.int .i64 n] w fun e w'=>∃v,e=.returned v/\w'.ownsRow w.heap.size 3 1 v 0 []/\Below w.heap.size w w':=by
 obtain⟨i0,hi,hz0,hz1,hz2⟩:=aaX Tryz.info3;by_cases h0:n=0
 ·subst h0
  go_enter Tryz.func259,Tryz.ntmps259
  go_wp2
  go_ret
  exact⟨_,rfl,aba _ _ _ _,aak _ _⟩
 ·have hr:=fun (w:World) ty=>Lib.run_append_nil_zeros (P:=Tryz.prog) w 24 3 ty 3 i0 (.int .i64 0) .i64 .i64 Tryz.underlying24 Tryz.underlying3 hi hz0 n (by omega) (by omega) (by omega) (by rw[hz2];omega);have hge:=grownCap_ge w n 0 3;have hle:=grownCap_le_maxLen w n 0 3 (by unfold maxLen;omega);have hng:¬(n:Int)<0:=by omega
  have hpos:(n:Int)>0:=by omega
  go_enter Tryz.func259,Tryz.ntmps259
  go_wp2_with (at_builtin;refine aa6 _ rfl _ _ _ _ rfl _ _ rfl rfl _ _ (hr _ _) ?_)
  go_ret
  refine⟨_,rfl,⟨by simp,.inr ⟨w.heap.size,_,_,rfl,aad _,heap_alloc_new w _,aaj _,hle,?_,by simp⟩⟩,?_⟩
  ·simp only[Array.size_append,size_zeroCells,List.size_toArray,aao,abS];omega
  ·have h:=ag w (.cells (Builtin.zeroCells #[.int .i64 0] n++Builtin.zeroCells #[.int .i64 0] (grownCap w n 0 3-n)) 3);exact⟨h.os,h.tape,h.output,h.size,h.block⟩
theorem LP (A cap n1 n2:Nat)(v1 v2:Value)(xs ys:List Value)(w:World)(hA:w.heap[A]?=some (.cells #[v1,v2] 24 (0,0)))(h1:Src w 1 v1 n1 xs)(h2:Src w 1 v2 n2 ys)(hn:n1+n2<=1000000): Calls Tryz.prog 257 #[.slice (some ⟨A,0,none⟩) 2 cap] w fun e w'=>∃v,e=.returned v/\w'.ownsRow w.heap.size 3 1 v (n1+n2) (xs++ys)/\Below w.heap.size w w':=by
 obtain⟨i0,hi,hz0,hz1,hz2⟩:=aaX Tryz.info3;obtain⟨c0,c1,fz,hlt⟩:=fq hA;obtain⟨a1,p1,e1,_⟩:=h1.val;obtain⟨a2,p2,e2,_⟩:=h2.val;have HA:Hid (w.heap[A]?=_):=hA;have H1:Hid (Src _ _ _ _ _):=h1;have H2:Hid (Src _ _ _ _ _):=h2;subst e1 e2;clear h1 h2 hA
 go_enter Tryz.func257,Tryz.ntmps257
 go_wp2
 go_loop [3,5,11] (fun sz _ ix=>∃k:Nat,k<=2/\ix=.int .i64 k/\((k=0/\sz=.int .i64 0)\/(k=1/\sz=.int .i64 n1)\/(k=2/\sz=.int .i64 ((n1:Int)+n2)))) (fun _ _ ix=>2-(intOf ix).toNat)
 case atStart=>exact⟨0,by omega,rfl,.inl ⟨rfl,rfl⟩⟩
 case round =>
  obtain⟨k,hk,rfl,hh⟩:=hrel;rcases hh with⟨rfl,rfl⟩|⟨rfl,rfl⟩|⟨rfl,rfl⟩
  ·have g1:¬(n1:Int)<0:=by omega
   go_wp2
   go_round
   case rel=>exact⟨1,by omega,rfl,.inr (.inl ⟨rfl,by simp⟩)⟩
   case measure=>simp[intOf]
  ·have g1:¬(n1:Int)+(n2:Int)<0:=by omega
   go_wp2
   go_round
   case rel=>exact⟨2,by omega,rfl,.inr (.inr ⟨rfl,rfl⟩)⟩
   case measure=>simp[intOf]
  ·have hgr:=Sv (n1+n2) w hn;rw[show ((n1+n2:Nat):Int)=(n1:Int)+(n2:Int) by omega]at hgr;go_wp2_with fail;refine hgr.mono ?_;rintro e w1 ⟨v0,rfl,ho,hb⟩;obtain⟨oa,oc,rfl⟩:=aD ho;have HO:Hid (w1.ownsRow _ _ _ _ _ _):=ho;clear hgr ho;go_wp2
   go_loopw [6,8,27] (fun nv _ ix wq=>∃k:Nat,k<=2/\ix=.int .i64 k/\∃(m:Nat) (zs:List Value) (oa:Option Addr) (oc:Nat),nv=.slice oa m oc/\Hid (wq.ownsRow w.heap.size 3 1 (.slice oa m oc) m zs)/\Below w.heap.size w wq/\((k=0/\m=0/\zs=[])\/(k=1/\m=n1/\zs=xs)\/(k=2/\m=n1+n2/\zs=xs++ys))) (fun _ _ ix _=>2-(intOf ix).toNat)
   case atStart=>exact⟨0,by omega,rfl,0,[],oa,oc,rfl,HO,hb,.inl ⟨rfl,rfl,rfl⟩⟩
   case round =>
    clear HO hb;obtain⟨k,hk,rfl,m,zs,oa,oc,rfl,HO,hb,hh⟩:=hrel;have hsz:=hb.size;have d0:=(hb.cell (p:=⟨A,0,none⟩) hlt).trans c0;have d1:=(hb.cell (p:=⟨A,1,none⟩) hlt).trans c1;rcases hh with⟨rfl,rfl,rfl⟩|⟨rfl,rfl,rfl⟩|⟨rfl,rfl,rfl⟩
    ·obtain⟨v',w',hr,ho',hg'⟩:=cj (ty:=24) Tryz.underlying24 hi hz0 hz1 hz2 rfl (by decide) HO.out (H1.out.below hb) (by unfold maxLen;omega) (by omega) hsz;rw[aaF,abg]at ho';obtain⟨ll,j5,rfl⟩:=aD ho';have hb':=bH hb hg' (fun j hj=>(HO.out.lt j hj).1) (aad _);have HH:Hid (_/\_):=⟨ho',hb'⟩
     clear ho' hb' hg';go_wp2_with (at_builtin;refine aa6 _ rfl _ _ _ _ rfl _ _ rfl rfl _ _ hr ?_)
     go_roundw
     case rel=>exact⟨1,by omega,rfl,_,_,_,_,rfl,HH.out.1,HH.out.2,.inr (.inl ⟨rfl,rfl,rfl⟩)⟩
     case measure=>simp[intOf]
    ·obtain⟨v',w',hr,ho',hg'⟩:=cj (ty:=24) Tryz.underlying24 hi hz0 hz1 hz2 rfl (by decide) HO.out (H2.out.below hb) (by unfold maxLen;omega) (by omega) hsz;obtain⟨ll,j5,rfl⟩:=aD ho';have hb':=bH hb hg' (fun j hj=>(HO.out.lt j hj).1) (aad _);have HH:Hid (_/\_):=⟨ho',hb'⟩
     clear ho' hb' hg';go_wp2_with (at_builtin;refine aa6 _ rfl _ _ _ _ rfl _ _ rfl rfl _ _ hr ?_)
     go_roundw
     case rel=>exact⟨2,by omega,rfl,_,_,_,_,rfl,HH.out.1,HH.out.2,.inr (.inr ⟨rfl,rfl,rfl⟩)⟩
     case measure=>simp[intOf]
    ·go_wp2
     go_ret
     exact⟨_,rfl,HO.out,hb⟩
abbrev Fa (k:Nat):Value:=.int .i64 (k:Int)
def cellsOf (l:List Mb):List Value:=l.flatMap (fun x=>[x.val.1,x.val.2])
theorem ma (l:List Mb):(cellsOf l).length=l.length*2:=by
 induction l with
 | nil=>rfl
 | cons x l ih=>simp only[cellsOf,List.flatMap_cons,aac,aao,abS]at *;omega
theorem iI (a b:List Mb):cellsOf (a++b)=cellsOf a++cellsOf b:=by simp[cellsOf]
theorem sN (l:List Mb)(j:Nat)(h:j<l.length):(cellsOf l)[j*2]?=some l[j].val.1/\(cellsOf l)[j*2+1]?=some l[j].val.2:=by
 induction l generalizing j with
 | nil=>simp at h
 | cons x l ih =>
  cases j with
  | zero=>simp[cellsOf]
  | succ j =>
   have h2:=ih j (by simpa using h)
   have e:∀(a b:Value) (r:List Value) (k:Nat),([a,b]++r)[2+k]?=r[k]?:=fun a b r k=>by
    rw[aaG (by simp)];simp
   have ec:cellsOf (x::l)=[x.val.1,x.val.2]++cellsOf l:=rfl;rw[ec,show (j+1)*2=2+j*2 by omega,show 2+j*2+1=2+(j*2+1) by omega,e,e];exact h2
structure iZ (w:World) (x:Mb):Prop where
 src:Src w 1 (.slice x.a x.n x.c) x.n (x.ns.map Fa)
 typ:∀ad,x.a=some ad->x.ns≠[]->∃cs fr,w.heap[ad.block]?=some (.cells cs 3 fr)
theorem iZ.below {w w':World}{x:Mb}(h:iZ w x)(k:Below w.heap.size w w'):iZ w' x :=
 ⟨h.src.below k,fun ad e hne=>by
  obtain⟨cs,fr,q⟩:=h.typ ad e hne
  exact⟨cs,fr,(k.block _ (aab q)).trans q⟩⟩
theorem Fb {w:World}{base e n:Nat}{v:Value}{xs:List Value}(h:w.ownsRow base e 2 v n xs)(g:Nat)(hg:v.ownBlock=some g):∃cur,w.heap[g]?=some (.cells cur e (0,0)):=by
 rcases h.2 with⟨rfl,_⟩|⟨g',cap,cur,rfl,hb,hg',_⟩
 ·simp[Value.ownBlock]at hg
 ·simp[Value.ownBlock]at hg;subst hg;exact⟨cur,hg'⟩
theorem iZ.grown {w w':World}{x:Mb}{base n:Nat}{v:Value}{xs:List Value}(h:iZ w x)(ho:w.ownsRow base 262 2 v n xs)(g:w.grownBy w' v.ownBlock):iZ w' x:=by
 have key:∀ad,x.a=some ad->x.ns≠[]->w'.heap[ad.block]?=w.heap[ad.block]?:=fun ad e hne=>by
  obtain⟨cs,fr,q⟩:=h.typ ad e hne;refine g.block _ (aab q) (fun e2=>?_);obtain⟨cur,q2⟩:=Fb ho _ e2.symm;rw[q]at q2;simp at q2
 obtain⟨⟨⟨a,c,h1,h2,h3⟩,h4,h5⟩,h6⟩:=h;refine⟨⟨⟨a,c,h1,h2,fun ad e hne=>?_⟩,h4,h5⟩,fun ad e hne=>?_⟩
 ·obtain⟨q1,q2⟩:=h3 ad e hne;simp only[abd]at h1;have k:=key ad (h1.1.trans e) (fun hh=>hne (by rw[hh];rfl));exact⟨aar q1 g.size,fun j u hj=>(aaT (w:=w) (a:=ad.add j) (by rw[add_block];exact k)).trans (q2 j u hj)⟩
 ·obtain⟨cs,fr,q⟩:=h6 ad e hne;exact⟨cs,fr,(key ad e hne).trans q⟩
structure ND (w:World) (base:Nat) (v:Value) (l:List Mb):Prop where
 own:w.ownsRow base 262 2 v l.length (cellsOf l)
 nums:∀x∈l,iZ w x
def cV (l:List Mb)(k:Nat):Mb:=l[k]?.getD ⟨0,none,0,0,[]⟩
theorem dS (l:List Mb)(k:Nat)(h:k<l.length):cV l k=l[k]:=by rw[cV,aai h];rfl
theorem LQ {w:World}{base g cap n:Nat}{l:List Mb}(h:w.ownsRow base 262 2 (.slice (some ⟨g,0,none⟩) n cap) n (cellsOf l))(hl:l.length=n):aW w g n (fun k=>(cV l k,k)):=by
 rcases h.2 with⟨h',_⟩|⟨g',cap',cur,h',hb,hg,hnc,hcm,hcs,htake⟩
 ·simp at h'
 ·simp only[abd,abH,Addr.mk.injEq,and_true,abG]at h';obtain⟨rfl,rfl⟩:=h';refine⟨cur,hg,by rw[hcs];exact aaU _ hnc,fun j hj=>?_⟩;have hj':j<l.length:=by omega
  obtain⟨q1,q2⟩:=sN l j hj';rw[<-htake]at q1 q2;rw[abx]at q1 q2;rw[aaf (by omega)]at q1 q2;show cur[j*2]?=some (cV l j).val.1/\cur[j*2+1]?=some (cV l j).val.2;rw[dS l j hj',<-Array.getElem?_toList,<-Array.getElem?_toList];exact⟨q1,q2⟩
theorem LR {w:World}{base size n e:Nat}{v:Value}{xs:List Value}(h:w.ownsRow base e size v n xs)(h1:∀u∈xs,u.oneCell'=true):Src w size v n xs:=by
 refine⟨?_,h.1,h1⟩;rcases h.2 with⟨rfl,rfl⟩|⟨g,cap,cur,rfl,hb,hg,hnc,hcm,hcs,htake⟩
 ·exact⟨none,0,rfl,fun _=>⟨rfl,rfl⟩,fun ad e=>nomatch e⟩
 ·refine⟨_,_,rfl,(fun e=>nomatch e),fun ad e hne=>?_⟩;cases e;exact⟨aab hg,fun j u hj=>h.cells (g:=g) rfl j u hj⟩
theorem Ip {w:World}{base e size n m c:Nat}{ad:Addr}{v:Value}{xs:List Value}(h:w.ownsRow base e size v n xs)(hv:v=.slice (some ad) m c):∃b,ad=⟨b,0,none⟩/\base<=b:=by
 rcases h.2 with⟨rfl,_⟩|⟨g,cap,cur,rfl,hb,_⟩
 ·cases hv
 ·simp only[abd,abH]at hv;exact⟨g,hv.1.symm,hb⟩
def Two (x y z:Mb):Prop:=z.w=x.w+y.w/\z.ns=x.ns++y.ns/\z.n=x.n+y.n
def qJ (l out:List Mb):Prop:=out.length*2<=l.length/\∀j,j<out.length->Two (cV l (2*j)) (cV l (2*j+1)) (cV out j)
theorem Iq (T n cap:Nat)(ao:Option Addr)(l:List Mb)(w:World)(hl:l.length=n)(hT:0<n->ao=some ⟨T,0,none⟩/\aW w T n (fun k=>(cV l k,k)))(d9:∀x∈l,iZ w x)(M:Int)(hM:M<=1099511627776)(hw:∀x∈l,0<=x.w/\x.w<=M)(hx:∀x∈l,x.n<=400000)(hn:n<=100000): Calls Tryz.prog 247 #[.slice ao n cap] w fun e w'=>∃v out,e=.returned v/\ND w' w.heap.size v out/\qJ l out/\out.length=n/2/\Below w.heap.size w w'/\∀z∈out,∀ad,z.a=some ad->∃b,ad=⟨b,0,none⟩/\w.heap.size<=b:=by
 obtain⟨i0,hi,hz0,hz1,hz2⟩:=aaX Tryz.infoBundle
 go_enter Tryz.func247,Tryz.ntmps247
 go_wp2
 go_loopw [3,4] (fun ov iv wr=>∃(j:Nat) (out:List Mb) (oa:Option Addr) (oc:Nat),2*j<=n/\out.length=j/\iv=.int .i64 (2*j+1:Nat)/\ov=.slice oa j oc/\Hid (ND wr w.heap.size (.slice oa j oc) out)/\Hid (qJ l out/\∀z∈out,∀ad,z.a=some ad->∃b,ad=⟨b,0,none⟩/\w.heap.size<=b)/\Below w.heap.size w wr) (fun _ iv _=>n+1-(intOf iv).toNat)
 case atStart=>exact⟨0,[],none,0,by omega,rfl,rfl,rfl,⟨aba _ _ _ _,by simp⟩,⟨⟨by simp,fun j hj=>by simp at hj⟩,by simp⟩,aak _ _⟩
 case round =>
  obtain⟨j,out,oa,oc,hj,hol,rfl,rfl,HB,HP,hb⟩:=hrel;obtain⟨I,hI⟩:∃I:Nat,I=2*j+1:=⟨_,rfl⟩
  have HI:Hid (I=2*j+1):=hI;rw[<-hI];have hI1:I<=2*j+1:=by omega
  have hI2:2*j+1<=I:=by omega
  clear hI;by_cases hlt:I<n
  ·obtain⟨rfl,hrow⟩:=hT (by omega);have hr2:aW wr T n (fun k=>(cV l k,k)):=hrow.kept (hb.block _ hrow.lt);have x1:wr.cell? ⟨T,(I-1)*2,none⟩=some (cV l (I-1)).val.1/\wr.cell? ⟨T,(I-1)*2+1,none⟩=some (cV l (I-1)).val.2:=hr2.cell (I-1) (by omega);have x2:wr.cell? ⟨T,I*2,none⟩=some (cV l I).val.1/\wr.cell? ⟨T,I*2+1,none⟩=some (cV l I).val.2:=hr2.cell I (by omega);have ba:=hr2.lt;have m1:cV l (I-1)∈l:=by rw[dS l _ (by omega)];exact aaR _
   have m2:cV l I∈l:=by rw[dS l _ (by omega)];exact aaR _
   have n1:=(d9 _ m1).below (hb.mono (aad _));have n2:=(d9 _ m2).below (hb.mono (aad _));have w1:=hw _ m1;have w2:=hw _ m2;have k1:=hx _ m1;have k2:=hx _ m2
   have Zy:Hid (cV l (2*j)=cV l (I-1)/\cV l (2*j+1)=cV l I):=by
    show _/\_;rw[HI.out];exact⟨rfl,rfl⟩
   generalize cV l (I-1)=X at *;generalize cV l I=Y at *;obtain⟨xw,xa,xn,xc,xs⟩:=X;obtain⟨yw,ya,yn,yc,ys⟩:=Y;obtain⟨x10,fH⟩:=x1;obtain⟨x20,gd⟩:=x2;simp only at x10 fH x20 gd w1 w2 k1 k2;have OU:(I:Int)-1=((I-1:Nat):Int):=by omega
   have hwp:IntKind.i64.wrap ((I:Int)-1)=((I-1:Nat):Int):=by rw[aah _ (by omega)];omega
   have acE:IntKind.i64.wrap ((I-1:Nat):Int)=((I-1:Nat):Int):=aah _ (by omega);have hin:((I-1:Nat):Int)<(n:Int):=by omega
   have hin2:I-1<n:=by omega
   have hw3:IntKind.i64.wrap (xw+yw)=xw+yw:=aah _ (by omega);have hlt':(I:Int)<(n:Int):=by omega
   go_wp2;have hS:wr.drew.cell? ⟨T,(I-1)*2,none⟩=some (.int .i64 xw)/\wr.drew.cell? ⟨T,(I-1)*2+1,none⟩=some (.slice xa xn xc)/\wr.drew.cell? ⟨T,I*2,none⟩=some (.int .i64 yw)/\wr.drew.cell? ⟨T,I*2+1,none⟩=some (.slice ya yn yc):=⟨x10,fH,x20,gd⟩
   refine aE (fun w'=>w'.cell? ⟨T,(I-1)*2,none⟩=some (.int .i64 xw)/\w'.cell? ⟨T,(I-1)*2+1,none⟩=some (.slice xa xn xc)/\w'.cell? ⟨T,I*2,none⟩=some (.int .i64 yw)/\w'.cell? ⟨T,I*2+1,none⟩=some (.slice ya yn yc)) 999 ?_;refine am [0,1,2,3,4,5,6,7,8,9,10,11,12,13,14,15,16,17,18,19,20,21,22,23] ?_
   iterate 24 (refine ay hS ?_;try simp only[Act.put])
   refine aj ?_;refine ai 24 fun K hK=>?_;go_simp;have HN:Hid (Src wr 1 (.slice xa xn xc) xn (xs.map Fa)/\Src wr 1 (.slice ya yn yc) yn (ys.map Fa)):=⟨n1.src,n2.src⟩
   have kA:=ag wr (.cells #[.slice xa xn xc,.slice ya yn yc] 24);have hA:(wr.alloc (.cells #[.slice xa xn xc,.slice ya yn yc] 24)).drew.heap[wr.heap.size]?=some (.cells #[.slice xa xn xc,.slice ya yn yc] 24 (0,0)):=ak wr _;have hszA:(wr.alloc (.cells #[.slice xa xn xc,.slice ya yn yc] 24)).drew.heap.size=wr.heap.size+1:=by simp
   have kA':Below wr.heap.size wr (wr.alloc (.cells #[.slice xa xn xc,.slice ya yn yc] 24)).drew:=⟨kA.os,kA.tape,kA.output,kA.size,kA.block⟩
   clear kA n1 n2;generalize (wr.alloc (.cells #[.slice xa xn xc,.slice ya yn yc] 24)).drew=wA at *;obtain⟨Sw,_⟩:=jJ kA';have Sx:wA.cell? ⟨T,(I-1)*2,none⟩=some (.int .i64 xw)/\wA.cell? ⟨T,(I-1)*2+1,none⟩=some (.slice xa xn xc)/\wA.cell? ⟨T,I*2,none⟩=some (.int .i64 yw)/\wA.cell? ⟨T,I*2+1,none⟩=some (.slice ya yn yc):=⟨(Sw T _ ba).trans hS.1,(Sw T _ ba).trans hS.2.1,(Sw T _ ba).trans hS.2.2.1,(Sw T _ ba).trans hS.2.2.2⟩
   refine hK _ _ (fun _=>Sx) ?_;clear hK K Sw;refine ai 25 fun K hK=>?_;go_simp;refine (LP wr.heap.size 2 xn yn _ _ _ _ wA hA (HN.out.1.below kA') (HN.out.2.below kA') (by omega)).mono ?_;rintro e w5 ⟨vv,rfl,Gx,hb5⟩;obtain⟨za,zc,rfl⟩:=aD Gx;obtain⟨Sz,_⟩:=jJ hb5;have LT:T<wA.heap.size:=by omega
   have hS5:w5.cell? ⟨T,(I-1)*2,none⟩=some (.int .i64 xw)/\w5.cell? ⟨T,(I-1)*2+1,none⟩=some (.slice xa xn xc)/\w5.cell? ⟨T,I*2,none⟩=some (.int .i64 yw)/\w5.cell? ⟨T,I*2+1,none⟩=some (.slice ya yn yc):=⟨(Sz T _ LT).trans Sx.1,(Sz T _ LT).trans Sx.2.1,(Sz T _ LT).trans Sx.2.2.1,(Sz T _ LT).trans Sx.2.2.2⟩
   refine hK _ _ (fun _=>hS5) ?_;clear hK K Sz;refine ai 26 fun K hK=>?_;go_simp;refine hK _ _ (fun _=>hS5) ?_;clear hK K;refine ai 27 fun K hK=>?_;go_simp;have Fc:T<w5.heap.size:=by have:=hb5.size;omega
   have kB:=ag w5 (.cells #[.int .i64 (xw+yw),.slice za (xn+yn) zc] 262);obtain⟨SA,_⟩:=jJ kB;have hSB:(w5.alloc (.cells #[.int .i64 (xw+yw),.slice za (xn+yn) zc] 262)).cell? ⟨T,(I-1)*2,none⟩=some (.int .i64 xw)/\(w5.alloc (.cells #[.int .i64 (xw+yw),.slice za (xn+yn) zc] 262)).cell? ⟨T,(I-1)*2+1,none⟩=some (.slice xa xn xc)/\(w5.alloc (.cells #[.int .i64 (xw+yw),.slice za (xn+yn) zc] 262)).cell? ⟨T,I*2,none⟩=some (.int .i64 yw)/\(w5.alloc (.cells #[.int .i64 (xw+yw),.slice za (xn+yn) zc] 262)).cell? ⟨T,I*2+1,none⟩=some (.slice ya yn yc):=⟨(SA T _ Fc).trans hS5.1,(SA T _ Fc).trans hS5.2.1,(SA T _ Fc).trans hS5.2.2.1,(SA T _ Fc).trans hS5.2.2.2⟩
   refine hK _ _ (fun _=>hSB) ?_;clear hK K SA;have LU:Below wr.heap.size wr (w5.alloc (.cells #[.int .i64 (xw+yw),.slice za (xn+yn) zc] 262)):=(kA'.trans (hb5.mono (by omega))).trans (kB.mono (by have:=hb5.size;omega));have RU:=LU.size
   have HN5:Hid (iZ (w5.alloc (.cells #[.int .i64 (xw+yw),.slice za (xn+yn) zc] 262)) ⟨xw+yw,za,xn+yn,zc,xs++ys⟩):=by
    refine iZ.below (w:=w5) ⟨?_,fun ad e hne=>?_⟩ kB
    ·have:=LR Gx (fun u hu=>by
      rw[<-abo]at hu;obtain⟨k,_,rfl⟩:=List.mem_map.1 hu
      rfl)
     rw[<-abo]at this;exact this
    ·obtain⟨cur,q⟩:=eU Gx ad.block (by simp only at e;rw[e];rfl);exact⟨cur,_,q⟩
   have Ir:(w5.alloc (.cells #[.int .i64 (xw+yw),.slice za (xn+yn) zc] 262)).ownsRow w.heap.size 262 2 (.slice oa j oc) j (cellsOf out):=by
    have:=bK HB.out.own (fun g hg=>LU.block g (HB.out.own.lt g hg).2)
    rwa [hol]at this
   have hsB:Src (w5.alloc (.cells #[.int .i64 (xw+yw),.slice za (xn+yn) zc] 262)) 2 (.slice (some ⟨w5.heap.size,0,none⟩) 1 1) 1 [.int .i64 (xw+yw),.slice za (xn+yn) zc]:=by
    refine⟨⟨_,_,rfl,(fun e=>nomatch e),fun ad e hne=>?_⟩,rfl,fun u hu=>?_⟩
    ·cases e;refine⟨by simp,fun k u hu=>?_⟩;rw[fX,aaF,d8 (ak w5 _)];simpa using hu
    ·simp only[ab0,abC,or_false]at hu;rcases hu with rfl|rfl<;>rfl
   obtain⟨v',w',hr,ho',hg'⟩:=cj (ty:=259) Tryz.underlying259 hi hz0 hz1 hz2 rfl (by decide) Ir hsB (by unfold maxLen;omega) (by omega) (by have:=hb.size;omega);obtain⟨ll,j5,rfl⟩:=aU ho'
   have O6:Hid (ND w' w.heap.size (.slice ll (j+1) j5) (out++[⟨xw+yw,za,xn+yn,zc,xs++ys⟩])):=by
    refine⟨?_,fun z hz=>?_⟩
    ·rw[iI,aac,hol];exact ho'
    ·rcases aa8.1 hz with q|q
     ·exact ((HB.out.nums z q).below LU).grown Ir hg'
     ·rw[abf.1 q];exact HN5.out.grown Ir hg'
   have SC:Hid (qJ l (out++[⟨xw+yw,za,xn+yn,zc,xs++ys⟩])/\∀z∈out++[⟨xw+yw,za,xn+yn,zc,xs++ys⟩],∀ad,z.a=some ad->∃b,ad=⟨b,0,none⟩/\w.heap.size<=b):=by
    refine⟨?_,fun z hz ad e=>?_⟩
    case refine_2 =>
     rcases aa8.1 hz with q|q
     ·exact HP.out.2 z q ad e
     ·rw[abf.1 q]at e;simp only at e;obtain⟨b,hbd,hbl⟩:=Ip Gx (by rw[e]);exact⟨b,hbd,by have:=hb.size;omega⟩
    refine⟨by rw[aac];simp only[abb];omega,fun k hk=>?_⟩;rw[aac,abb]at hk;by_cases e:k=j
    ·subst e;rw[Zy.out.1,Zy.out.2]
     have:cV (out++[⟨xw+yw,za,xn+yn,zc,xs++ys⟩]) k=⟨xw+yw,za,xn+yn,zc,xs++ys⟩:=by
      rw[cV,aaG (by omega),hol];simp
     rw[this];exact⟨rfl,rfl,rfl⟩
    ·have:cV (out++[⟨xw+yw,za,xn+yn,zc,xs++ys⟩]) k=cV out k:=by
      rw[cV,cV,aaS (by omega)]
     rw[this];exact HP.out.1.2 k (by omega)
   have hb':Below w.heap.size w w':=bH (hb.trans (LU.mono hb.size)) hg' (fun k hk=>(Ir.lt k hk).1) (aad _);refine ai 28 fun K hK=>?_;rw[aaf (by kernel_rfl)];refine Lib.wp_append_run _ _ _ _ _ rfl _ _ rfl rfl _ _ hr ?_;have eT:w'.heap[T]?=wr.heap[T]?:=(hb'.block T hrow.lt).trans (hb.block T hrow.lt).symm;have cT:∀o,w'.cell? ⟨T,o,none⟩=wr.cell? ⟨T,o,none⟩:=fun o=>aaT (w:=wr) (a:=⟨T,o,none⟩) eT;have hSw:w'.cell? ⟨T,(I-1)*2,none⟩=some (.int .i64 xw)/\w'.cell? ⟨T,(I-1)*2+1,none⟩=some (.slice xa xn xc)/\w'.cell? ⟨T,I*2,none⟩=some (.int .i64 yw)/\w'.cell? ⟨T,I*2+1,none⟩=some (.slice ya yn yc):=⟨(cT _).trans hS.1,(cT _).trans hS.2.1,(cT _).trans hS.2.2.1,(cT _).trans hS.2.2.2⟩
   refine hK _ _ (fun _=>hSw) ?_;clear hK K
   try simp only[Act.put]
   refine ai 29 fun K hK=>?_;go_simp;refine hK _ _ (fun _=>hSw) ?_;clear hK K;refine ar ?_;clear hr ho' hg' Ir hsB;go_wp2
   go_roundw
   case rel=>exact⟨j+1,_,ll,j5,by omega,by simp[hol],by have:=HI.out;rw[show 2*(j+1)+1=I+2 by omega];go_num,rfl,O6,SC,hb'⟩
   case measure=>simp[intOf];omega
  ·go_wp2
   go_ret
   refine⟨_,out,rfl,?_,HP.out.1,by omega,hb,HP.out.2⟩;exact HB.out
structure ki (w:World) (base:Nat) (v:Value) (l:List Mb):Prop where
 val:(v=.slice none 0 0/\l=[])\/∃T cap,v=.slice (some ⟨T,0,none⟩) l.length cap/\base<=T/\l.length<=cap/\aW w T l.length (fun k=>(cV l k,k))
 nums:∀x∈l,iZ w x
theorem ND.O7 {w:World}{base:Nat}{v:Value}{l:List Mb}(h:ND w base v l):ki w base v l:=by
 refine⟨?_,h.nums⟩;rcases h.own.2 with⟨rfl,hl⟩|⟨g,cap,cur,rfl,hb,_,hnc,_⟩
 ·exact .inl ⟨rfl,aau hl⟩
 ·exact .inr ⟨g,cap,rfl,hb,hnc,LQ h.own rfl⟩
theorem ki.below {w w':World}{base:Nat}{v:Value}{l:List Mb}(h:ki w base v l)(k:Below w.heap.size w w'):ki w' base v l:=by
 refine⟨?_,fun x hx=>(h.nums x hx).below k⟩;rcases h.val with h'|⟨T,cap,h1,h2,hc,h3⟩
 ·exact .inl h'
 ·exact .inr ⟨T,cap,h1,h2,hc,h3.kept (k.block _ h3.lt)⟩
theorem ki.low {w:World}{base base':Nat}{v:Value}{l:List Mb}(h:ki w base v l)(hb:base'<=base):ki w base' v l:=by
 refine⟨?_,h.nums⟩;rcases h.val with h'|⟨T,cap,h1,h2,hc,h3⟩
 ·exact .inl h'
 ·exact .inr ⟨T,cap,h1,by omega,hc,h3⟩
theorem ki.slice {w:World}{base:Nat}{v:Value}{l:List Mb}(h:ki w base v l):∃ao cap,v=.slice ao l.length cap:=by
 rcases h.val with⟨rfl,rfl⟩|⟨T,cap,h1,_⟩
 ·exact⟨_,_,rfl⟩
 ·exact⟨_,_,h1⟩
theorem zp (l:List Mb)(j:Nat)(u:Value)(h:(cellsOf l)[j]?=some u):j/2<l.length/\u=if j%2=0 then (cV l (j/2)).val.1 else (cV l (j/2)).val.2:=by
 have hj:j<(cellsOf l).length:=by
  rcases aaL j (cellsOf l).length with q|q
  ·exact q
  ·rw[aas q]at h;cases h
 rw[ma]at hj;have hl:j/2<l.length:=by omega
 obtain⟨q1,q2⟩:=sN l (j/2) hl;refine⟨hl,?_⟩;rw[dS l _ hl];split
 ·next e=>rw[show j=j/2*2 by omega,q1]at h;simpa using h.symm
 ·next e=>rw[show j=j/2*2+1 by omega,q2]at h;simpa using h.symm
theorem ki.src {w:World}{base:Nat}{v:Value}{l:List Mb}(h:ki w base v l):Src w 2 v l.length (cellsOf l):=by
 refine⟨?_,ma l,fun u hu=>?_⟩
 ·rcases h.val with⟨rfl,rfl⟩|⟨T,cap,rfl,_,_,h3⟩
  ·exact⟨none,0,rfl,fun _=>⟨rfl,rfl⟩,fun ad e=>nomatch e⟩
  ·refine⟨_,_,rfl,(fun e=>nomatch e),fun ad e _=>?_⟩;cases e;refine⟨h3.lt,fun j u hj=>?_⟩;obtain⟨q1,q2⟩:=zp l j u hj;have hc:=h3.cell (j/2) q1;rw[fX,aaF];by_cases e:j%2=0
   ·rw[aaf e]at q2;rw[q2,show j=j/2*2 by omega];rw[show j/2*2/2=j/2 by omega];exact hc.1
   ·rw[aae e]at q2;rw[q2,show j=j/2*2+1 by omega];rw[show (j/2*2+1)/2=j/2 by omega];exact hc.2
 ·obtain⟨x,_,hx⟩:=List.mem_flatMap.1 hu;simp only[ab0,abC,or_false]at hx;rcases hx with rfl|rfl<;>rfl
theorem iZ.kept {w w':World}{x:Mb}{T:Nat}(h:iZ w x)(k:Kp (·=T) w w')(hT:∃cs,w.heap[T]?=some (.cells cs 262 (0,0))):iZ w' x:=by
 obtain⟨cT,hT⟩:=hT
 have key:∀ad,x.a=some ad->x.ns≠[]->w'.heap[ad.block]?=w.heap[ad.block]?:=fun ad e hne=>by
  obtain⟨cs,fr,q⟩:=h.typ ad e hne;refine k.block _ (aab q) (fun e2=>?_);rw[e2,hT]at q;simp at q
 obtain⟨⟨⟨a,c,h1,h2,h3⟩,h4,h5⟩,h6⟩:=h;refine⟨⟨⟨a,c,h1,h2,fun ad e hne=>?_⟩,h4,h5⟩,fun ad e hne=>?_⟩
 ·obtain⟨q1,q2⟩:=h3 ad e hne;simp only[abd]at h1;have kk:=key ad (h1.1.trans e) (fun hh=>hne (by rw[hh];rfl));exact⟨aar q1 k.size,fun j u hj=>(aaT (w:=w) (a:=ad.add j) (by rw[add_block];exact kk)).trans (q2 j u hj)⟩
 ·obtain⟨cs,fr,q⟩:=h6 ad e hne;exact⟨cs,fr,(key ad e hne).trans q⟩
theorem uG (fv:Value)(w:World):Calls Tryz.prog 260 #[.slice none 0 0,.int .i64 0,.int .i64 0,fv] w fun e w'=>e=.returned (.tuple #[])/\w'=w:=by
 go_enter Tryz.func260,Tryz.ntmps260
 go_wp2
 go_loopw [8] (fun i wr=>i=.int .i64 1/\wr=w) (fun _ _=>0)
 case atStart=>exact⟨rfl,rfl⟩
 case round =>
  obtain⟨rfl,rfl⟩:=hrel;go_wp2
  go_end0
  exact⟨rfl,rfl⟩
theorem Bt (fv:Value)(w:World):Calls Tryz.prog 258 #[.slice none 0 0,.int .i64 0,fv] w fun e w'=>e=.returned (.tuple #[])/\w'=w:=by
 go_enter Tryz.func258,Tryz.ntmps258
 go_wp2
 go_loopw [7,8] (fun a b wr=>a=.int .i64 0/\b=.int .i64 20/\wr=w) (fun _ _ _=>0)
 case atStart=>exact⟨rfl,rfl,rfl⟩
 case round =>
  obtain⟨rfl,rfl,rfl⟩:=hrel;go_wp2_with (go_at_call 260;refine (uG _ _).mono ?_;rintro e w' ⟨rfl,rfl⟩)
  rename World=>wA
  go_loopw [6] (fun a wr=>a=.int .i64 20/\wr=wA) (fun _ _=>0)
  case atStart=>exact⟨rfl,rfl⟩
  case round =>
   obtain⟨rfl,rfl⟩:=hrel;go_wp2
   go_end0
   exact⟨rfl,rfl⟩
theorem Dg (kc:Nat)(hc:gD kc)(base:Nat)(v:Value)(l:List Mb)(w:World)(h:ki w base v l)(hn:l.length<=1000000)(hb:base<=w.heap.size): Calls Tryz.prog 248 #[v,.func (.func kc) #[] #[]] w fun e w'=>e=.returned (.tuple #[])/\∃l',ki w' base v l'/\Rf.Stable Mb.w l l'/\Below base w w':=by
 rcases h.val with⟨rfl,rfl⟩|⟨T,cap,rfl,hT,hcap,hr⟩
 ·go_enter Tryz.func248,Tryz.ntmps248
  go_wp2_with (go_at_call 258;refine (Bt _ _).mono ?_;rintro e w' ⟨rfl,rfl⟩)
  go_end0
  exact⟨rfl,[],h,Rf.Stable.self List.Pairwise.nil,aak _ _⟩
 ·refine (LM kc hc T l.length cap (cV l) w hr hn).mono ?_;rintro e w1 ⟨rfl,g,h1,h2,h3⟩;obtain⟨cs,hcs,_⟩:=hr
  have e1:(List.range l.length).map (cV l)=l:=by
   apply abt
   ·simp
   ·intro k q1 q2;simp only[abL,abP];exact dS l k q2
  rw[e1]at h2;refine⟨rfl,_,⟨.inr ⟨T,cap,by simp,hT,by simpa using hcap,?_⟩,fun x hx=>?_⟩,h2,h3.below hb (fun k _ hk=>by omega)⟩
  ·have e2:((List.range l.length).map (fun k=>(g k).1)).length=l.length:=by simp
   rw[e2];refine h1.congr (fun j hj=>?_);show (cV ((List.range l.length).map (fun k=>(g k).1)) j).val=(g j).1.val;rw[dS _ j (by rw[e2];exact hj)];simp
  ·exact (h.nums x ((h2.perm.mem_iff).1 hx)).kept h3 ⟨cs,hcs⟩
end Go.Proofs.YtmfijackgekioaaGreatDoor
