import Derived.Test.YtmfijackgekioaaGreatDoorQ08
import Derived.Test.YtmfijackgekioaaGreatDoorQ11
set_option maxHeartbeats 2000000
set_option maxRecDepth 100000
namespace Go.Proofs.YtmfijackgekioaaGreatDoor
open Go.RowKit
structure Mb where
 w:Int
 a:Option Addr
 n:Nat
 c:Nat
 ns:List Nat
abbrev Mb.val (x:Mb):Value×Value:=(.int .i64 x.w,.slice x.a x.n x.c)
abbrev Mb.agg (x:Mb):Value:=.agg #[.int .i64 x.w,.slice x.a x.n x.c]
abbrev aW (w:World)(T n:Nat)(f:Nat->Mb×Nat):Prop:=jr w T 262 n (fun j=>(f j).1.val)
theorem aW.swap {w:World}{T n:Nat}{f:Nat->Mb×Nat}(h:aW w T n f){i j:Nat}(hi:i<n)(hj:j<n)(hij:i≠j): aW (((((w.setCell ⟨T,i*2,none⟩ (f j).1.val.1).setCell ⟨T,i*2+1,none⟩ (f j).1.val.2).setCell ⟨T,j*2,none⟩ (f i).1.val.1).setCell ⟨T,j*2+1,none⟩ (f i).1.val.2)) T n (Rf.sw f i j):=by
 refine ((h.put i hi _ _).put j hj _ _).congr (fun k _=>?_);unfold Rf.sw;by_cases e1:k=j
 ·have e2:¬k=i:=by omega
  simp only[e1,if_true];rw[aae (by omega)]
 ·by_cases e2:k=i
  ·simp only[e2,if_true];rw[aae (by omega)]
  ·simp only[e1,e2,acA]
theorem rB (w:World)(T i j:Nat)(a b c d:Value):Kp (·=T) w ((((w.setCell ⟨T,i*2,none⟩ a).setCell ⟨T,i*2+1,none⟩ b).setCell ⟨T,j*2,none⟩ c).setCell ⟨T,j*2+1,none⟩ d) :=
 (Bb w T i a b).trans (Bb _ T j c d)
theorem ke (T n cap a b m:Nat)(fv:Value)(f:Nat->Mb×Nat)(w:World)(h:aW w T n f)(hab:a+m<=b)(hb:b+m<=n)(hn:n<=1000000): Calls Tryz.prog 263 #[.slice (some ⟨T,0,none⟩) n cap,.int .i64 a,.int .i64 b,.int .i64 m,fv] w fun e w'=>e=.returned (.tuple #[])/\aW w' T n (Rf.yo f a b m)/\Rf.fL n (Rf.yo f a b m) f/\Kp (·=T) w w':=by
 go_enter Tryz.func263,Tryz.ntmps263
 go_wp2
 go_loopw [10] (fun iv wr=>∃i:Nat,i<=m/\iv=.int .i64 i/\Hid (aW wr T n (Rf.yo f a b i))/\Hid (Rf.fL n (Rf.yo f a b i) f)/\Kp (·=T) w wr) (fun iv _=>m-(intOf iv).toNat)
 case atStart=>exact⟨0,aaj _,rfl,by rw[Rf.zd];exact h,by rw[Rf.zd];exact Rf.fL.refl _ _,Kp.refl _ _⟩
 case round =>
  obtain⟨i,hi,rfl,HR,HP,hk⟩:=hrel;by_cases hlt:i<m
  ·have x1:=HR.out.cell (a+i) (by omega);have x2:=HR.out.cell (b+i) (by omega);have fz:=fun j=>HR.out.frozen j;have ba:=HR.out.lt;have S1:=HR.out.swap (i:=a+i) (j:=b+i) (by omega) (by omega) (by omega);rw[Rf.ze f hab hlt]at S1
   have P1:Rf.fL n (Rf.yo f a b (i+1)) f:=by
    rw[<-Rf.ze f hab hlt];exact (Rf.fL.sw n _ (by omega) (by omega)).trans HP.out
   generalize (Rf.yo f a b i (a+i)).1=X at *;generalize (Rf.yo f a b i (b+i)).1=Y at *;obtain⟨xw,xa,xn,xc,xs⟩:=X;obtain⟨yw,ya,yn,yc,ys⟩:=Y;obtain⟨x10,fH⟩:=x1;obtain⟨x20,gd⟩:=x2;simp only at x10 fH x20 gd S1;have e1:((a:Int)+(i:Int)).toNat=a+i:=by omega
   have e2:((b:Int)+(i:Int)).toNat=b+i:=by omega
   have K1:=hk.trans (rB wr T (a+i) (b+i) (.int .i64 yw) (.slice ya yn yc) (.int .i64 xw) (.slice xa xn xc));have HS:Hid (_/\_/\_):=⟨S1,P1,K1⟩
   clear S1 P1 K1 HP HR h hk;go_wp2
   go_region
   go_wp2
   go_roundw
   case rel=>exact⟨i+1,by omega,by go_num,HS.out.1.kept rfl,HS.out.2.1,HS.out.2.2.drew⟩
   case measure=>simp[intOf];omega
  ·go_wp2
   go_end0
   have:i=m:=by omega
   subst this;exact⟨rfl,HR.out,HP.out,hk⟩
theorem fD (T n cap a m b:Nat)(fv:Value)(f:Nat->Mb×Nat)(w:World)(h:aW w T n f)(ham:a<m)(hmb:m<b)(hb:b<=n)(hn:n<=1000000): Calls Tryz.prog 262 #[.slice (some ⟨T,0,none⟩) n cap,.int .i64 a,.int .i64 m,.int .i64 b,fv] w fun e w'=>e=.returned (.tuple #[])/\aW w' T n (Rf.ie f a m b)/\Rf.fL n (Rf.ie f a m b) f/\Kp (·=T) w w':=by
 go_enter Tryz.func262,Tryz.ntmps262
 go_wp2
 go_loopw [10,11] (fun iv jv wr=>∃(i j:Nat) (g:Nat->Mb×Nat),0<i/\0<j/\i<=m/\m+j<=n/\iv=.int .i64 i/\jv=.int .i64 j/\Hid (Rf.ie g (m-i) m (m+j)=Rf.ie f a m b)/\Hid (aW wr T n g)/\Hid (Rf.fL n g f)/\Kp (·=T) w wr) (fun iv jv _=>(intOf iv).toNat+(intOf jv).toNat)
 case atStart=>exact⟨m-a,b-m,f,by omega,by omega,by omega,by omega,by go_num,by go_num,by show _=_;rw[show m-(m-a)=a by omega,show m+(b-m)=b by omega],h,Rf.fL.refl _ _,Kp.refl _ _⟩
 case round =>
  clear h;obtain⟨i,j,g,hi0,hj0,him,hjn,rfl,rfl,HG,HR,HP,hk⟩:=hrel;have e1:(m:Int)-(i:Int)=((m-i:Nat):Int):=by omega
  have e2:(m:Int)+(j:Int)-(i:Int)=((m+j-i:Nat):Int):=by omega
  rcases Nat.lt_trichotomy i j with c|c|c
  ·have d1:((i:Int) != (j:Int))=true:=by simp;omega
   have d2:¬(i:Int)>(j:Int):=by omega
   have hcall:=ke T n cap (m-i) (m+j-i) i fv g wr HR.out (by omega) (by omega) hn;go_wp2_with fail;refine hcall.mono ?_;rintro e w1 ⟨rfl,h1,p1,k1⟩;have HH:Hid (_/\_/\_/\_):=⟨(Rf.EU g him c).trans HG.out,h1,p1.trans HP.out,hk.trans k1⟩
   clear hcall h1 p1 k1 HG HR HP hk;go_wp2
   go_roundw
   case rel=>exact⟨i,j-i,_,hi0,by omega,him,by omega,rfl,by go_num,HH.out.1,HH.out.2.1,HH.out.2.2.1,HH.out.2.2.2⟩
   case measure=>simp[intOf];omega
  ·subst c;have d1:((i:Int) != (i:Int))=false:=by simp
   have hcall:=ke T n cap (m-i) m i fv g wr HR.out (by omega) (by omega) hn;go_wp2_with fail;refine hcall.mono ?_;rintro e w1 ⟨rfl,h1,p1,k1⟩;rw[Rf.H8 g him,HG.out]at h1 p1;go_wp2
   go_end0
   exact⟨rfl,h1,p1.trans HP.out,hk.trans k1⟩
  ·have d1:((i:Int) != (j:Int))=true:=by simp;omega
   have d2:(i:Int)>(j:Int):=by omega
   have hcall:=ke T n cap (m-i) m j fv g wr HR.out (by omega) (by omega) hn;go_wp2_with fail;refine hcall.mono ?_;rintro e w1 ⟨rfl,h1,p1,k1⟩;have HH:Hid (_/\_/\_/\_):=⟨(Rf.H5 g him c).trans HG.out,h1,p1.trans HP.out,hk.trans k1⟩
   clear hcall h1 p1 k1 HG HR HP hk;go_wp2
   go_roundw
   case rel=>exact⟨i-j,j,_,by omega,hj0,by omega,hjn,by go_num,rfl,HH.out.1,HH.out.2.1,HH.out.2.2.1,HH.out.2.2.2⟩
   case measure=>simp[intOf];omega
def eG (x y:Int):Int:=if x<y then -1 else if y<x then 1 else 0
theorem pX (x y:Int)(w:World):Calls Tryz.prog 141 #[.int .i64 x,.int .i64 y] w fun e w'=>e=.returned (.int .i64 (eG x y))/\w'=w:=by
 rcases Int.lt_trichotomy x y with h|h|h
 ·have e:eG x y=-1:=by unfold eG;rw[aaf h]
  go_enter Tryz.func141,Tryz.ntmps141
  go_wp2
  go_ret
  first|exact⟨rfl,rfl⟩|exact⟨aC e.symm,rfl⟩
 ·subst h;have e:eG x x=0:=by unfold eG;rw[aae (by omega),aae (by omega)]
  have g1:¬x<x:=by omega
  go_enter Tryz.func141,Tryz.ntmps141
  go_wp2
  go_ret
  first|exact⟨rfl,rfl⟩|exact⟨aC e.symm,rfl⟩
 ·have e:eG x y=1:=by unfold eG;rw[aae (by omega),aaf h]
  have g1:¬x<y:=by omega
  go_enter Tryz.func141,Tryz.ntmps141
  go_wp2
  go_ret
  first|exact⟨rfl,rfl⟩|exact⟨aC e.symm,rfl⟩
theorem fM (x y:Int):eG x y<0↔x<y:=by
 unfold eG;split
 ·omega
 ·split<;>omega
theorem jJ {W w1:World}(hb:Below W.heap.size W w1):(∀b o,b<W.heap.size->w1.cell? ⟨b,o,none⟩=W.cell? ⟨b,o,none⟩)/\(∀b o,b<W.heap.size->w1.frozen? ⟨b,o,none⟩=W.frozen? ⟨b,o,none⟩) :=
 ⟨fun b o h=>hb.cell (p:=⟨b,o,none⟩) h,fun b o h=>hb.frozen (p:=⟨b,o,none⟩) h⟩
structure gD (kc:Nat):Prop where
 cmp:∀w (x y:Mb),Calls Tryz.prog kc #[x.agg,y.agg] w fun e w'=>e=.returned (.int .i64 (eG x.w y.w))/\Below w.heap.size w w'
 call:∀args w,(callFunc kc args).run Tryz.prog w=.ok (.enter kc args) w
theorem O0:gD 249:=by
 refine⟨fun w x y=>?_,fun args w=>by kernel_rfl⟩;obtain⟨xw,xa,xn,xc,xs⟩:=x;obtain⟨yw,ya,yn,yc,ys⟩:=y
 go_enter Tryz.func249,Tryz.ntmps249
 go_wp2_with (go_at_call 141;refine (pX _ _ _).mono ?_;rintro e w' ⟨rfl,rfl⟩)
 go_ret
 exact⟨rfl,((aak _ _).alloc (aad _) _).alloc (by simp) _⟩
theorem O1:gD 255:=by
 refine⟨fun w x y=>?_,fun args w=>by kernel_rfl⟩;obtain⟨xw,xa,xn,xc,xs⟩:=x;obtain⟨yw,ya,yn,yc,ys⟩:=y
 go_enter Tryz.func255,Tryz.ntmps255
 go_wp2_with (go_at_call 141;refine (pX _ _ _).mono ?_;rintro e w' ⟨rfl,rfl⟩)
 go_ret
 exact⟨rfl,((aak _ _).alloc (aad _) _).alloc (by simp) _⟩
theorem aW.below {w w':World}{T n:Nat}{f:Nat->Mb×Nat}(h:aW w T n f)(k:Below w.heap.size w w'):aW w' T n f:=h.kept (k.block _ h.lt)
theorem oY (kc:Nat)(hc:gD kc)(T n cap a b:Nat)(f:Nat->Mb×Nat)(w:World)(h:aW w T n f)(hb:b<=n)(hn:n<=1000000)(ha:a<=1000000)(htag:∀i j,a<=i->i<j->j<b->(f i).2<(f j).2): Calls Tryz.prog 260 #[.slice (some ⟨T,0,none⟩) n cap,.int .i64 a,.int .i64 b,.func (.func kc) #[] #[]] w fun e w'=>e=.returned (.tuple #[])/\∃g,aW w' T n g/\Rf.fL n g f/\Rf.In f g a b/\Rf.dE Mb.w g a b/\Kp (·=T) w w':=by
 have hcall:=hc.call
 go_enter Tryz.func260,Tryz.ntmps260
 go_wp2
 go_loopw [8] (fun iv wr=>∃(i:Nat) (g:Nat->Mb×Nat),a<i/\(i<=b\/i=a+1)/\iv=.int .i64 i/\Hid (aW wr T n g)/\Hid (Rf.fL n g f)/\Hid (Rf.In f g a i)/\Hid (Rf.dE Mb.w g a i)/\Kp (·=T) w wr) (fun iv _=>b-(intOf iv).toNat)
 case atStart=>exact⟨a+1,f,by omega,.inr rfl,by go_num,h,Rf.fL.refl _ _,Rf.In.refl _ _ _,fun i j h1 h2 h3=>by omega,Kp.refl _ _⟩
 case round =>
  clear h;obtain⟨i,g,hai,hib,rfl,HR,HP,HI,HS,hk⟩:=hrel;by_cases hlt:i<b
  ·have hgi:g i=f i:=HI.out.1 i (.inr (aad _))
   have HT:Hid (∀k,a<=k->k<i->(g k).2<(g i).2):=by
    intro k h1 h2;obtain⟨l,l1,l2,e⟩:=HI.out.2 k h1 h2;rw[e,hgi];exact htag l i l1 l2 hlt
   clear hgi;go_wp2
   go_loopw [9] (fun jv wq=>∃j:Nat,a<=j/\j<=i/\jv=.int .i64 j/\Hid (aW wq T n (Rf.ins g j i))/\Hid (Rf.fL n (Rf.ins g j i) f)/\Hid (∀h,j<=h->h<i->(g i).1.w<(g h).1.w)/\Kp (·=T) w wq) (fun jv _=>(intOf jv).toNat)
   case atStart=>exact⟨i,by omega,aad _,rfl,by rw[Rf.oU];exact HR,by rw[Rf.oU];exact HP,fun h h1 h2=>by omega,hk⟩
   case round =>
    clear HR HP hk;obtain⟨j,haj,hji,rfl,HR,HP,HJ,hk⟩:=hrel;by_cases hja:a<j
    ·have x1:=HR.out.cell j (by omega);have x2:=HR.out.cell (j-1) (by omega);have fz:=fun j=>HR.out.frozen j;have ba:=HR.out.lt
     have P1:Rf.fL n (Rf.ins g (j-1) i) f:=by
      rw[<-Rf.oV g (by omega) hji];exact (Rf.fL.sw n _ (by omega) (by omega)).trans HP.out
     have hv1:Rf.ins g j i j=g i:=by unfold Rf.ins;rw[aaf rfl]
     have hv2:Rf.ins g j i (j-1)=g (j-1):=by unfold Rf.ins;rw[aae (by omega),aae (by omega)]
     have S1:∀u,aW u T n (Rf.ins g j i)->aW (((((u.setCell ⟨T,j*2,none⟩ (g (j-1)).1.val.1).setCell ⟨T,j*2+1,none⟩ (g (j-1)).1.val.2).setCell ⟨T,(j-1)*2,none⟩ (g i).1.val.1).setCell ⟨T,(j-1)*2+1,none⟩ (g i).1.val.2)) T n (Rf.ins g (j-1) i):=fun u hu=>by
      have:=hu.swap (i:=j) (j:=j-1) (by omega) (by omega) (by omega);rw[Rf.oV g (by omega) hji,hv1,hv2]at this;exact this
     rw[hv1]at x1;rw[hv2]at x2;obtain⟨x10,fH⟩:=x1;obtain⟨x20,gd⟩:=x2;clear hv1 hv2;have HC:=fun u=>hc.cmp u (g i).1 (g (j-1)).1
     have WS:(g i).1.w<(g (j-1)).1.w->Hid (∀h,j-1<=h->h<i->(g i).1.w<(g h).1.w):=fun hx h h1 h2=>by
      by_cases e:h=j-1
      ·rw[e];exact hx
      ·exact HJ.out h (by omega) h2
     have HE:¬(g i).1.w<(g (j-1)).1.w->Hid (Rf.dE Mb.w (Rf.ins g j i) a (i+1)):=fun hx=>Rf.vB haj hji HS.out HT.out (.inr (by omega)) HJ.out;have zm:Hid (Rf.In f (Rf.ins g j i) a (i+1)):=(HI.out.wide (aad _) (Nat.le_succ _)).trans (Rf.Ba g haj hji (abD _));have K1:=fun (u:World) a b c d=>rB u T j (j-1) a b c d;have hdec:decide ((j:Int)>(a:Int))=true:=by simp;omega
     have hj1:(0:Int)<=(j:Int)-1:=by omega
     have e1:((j:Int)-1).toNat=j-1:=by omega
     have hjn:j<n:=by omega
     have acx:(j:Int)<(n:Int):=by omega
     have hwp:IntKind.i64.wrap ((j:Int)-1)=((j-1:Nat):Int):=by rw[aah _ (by omega)];omega
     have acy:((j-1:Nat):Int)<(n:Int):=by omega
     have acz:j-1<n:=by omega
     generalize hX:(g i).1=X at *;generalize hY:(g (j-1)).1=Y at *;obtain⟨xw,xa,xn,xc,xs⟩:=X;obtain⟨yw,ya,yn,yc,ys⟩:=Y;simp only at x10 fH x20 gd S1 WS HE HC;have LG:Hid (_/\_):=⟨S1,P1⟩
     have HK:Hid (∀(u:World) (a b c d:Value),_):=K1;have HRR:=HR;have WT:Hid (_->_):=WS;have HE':Hid (_->_):=HE;clear S1 P1 K1 WS HE hX hY;by_cases hlt2:xw<yw
     ·have hc1:eG xw yw<0:=(fM _ _).2 hlt2;go_wp2;have hS:wr.drew.cell? ⟨T,j*2,none⟩=some (.int .i64 xw)/\wr.drew.cell? ⟨T,j*2+1,none⟩=some (.slice xa xn xc)/\wr.drew.cell? ⟨T,(j-1)*2,none⟩=some (.int .i64 yw)/\wr.drew.cell? ⟨T,(j-1)*2+1,none⟩=some (.slice ya yn yc):=⟨x10,fH,x20,gd⟩
      refine aE (fun w'=>w'.cell? ⟨T,j*2,none⟩=some (.int .i64 xw)/\w'.cell? ⟨T,j*2+1,none⟩=some (.slice xa xn xc)/\w'.cell? ⟨T,(j-1)*2,none⟩=some (.int .i64 yw)/\w'.cell? ⟨T,(j-1)*2+1,none⟩=some (.slice ya yn yc)) 99 ?_;refine am [0,1,2,3,4,5,6,7,8,9,10,11,12,13] ?_
      iterate 14 (refine ay hS ?_;try simp only[Act.put])
      refine aj ?_;refine ai 14 fun K hK=>?_;go_simp;refine (HC _).mono ?_;rintro e w1 ⟨rfl,hb1⟩;obtain⟨bc,bf⟩:=jJ hb1;have hS1:=hS;rw[<-bc T _ ba,<-bc T _ ba,<-bc T _ ba,<-bc T _ ba]at hS1;have HR1:aW w1 T n (Rf.ins g j i):=aW.below (w:=wr.drew) (HR.out.kept rfl) hb1;have hk1:Kp (·=T) w w1:=hk.drew.trans (Kp.aJ hb1);have Rb:∀j,w1.frozen? ⟨T,j,none⟩=false:=fun j=>HR1.frozen j;have hlt1:=HR1.lt;refine hK _ _ (fun _=>hS1) ?_;clear hK K;refine ai 15 fun K hK=>?_;go_simp;refine hK _ _ (fun _=>hS1) ?_;clear hK K;refine ai 16 fun K hK=>?_;go_simp;refine hK _ _ (fun _=>hS1) ?_;clear hK K;refine ar ?_;clear bc bf hb1 hS x10 fH x20 gd fz ba HC;obtain⟨x10,fH,x20,gd⟩:=hS1;have SS:=LG.out.1 w1 HR1;have KK:=hk1.trans (HK.out w1 (.int .i64 yw) (.slice ya yn yc) (.int .i64 xw) (.slice xa xn xc));have HQ:Hid (_/\_/\_):=⟨SS,LG.out.2,KK⟩
      clear SS KK LG HK HR HP hk hk1 HR1;go_wp2
      go_region
      go_wp2
      go_roundw
      case rel=>exact⟨j-1,by omega,by omega,by go_num,HQ.out.1.kept rfl,HQ.out.2.1,WT.out hlt2,HQ.out.2.2.drew⟩
      case measure=>simp[intOf];omega
     ·have hc1:¬eG xw yw<0:=fun hh=>hlt2 ((fM _ _).1 hh);go_wp2;have hS:wr.drew.cell? ⟨T,j*2,none⟩=some (.int .i64 xw)/\wr.drew.cell? ⟨T,j*2+1,none⟩=some (.slice xa xn xc)/\wr.drew.cell? ⟨T,(j-1)*2,none⟩=some (.int .i64 yw)/\wr.drew.cell? ⟨T,(j-1)*2+1,none⟩=some (.slice ya yn yc):=⟨x10,fH,x20,gd⟩
      refine aE (fun w'=>w'.cell? ⟨T,j*2,none⟩=some (.int .i64 xw)/\w'.cell? ⟨T,j*2+1,none⟩=some (.slice xa xn xc)/\w'.cell? ⟨T,(j-1)*2,none⟩=some (.int .i64 yw)/\w'.cell? ⟨T,(j-1)*2+1,none⟩=some (.slice ya yn yc)) 99 ?_;refine am [0,1,2,3,4,5,6,7,8,9,10,11,12,13] ?_
      iterate 14 (refine ay hS ?_;try simp only[Act.put])
      refine aj ?_;refine ai 14 fun K hK=>?_;go_simp;refine (HC _).mono ?_;rintro e w1 ⟨rfl,hb1⟩;obtain⟨bc,bf⟩:=jJ hb1;have hS1:=hS;rw[<-bc T _ ba,<-bc T _ ba,<-bc T _ ba,<-bc T _ ba]at hS1;have HR1:aW w1 T n (Rf.ins g j i):=aW.below (w:=wr.drew) (HR.out.kept rfl) hb1;have hk1:Kp (·=T) w w1:=hk.drew.trans (Kp.aJ hb1);have Rb:∀j,w1.frozen? ⟨T,j,none⟩=false:=fun j=>HR1.frozen j;have hlt1:=HR1.lt;refine hK _ _ (fun _=>hS1) ?_;clear hK K;refine ai 15 fun K hK=>?_;go_simp;refine hK _ _ (fun _=>hS1) ?_;clear hK K;refine ai 16 fun K hK=>?_;go_simp;refine hK _ _ (fun _=>hS1) ?_;clear hK K;refine ar ?_;clear bc bf hb1 hS x10 fH x20 gd fz ba HC;have HQ:Hid (_/\_/\_/\_/\_):=⟨HR1,HP.out,zm.out,(HE'.out hlt2).out,hk1⟩
      clear LG HK HR HP hk hk1 HR1;go_wp2
      go_roundw
      case rel=>exact⟨i+1,_,by omega,.inl (by omega),by go_num,HQ.out.1,HQ.out.2.1,HQ.out.2.2.1,HQ.out.2.2.2.1,HQ.out.2.2.2.2⟩
      case measure=>simp[intOf];omega
    ·have e:j=a:=by omega
     subst e;have hdec:decide ((j:Int)>(j:Int))=false:=by simp
     have hjj:¬(j:Int)>(j:Int):=by omega
     have zm:Hid (Rf.In f (Rf.ins g j i) j (i+1)):=(HI.out.wide (aad _) (Nat.le_succ _)).trans (Rf.Ba g haj hji (abD _));have HE:Hid (Rf.dE Mb.w (Rf.ins g j i) j (i+1)):=Rf.vB haj hji HS.out HT.out (.inl rfl) HJ.out;go_wp2
     go_quiet (fail)
     go_wp2
     go_roundw
     case rel=>exact⟨i+1,_,by omega,.inl (by omega),by go_num,HR.out.kept rfl,HP,zm,HE,hk.drewN _⟩
     case measure=>simp[intOf];omega
  ·have hlt':¬(i:Int)<(b:Int):=by omega
   go_wp2
   go_end0
   refine⟨rfl,g,HR.out,HP.out,?_,?_,hk⟩
   ·rcases hib with q|q
    ·rw[show b=i by omega];exact HI.out
    ·refine⟨fun k hk=>?_,fun k h1 h2=>⟨k,h1,h2,?_⟩⟩
     ·by_cases e:a<=k/\k<i
      ·obtain⟨l,l1,l2,e2⟩:=HI.out.2 k e.1 e.2;rw[e2];congr 1;omega
      ·exact HI.out.1 k (by omega)
     ·obtain⟨l,l1,l2,e2⟩:=HI.out.2 k h1 (by omega);rw[e2];congr 1;omega
   ·rcases hib with q|q
    ·rw[show b=i by omega];exact HS.out
    ·intro p q h1 h2 h3;omega
def Merged (T n a b:Nat)(f:Nat->Mb×Nat)(w w':World):Prop:=∃g,aW w' T n g/\Rf.fL n g f/\Rf.In f g a b/\Rf.dE Mb.w g a b/\Kp (·=T) w w'
theorem zn (kc:Nat)(hc:gD kc)(T n cap a b:Nat)(f:Nat->Mb×Nat)(w:World)(h:aW w T n f)(hab:a+1<b)(hb:b<=n)(hn:n<=1000000)(hs:Rf.dE Mb.w f (a+1) b)(hlo:Rf.Lo f a (a+1) b): Calls Tryz.prog 261 #[.slice (some ⟨T,0,none⟩) n cap,.int .i64 a,.int .i64 ((a:Int)+1),.int .i64 b,.func (.func kc) #[] #[]] w fun e w'=>e=.returned (.tuple #[])/\Merged T n a b f w w':=by
 have hcall:=hc.call;have e0:((a:Int)+1-(a:Int)==1)=true:=by simp;omega
 have Sl:(a:Int)+1-(a:Int)=1:=by omega
 go_enter Tryz.func261,Tryz.ntmps261
 go_wp2
 go_loopw [10,11] (fun iv jv wr=>∃i j:Nat,a<i/\i<=j/\j<=b/\iv=.int .i64 i/\jv=.int .i64 j/\Hid (∀h,a+1<=h->h<i->(f h).1.w<(f a).1.w)/\Hid (∀h,j<=h->h<b->(f a).1.w<=(f h).1.w)/\Hid (aW wr T n f)/\Kp (·=T) w wr) (fun iv jv _=>(intOf jv).toNat-(intOf iv).toNat)
 case atStart=>exact⟨a+1,b,by omega,by omega,aad _,by go_num,rfl,fun h h1 h2=>by omega,fun h h1 h2=>by omega,h,Kp.refl _ _⟩
 case round =>
  clear h;obtain⟨i,j,hai,hij,hjb,rfl,rfl,H1,H2,HR,hk⟩:=hrel;by_cases hlt:i<j
  ·obtain⟨c,hcm⟩:∃c:Nat,c=(i+j)/2:=⟨_,rfl⟩
   have hc1:i<=c:=by omega
   have hc2:c<j:=by omega
   obtain⟨q,hq⟩:∃q:Nat,(i:Int)+(j:Int)=(q:Int):=⟨i+j,by omega⟩
   have hq2:(q:Int)<=2000000:=by omega
   have ec:(q:Int)/2=(c:Int):=by omega
   have hcn:(c:Int)<(n:Int):=by omega
   have han:(a:Int)<(n:Int):=by omega
   have hmono:∀h,a+1<=h->h<=c->(f h).1.w<=(f c).1.w:=fun h h1 h2=>by
    by_cases e:h=c
    ·rw[e];exact abj _
    ·have:=hs h c h1 (by omega) (by omega);unfold Rf.lx at this;omega
   have sJ:∀h,c<=h->h<b->(f c).1.w<=(f h).1.w:=fun h h1 h2=>by
    by_cases e:h=c
    ·rw[e];exact abj _
    ·have:=hs c h (by omega) (by omega) h2;unfold Rf.lx at this;omega
   have HM:Hid (_/\_):=⟨hmono,sJ⟩
   clear hcm hmono sJ;by_cases hlt2:(f c).1.w<(f a).1.w
   ·have hc3:decide (eG (f c).1.w (f a).1.w<0)=true:=by simp;exact (fM _ _).2 hlt2
    have H3:Hid (∀h,a+1<=h->h<c+1->(f h).1.w<(f a).1.w):=fun h h1 h2=>by have:=HM.out.1 h h1 (by omega);omega
    have hc4:eG (f c).1.w (f a).1.w<0:=(fM _ _).2 hlt2;have x1:=HR.out.cell (c) (by omega);have x2:=HR.out.cell (a) (by omega);have ba:=HR.out.lt;obtain⟨x10,fH⟩:=x1;obtain⟨x20,gd⟩:=x2;have HC:=fun u=>hc.cmp u (f c).1 (f a).1;have ng:=hc4;generalize hX:(f c).1=X at x10 fH HC ng;generalize hY:(f a).1=Y at x20 gd HC ng;have HX:Hid ((f c).1=X/\(f a).1=Y):=⟨hX,hY⟩
    obtain⟨xw,xa,xn,xc,xs⟩:=X;obtain⟨yw,ya,yn,yc,ys⟩:=Y;simp only at x10 fH x20 gd HC ng;clear hc3 hc4;clear hX hY;go_wp2;have hS:wr.drew.cell? ⟨T,(c)*2,none⟩=some (.int .i64 xw)/\wr.drew.cell? ⟨T,(c)*2+1,none⟩=some (.slice xa xn xc)/\wr.drew.cell? ⟨T,(a)*2,none⟩=some (.int .i64 yw)/\wr.drew.cell? ⟨T,(a)*2+1,none⟩=some (.slice ya yn yc):=⟨x10,fH,x20,gd⟩
    refine aE (fun w'=>w'.cell? ⟨T,(c)*2,none⟩=some (.int .i64 xw)/\w'.cell? ⟨T,(c)*2+1,none⟩=some (.slice xa xn xc)/\w'.cell? ⟨T,(a)*2,none⟩=some (.int .i64 yw)/\w'.cell? ⟨T,(a)*2+1,none⟩=some (.slice ya yn yc)) 999 ?_;refine am [0,1,2,3,4,5,6,7,8] ?_
    iterate 9 (refine ay hS ?_;try simp only[Act.put])
    refine aj ?_;refine ai 9 fun K hK=>?_;go_simp;refine (HC _).mono ?_;rintro e w1 ⟨rfl,hb1⟩;obtain⟨bc,bf⟩:=jJ hb1;have hS1:=hS;rw[<-bc T _ ba,<-bc T _ ba,<-bc T _ ba,<-bc T _ ba]at hS1;have HR1:aW w1 T n (f):=aW.below (w:=wr.drew) (HR.out.kept rfl) hb1;have hk1:Kp (·=T) w w1:=hk.drew.trans (Kp.aJ hb1);have hlt1:=HR1.lt;refine hK _ _ (fun _=>hS1) ?_;clear hK K;refine ai 10 fun K hK=>?_;go_simp;refine hK _ _ (fun _=>hS1) ?_;clear hK K;refine ar ?_;clear bc bf hb1 hS x10 fH x20 gd ba HC hS1;go_wp2
    go_roundw
    case rel=>exact⟨c+1,j,by omega,by omega,hjb,by go_num,rfl,(by have q:=H3;rw[HX.out.2]at q;exact q),(by have q:=H2;rw[HX.out.2]at q;exact q),HR1,hk1⟩
    case measure=>simp[intOf];omega
   ·have H3:Hid (∀h,c<=h->h<b->(f a).1.w<=(f h).1.w):=fun h h1 h2=>by have:=HM.out.2 h h1 h2;omega
    have hc4:¬eG (f c).1.w (f a).1.w<0:=fun hh=>hlt2 ((fM _ _).1 hh);have x1:=HR.out.cell (c) (by omega);have x2:=HR.out.cell (a) (by omega);have ba:=HR.out.lt;obtain⟨x10,fH⟩:=x1;obtain⟨x20,gd⟩:=x2;have HC:=fun u=>hc.cmp u (f c).1 (f a).1;have ng:=hc4;generalize hX:(f c).1=X at x10 fH HC ng;generalize hY:(f a).1=Y at x20 gd HC ng;have HX:Hid ((f c).1=X/\(f a).1=Y):=⟨hX,hY⟩
    obtain⟨xw,xa,xn,xc,xs⟩:=X;obtain⟨yw,ya,yn,yc,ys⟩:=Y;simp only at x10 fH x20 gd HC ng;clear hc4;clear hX hY;go_wp2;have hS:wr.drew.cell? ⟨T,(c)*2,none⟩=some (.int .i64 xw)/\wr.drew.cell? ⟨T,(c)*2+1,none⟩=some (.slice xa xn xc)/\wr.drew.cell? ⟨T,(a)*2,none⟩=some (.int .i64 yw)/\wr.drew.cell? ⟨T,(a)*2+1,none⟩=some (.slice ya yn yc):=⟨x10,fH,x20,gd⟩
    refine aE (fun w'=>w'.cell? ⟨T,(c)*2,none⟩=some (.int .i64 xw)/\w'.cell? ⟨T,(c)*2+1,none⟩=some (.slice xa xn xc)/\w'.cell? ⟨T,(a)*2,none⟩=some (.int .i64 yw)/\w'.cell? ⟨T,(a)*2+1,none⟩=some (.slice ya yn yc)) 999 ?_;refine am [0,1,2,3,4,5,6,7,8] ?_
    iterate 9 (refine ay hS ?_;try simp only[Act.put])
    refine aj ?_;refine ai 9 fun K hK=>?_;go_simp;refine (HC _).mono ?_;rintro e w1 ⟨rfl,hb1⟩;obtain⟨bc,bf⟩:=jJ hb1;have hS1:=hS;rw[<-bc T _ ba,<-bc T _ ba,<-bc T _ ba,<-bc T _ ba]at hS1;have HR1:aW w1 T n (f):=aW.below (w:=wr.drew) (HR.out.kept rfl) hb1;have hk1:Kp (·=T) w w1:=hk.drew.trans (Kp.aJ hb1);have hlt1:=HR1.lt;refine hK _ _ (fun _=>hS1) ?_;clear hK K;refine ai 10 fun K hK=>?_;go_simp;refine hK _ _ (fun _=>hS1) ?_;clear hK K;refine ar ?_;clear bc bf hb1 hS x10 fH x20 gd ba HC hS1;go_wp2
    go_roundw
    case rel=>exact⟨i,c,hai,hc1,by omega,rfl,rfl,(by have q:=H1;rw[HX.out.2]at q;exact q),(by have q:=H3;rw[HX.out.2]at q;exact q),HR1,hk1⟩
    case measure=>simp[intOf];omega
  ·have e:i=j:=by omega
   subst e;have HF:Hid (Rf.dE Mb.w (Rf.mv f a (i-1)) a b):=Rf.EV hai hjb hs hlo H1.out H2.out;have zm:Hid (Rf.In f (Rf.mv f a (i-1)) a b):=Rf.Sb f (by omega) (by omega);clear H1 H2;go_wp2
   rename World=>wB
   go_loopw [13] (fun kv wq=>∃k:Nat,a<=k/\k<i/\kv=.int .i64 k/\Hid (aW wq T n (Rf.mv f a k))/\Hid (Rf.fL n (Rf.mv f a k) f)/\Kp (·=T) w wq) (fun kv _=>i-(intOf kv).toNat)
   case atStart=>exact⟨a,aad _,hai,rfl,by rw[Rf.C6];exact HR.out,by rw[Rf.C6];exact Rf.fL.refl _ _,hk⟩
   case round =>
    clear HR hk;obtain⟨k,hak,hki,rfl,HR,HP,hk⟩:=hrel;have ei:(i:Int)-1=((i-1:Nat):Int):=by omega
    by_cases hlt3:k<i-1
    ·have x1:=HR.out.cell k (by omega);have x2:=HR.out.cell (k+1) (by omega);have fz:=fun j=>HR.out.frozen j;have ba:=HR.out.lt;have S1:=HR.out.swap (i:=k) (j:=k+1) (by omega) (by omega) (by omega);rw[Rf.Da f hak]at S1
     have P1:Rf.fL n (Rf.mv f a (k+1)) f:=by
      rw[<-Rf.Da f hak];exact (Rf.fL.sw n _ (by omega) (by omega)).trans HP.out
     generalize (Rf.mv f a k k).1=X at *;generalize (Rf.mv f a k (k+1)).1=Y at *;obtain⟨xw,xa,xn,xc,xs⟩:=X;obtain⟨yw,ya,yn,yc,ys⟩:=Y;obtain⟨x10,fH⟩:=x1;obtain⟨x20,gd⟩:=x2;simp only at x10 fH x20 gd S1;have e1:((k:Int)+1).toNat=k+1:=by omega
     have K1:=hk.trans (rB wr T k (k+1) (.int .i64 yw) (.slice ya yn yc) (.int .i64 xw) (.slice xa xn xc));have HS:Hid (_/\_/\_):=⟨S1,P1,K1⟩
     clear S1 P1 K1 HP HR hk;go_wp2
     go_region
     go_wp2
     go_roundw
     case rel=>exact⟨k+1,by omega,by omega,by go_num,HS.out.1.kept rfl,HS.out.2.1,HS.out.2.2.drew⟩
     case measure=>simp[intOf];omega
    ·have e2:k=i-1:=by omega
     subst e2;go_wp2
     (try simp only[Exit.inBlock,Exit.then])
     exact aal (abe rfl _ _ _) rfl ⟨rfl,_,HR.out,HP.out,zm.out,HF.out,hk⟩
theorem Bj (kc:Nat)(hc:gD kc)(T n cap a m:Nat)(f:Nat->Mb×Nat)(w:World)(h:aW w T n f)(hab:a+1<m)(hb:m+1<=n)(hn:n<=1000000)(hs:Rf.dE Mb.w f a m)(hlo:∀k,a<=k->k<m->(f k).2<(f m).2): Calls Tryz.prog 261 #[.slice (some ⟨T,0,none⟩) n cap,.int .i64 a,.int .i64 m,.int .i64 ((m:Int)+1),.func (.func kc) #[] #[]] w fun e w'=>e=.returned (.tuple #[])/\Merged T n a (m+1) f w w':=by
 have hcall:=hc.call;have e0:((m:Int)-(a:Int)==1)=false:=by simp;omega
 have Sl:¬(m:Int)-(a:Int)=1:=by omega
 have e1:((m:Int)+1-(m:Int)==1)=true:=by simp;omega
 have Sm:(m:Int)+1-(m:Int)=1:=by omega
 go_enter Tryz.func261,Tryz.ntmps261
 go_wp2
 go_loopw [14,15] (fun iv jv wr=>∃i j:Nat,a<=i/\i<=j/\j<=m/\iv=.int .i64 i/\jv=.int .i64 j/\Hid (∀h,a<=h->h<i->(f h).1.w<=(f m).1.w)/\Hid (∀h,j<=h->h<m->(f m).1.w<(f h).1.w)/\Hid (aW wr T n f)/\Kp (·=T) w wr) (fun iv jv _=>(intOf jv).toNat-(intOf iv).toNat)
 case atStart=>exact⟨a,m,aad _,by omega,aad _,rfl,rfl,fun h h1 h2=>by omega,fun h h1 h2=>by omega,h,Kp.refl _ _⟩
 case round =>
  clear h;obtain⟨i,j,hai,hij,hjb,rfl,rfl,H1,H2,HR,hk⟩:=hrel;by_cases hlt:i<j
  ·obtain⟨c,hcm⟩:∃c:Nat,c=(i+j)/2:=⟨_,rfl⟩
   have hc1:i<=c:=by omega
   have hc2:c<j:=by omega
   obtain⟨q,hq⟩:∃q:Nat,(i:Int)+(j:Int)=(q:Int):=⟨i+j,by omega⟩
   have hq2:(q:Int)<=2000000:=by omega
   have ec:(q:Int)/2=(c:Int):=by omega
   have hcn:(c:Int)<(n:Int):=by omega
   have han:(m:Int)<(n:Int):=by omega
   have hmono:∀h,a<=h->h<=c->(f h).1.w<=(f c).1.w:=fun h h1 h2=>by
    by_cases e:h=c
    ·rw[e];exact abj _
    ·have:=hs h c h1 (by omega) (by omega);unfold Rf.lx at this;omega
   have sJ:∀h,c<=h->h<m->(f c).1.w<=(f h).1.w:=fun h h1 h2=>by
    by_cases e:h=c
    ·rw[e];exact abj _
    ·have:=hs c h (by omega) (by omega) h2;unfold Rf.lx at this;omega
   have HM:Hid (_/\_):=⟨hmono,sJ⟩
   clear hcm hmono sJ;by_cases hlt2:(f m).1.w<(f c).1.w
   ·have H3:Hid (∀h,c<=h->h<m->(f m).1.w<(f h).1.w):=fun h h1 h2=>by have:=HM.out.2 h h1 h2;omega
    have hc4:eG (f m).1.w (f c).1.w<0:=(fM _ _).2 hlt2;have x1:=HR.out.cell (m) (by omega);have x2:=HR.out.cell (c) (by omega);have ba:=HR.out.lt;obtain⟨x10,fH⟩:=x1;obtain⟨x20,gd⟩:=x2;have HC:=fun u=>hc.cmp u (f m).1 (f c).1;have ng:=hc4;generalize hX:(f m).1=X at x10 fH HC ng;generalize hY:(f c).1=Y at x20 gd HC ng;have HX:Hid ((f m).1=X/\(f c).1=Y):=⟨hX,hY⟩
    obtain⟨xw,xa,xn,xc,xs⟩:=X;obtain⟨yw,ya,yn,yc,ys⟩:=Y;simp only at x10 fH x20 gd HC ng;clear hc4;clear hX hY;go_wp2;have hS:wr.drew.cell? ⟨T,(m)*2,none⟩=some (.int .i64 xw)/\wr.drew.cell? ⟨T,(m)*2+1,none⟩=some (.slice xa xn xc)/\wr.drew.cell? ⟨T,(c)*2,none⟩=some (.int .i64 yw)/\wr.drew.cell? ⟨T,(c)*2+1,none⟩=some (.slice ya yn yc):=⟨x10,fH,x20,gd⟩
    refine aE (fun w'=>w'.cell? ⟨T,(m)*2,none⟩=some (.int .i64 xw)/\w'.cell? ⟨T,(m)*2+1,none⟩=some (.slice xa xn xc)/\w'.cell? ⟨T,(c)*2,none⟩=some (.int .i64 yw)/\w'.cell? ⟨T,(c)*2+1,none⟩=some (.slice ya yn yc)) 999 ?_;refine am [0,1,2,3,4,5,6,7,8] ?_
    iterate 9 (refine ay hS ?_;try simp only[Act.put])
    refine aj ?_;refine ai 9 fun K hK=>?_;go_simp;refine (HC _).mono ?_;rintro e w1 ⟨rfl,hb1⟩;obtain⟨bc,bf⟩:=jJ hb1;have hS1:=hS;rw[<-bc T _ ba,<-bc T _ ba,<-bc T _ ba,<-bc T _ ba]at hS1;have HR1:aW w1 T n (f):=aW.below (w:=wr.drew) (HR.out.kept rfl) hb1;have hk1:Kp (·=T) w w1:=hk.drew.trans (Kp.aJ hb1);have hlt1:=HR1.lt;refine hK _ _ (fun _=>hS1) ?_;clear hK K;refine ai 10 fun K hK=>?_;go_simp;refine hK _ _ (fun _=>hS1) ?_;clear hK K;refine ai 11 fun K hK=>?_;go_simp;refine hK _ _ (fun _=>hS1) ?_;clear hK K;refine ar ?_;clear bc bf hb1 hS x10 fH x20 gd ba HC hS1;go_wp2
    go_roundw
    case rel=>exact⟨i,c,hai,hc1,by omega,rfl,rfl,(by have q:=H1;rw[HX.out.1]at q;exact q),(by have q:=H3;rw[HX.out.1]at q;exact q),HR1,hk1⟩
    case measure=>simp[intOf];omega
   ·have H3:Hid (∀h,a<=h->h<c+1->(f h).1.w<=(f m).1.w):=fun h h1 h2=>by have:=HM.out.1 h h1 (by omega);omega
    have hc4:¬eG (f m).1.w (f c).1.w<0:=fun hh=>hlt2 ((fM _ _).1 hh);have x1:=HR.out.cell (m) (by omega);have x2:=HR.out.cell (c) (by omega);have ba:=HR.out.lt;obtain⟨x10,fH⟩:=x1;obtain⟨x20,gd⟩:=x2;have HC:=fun u=>hc.cmp u (f m).1 (f c).1;have ng:=hc4;generalize hX:(f m).1=X at x10 fH HC ng;generalize hY:(f c).1=Y at x20 gd HC ng;have HX:Hid ((f m).1=X/\(f c).1=Y):=⟨hX,hY⟩
    obtain⟨xw,xa,xn,xc,xs⟩:=X;obtain⟨yw,ya,yn,yc,ys⟩:=Y;simp only at x10 fH x20 gd HC ng;clear hc4;have hc6:decide (eG xw yw<0)=false:=by simpa using ng
    have Zw:(0:Int)<=eG xw yw:=by omega
    clear hX hY;go_wp2;have hS:wr.drew.cell? ⟨T,(m)*2,none⟩=some (.int .i64 xw)/\wr.drew.cell? ⟨T,(m)*2+1,none⟩=some (.slice xa xn xc)/\wr.drew.cell? ⟨T,(c)*2,none⟩=some (.int .i64 yw)/\wr.drew.cell? ⟨T,(c)*2+1,none⟩=some (.slice ya yn yc):=⟨x10,fH,x20,gd⟩
    refine aE (fun w'=>w'.cell? ⟨T,(m)*2,none⟩=some (.int .i64 xw)/\w'.cell? ⟨T,(m)*2+1,none⟩=some (.slice xa xn xc)/\w'.cell? ⟨T,(c)*2,none⟩=some (.int .i64 yw)/\w'.cell? ⟨T,(c)*2+1,none⟩=some (.slice ya yn yc)) 999 ?_;refine am [0,1,2,3,4,5,6,7,8] ?_
    iterate 9 (refine ay hS ?_;try simp only[Act.put])
    refine aj ?_;refine ai 9 fun K hK=>?_;go_simp;refine (HC _).mono ?_;rintro e w1 ⟨rfl,hb1⟩;obtain⟨bc,bf⟩:=jJ hb1;have hS1:=hS;rw[<-bc T _ ba,<-bc T _ ba,<-bc T _ ba,<-bc T _ ba]at hS1;have HR1:aW w1 T n (f):=aW.below (w:=wr.drew) (HR.out.kept rfl) hb1;have hk1:Kp (·=T) w w1:=hk.drew.trans (Kp.aJ hb1);have hlt1:=HR1.lt;refine hK _ _ (fun _=>hS1) ?_;clear hK K;refine ai 10 fun K hK=>?_;go_simp;refine hK _ _ (fun _=>hS1) ?_;clear hK K;refine ai 11 fun K hK=>?_;go_simp;refine hK _ _ (fun _=>hS1) ?_;clear hK K;refine ar ?_;clear bc bf hb1 hS x10 fH x20 gd ba HC hS1;go_wp2
    go_roundw
    case rel=>exact⟨c+1,j,by omega,by omega,hjb,by go_num,rfl,(by have q:=H3;rw[HX.out.1]at q;exact q),(by have q:=H2;rw[HX.out.1]at q;exact q),HR1,hk1⟩
    case measure=>simp[intOf];omega
  ·have e:i=j:=by omega
   subst e;have HF:Hid (Rf.dE Mb.w (Rf.ins f i m) a (m+1)):=Rf.sE hai hjb hs hlo H1.out H2.out;have zm:Hid (Rf.In f (Rf.ins f i m) a (m+1)):=Rf.Ba f hai hjb (abD _);clear H1 H2;go_wp2
   rename World=>wB
   go_loopw [17] (fun kv wq=>∃k:Nat,i<=k/\k<=m/\kv=.int .i64 k/\Hid (aW wq T n (Rf.ins f k m))/\Hid (Rf.fL n (Rf.ins f k m) f)/\Kp (·=T) w wq) (fun kv _=>(intOf kv).toNat)
   case atStart=>exact⟨m,hjb,aad _,rfl,by rw[Rf.oU];exact HR.out,by rw[Rf.oU];exact Rf.fL.refl _ _,hk⟩
   case round =>
    clear HR hk;obtain⟨k,hak,hki,rfl,HR,HP,hk⟩:=hrel;by_cases hlt3:i<k
    ·have x1:=HR.out.cell k (by omega);have x2:=HR.out.cell (k-1) (by omega);have fz:=fun j=>HR.out.frozen j;have ba:=HR.out.lt;have S1:=HR.out.swap (i:=k) (j:=k-1) (by omega) (by omega) (by omega);rw[Rf.oV f (by omega) hki]at S1
     have P1:Rf.fL n (Rf.ins f (k-1) m) f:=by
      rw[<-Rf.oV f (by omega) hki];exact (Rf.fL.sw n _ (by omega) (by omega)).trans HP.out
     generalize (Rf.ins f k m k).1=X at *;generalize (Rf.ins f k m (k-1)).1=Y at *;obtain⟨xw,xa,xn,xc,xs⟩:=X;obtain⟨yw,ya,yn,yc,ys⟩:=Y;obtain⟨x10,fH⟩:=x1;obtain⟨x20,gd⟩:=x2;simp only at x10 fH x20 gd S1;have ek:(k:Int)-1=((k-1:Nat):Int):=by omega
     have hwp:IntKind.i64.wrap ((k:Int)-1)=((k-1:Nat):Int):=by rw[aah _ (by omega)];omega
     have hkn:((k-1:Nat):Int)<(n:Int):=by omega
     have K1:=hk.trans (rB wr T k (k-1) (.int .i64 yw) (.slice ya yn yc) (.int .i64 xw) (.slice xa xn xc));have HS:Hid (_/\_/\_):=⟨S1,P1,K1⟩
     clear S1 P1 K1 HP HR hk;go_wp2
     go_region
     go_wp2
     go_roundw
     case rel=>exact⟨k-1,by omega,by omega,by go_num,HS.out.1.kept rfl,HS.out.2.1,HS.out.2.2.drew⟩
     case measure=>simp[intOf];omega
    ·have e2:k=i:=by omega
     subst e2;go_wp2
     (try simp only[Exit.inBlock,Exit.then])
     exact aal (abe rfl _ _ _) rfl ⟨rfl,_,HR.out,HP.out,zm.out,HF.out,hk⟩
theorem dE.congr {f g:Nat->Mb×Nat}{a b:Nat}(h:Rf.dE Mb.w f a b)(e:∀k,a<=k->k<b->g k=f k):Rf.dE Mb.w g a b:=fun i j h1 h2 h3=>by
 rw[e i h1 (by omega),e j (by omega) h3];exact h i j h1 h2 h3
theorem Lo.congr {f g:Nat->Mb×Nat}{a m b:Nat}(h:Rf.Lo f a m b)(e:∀k,a<=k->k<b->g k=f k):Rf.Lo g a m b:=fun i j h1 h2 h3 h4=>by
 by_cases q:j<b
 ·rw[e i h1 (by omega),e j (by omega) h4];exact h i j h1 h2 h3 h4
 ·omega
theorem zo (f:Nat->Mb×Nat){s m e:Nat}(hs:s<=m)(he:m<=e)(h:¬(s<m/\m<e)):Rf.ie f s m e=f:=by
 funext k;unfold Rf.ie
 repeat' split
 all_goals first|rfl|(congr 1;omega)
structure Cut (f:Nat->Mb×Nat) (a m b s:Nat):Prop where
 h1:a<=s
 h2:s<=m
 h3:s<=(a+b)/2
 h4:(a+b)/2+m-s<=b
 lower:∀i j,a<=i->i<(a+b)/2->(a+b)/2<=j->j<b->Rf.lx Mb.w (Rf.ie f s m ((a+b)/2+m-s) i) (Rf.ie f s m ((a+b)/2+m-s) j)
 s1:Rf.dE Mb.w (Rf.ie f s m ((a+b)/2+m-s)) a s
 s2:Rf.dE Mb.w (Rf.ie f s m ((a+b)/2+m-s)) s ((a+b)/2)
 l1:Rf.Lo (Rf.ie f s m ((a+b)/2+m-s)) a s ((a+b)/2)
 s3:Rf.dE Mb.w (Rf.ie f s m ((a+b)/2+m-s)) ((a+b)/2) ((a+b)/2+m-s)
 s4:Rf.dE Mb.w (Rf.ie f s m ((a+b)/2+m-s)) ((a+b)/2+m-s) b
 l2:Rf.Lo (Rf.ie f s m ((a+b)/2+m-s)) ((a+b)/2) ((a+b)/2+m-s) b
theorem Cut.of {f:Nat->Mb×Nat}{a m b s lo hi:Nat}(s1:Rf.dE Mb.w f a m)(s2:Rf.dE Mb.w f m b)(hlo:Rf.Lo f a m b)(el:lo=if (a+b)/2<m then (a+b)/2+m-b else a)(eh:hi=if (a+b)/2<m then (a+b)/2 else m)(h1:lo<=s)(h2:s<=hi)(g1:∀c,lo<=c->c<s->(f c).1.w<=(f ((a+b)/2+m-1-c)).1.w)(g2:∀c,s<=c->c<hi->(f ((a+b)/2+m-1-c)).1.w<(f c).1.w):Cut f a m b s:=by
 have q1:a<=s/\s<=m/\s<=(a+b)/2/\(a+b)/2+m-s<=b:=by
  by_cases q:(a+b)/2<m
  ·rw[aaf q]at el eh;omega
  ·rw[aae q]at el eh;omega
 have:=Rf.EW (wt:=Mb.w) (f:=f) (a:=a) (m:=m) (b:=b) (s:=s) q1.1 q1.2.1 (by omega) q1.2.2.2 (by omega) s1 s2 hlo (fun c c1 c2 c3 c4=>?_) (fun c c1 c2 c3=>?_)
 ·exact⟨q1.1,q1.2.1,q1.2.2.1,q1.2.2.2,this.1,this.2.1,this.2.2.1,this.2.2.2.1,this.2.2.2.2.1,this.2.2.2.2.2.1,this.2.2.2.2.2.2⟩
 ·refine g1 c ?_ c2;rw[el];split<;>omega
 ·refine g2 c c1 ?_;rw[eh];split<;>omega
theorem Cut.fin {f f2 f3:Nat->Mb×Nat}{a m b s:Nat}(c:Cut f a m b s)(hmb:m<b)(i1:Rf.In (Rf.ie f s m ((a+b)/2+m-s)) f2 a ((a+b)/2))(t1:Rf.dE Mb.w f2 a ((a+b)/2))(i2:Rf.In f2 f3 ((a+b)/2) b)(t2:Rf.dE Mb.w f3 ((a+b)/2) b): Rf.In f f3 a b/\Rf.dE Mb.w f3 a b:=by
 have q1:=c.h1;have q2:=c.h2;have q3:=c.h3;have q4:=c.h4;have r1:Rf.In f (Rf.ie f s m ((a+b)/2+m-s)) a b:=(Rf.OG f q2 (by omega)).wide q1 q4;refine⟨(r1.trans (i1.wide (aad _) (by omega))).trans (i2.wide (by omega) (aad _)),?_⟩;refine Rf.dE.halves (g:=Rf.ie f s m ((a+b)/2+m-s)) (c:=(a+b)/2) c.lower (dE.congr t1 (fun k _ hk=>i2.1 k (.inl hk))) t2 (fun k h1 h2=>?_) (fun k h1 h2=>?_)
 ·rw[i2.1 k (.inl h2)];exact i1.2 k h1 h2
 ·obtain⟨l,l1,l2,e⟩:=i2.2 k h1 h2;exact⟨l,l1,l2,e.trans (i1.1 l (.inr l1))⟩
theorem Cut.low {f:Nat->Mb×Nat}{a m b s:Nat}(c:Cut f a m b s)(h:¬(a<s/\s<(a+b)/2)):Rf.dE Mb.w (Rf.ie f s m ((a+b)/2+m-s)) a ((a+b)/2):=by
 have q1:=c.h1;have q3:=c.h3;by_cases e:s=a
 ·have:=c.s2;rwa [e]at this ⊢
 ·have e2:s=(a+b)/2:=by omega
  have:=c.s1;rwa [<-e2]at this ⊢
theorem Cut.high {f:Nat->Mb×Nat}{a m b s:Nat}(c:Cut f a m b s)(h:¬((a+b)/2<(a+b)/2+m-s/\(a+b)/2+m-s<b)):Rf.dE Mb.w (Rf.ie f s m ((a+b)/2+m-s)) ((a+b)/2) b:=by
 have q2:=c.h2;have q4:=c.h4;have t3:=c.s3;have t4:=c.s4;generalize he:(a+b)/2+m-s=e at *;by_cases q:e=(a+b)/2
 ·rwa [q]at t4 ⊢
 ·have e2:e=b:=by omega
  rwa [e2]at t3 ⊢
def dot (ws ls:List Int):Nat->Int
 | 0=>0
 | k+1=>dot ws ls k+ws.getD k 0*ls.getD k 0
theorem nh (ws ls:List Int)(M:Int)(hM:0<=M)(hw:∀j,0<=ws.getD j 0/\ws.getD j 0<=M)(hl:∀j,0<=ls.getD j 0/\ls.getD j 0<=15):∀k,0<=dot ws ls k/\dot ws ls k<=15*M*k
 | 0=>by simp[dot]
 | k+1=>by
  have ih:=nh ws ls M hM hw hl k;have a:=hw k;have b:=hl k;rw[dot];have c1:=abW a.1 b.1;have c2:ws.getD k 0*ls.getD k 0<=M*15:=ab5 a.2 b.2 b.1 hM
  have e:15*M*((k+1:Nat):Int)=15*M*(k:Int)+M*15:=by
   rw[show ((k+1:Nat):Int)=(k:Int)+1 by omega,Int.mul_add,Int.mul_one,Int.mul_comm 15 M]
  omega
theorem vD (ws ls:List Int)(S:Nat)(N1 N2 p1 p2:Nat)(w:World)(a2:Option Addr)(h1:aR w S ws)(h2:Ints w a2 ls)(hN1:ws.length=N1)(WQ:ls.length=N2)(hN:N1<=N2)(LH:N1<=320)(M:Int)(hM:0<=M/\M<=200000)(hw:∀j,0<=ws.getD j 0/\ws.getD j 0<=M)(hl:∀j,0<=ls.getD j 0/\ls.getD j 0<=15): Calls Tryz.prog 230 #[.slice (some ⟨S,0,none⟩) N1 p1,.slice a2 N2 p2] w fun e w'=>e=.returned (.int .i64 (dot ws ls N1))/\w'=w:=by
 have hdr:=nh ws ls M hM.1 hw hl
 go_enter Tryz.func230,Tryz.ntmps230
 go_wp2
 go_loop [5,10] (fun sm ix=>∃k:Nat,k<=N1/\ix=.int .i64 k/\sm=.int .i64 (dot ws ls k)) (fun _ ix=>N1-(intOf ix).toNat)
 case atStart=>exact⟨0,aaj _,rfl,rfl⟩
 case round =>
  obtain⟨k,hk,rfl,rfl⟩:=hrel;by_cases hlt:k<N1
  ·have x1:=h1.at_ k (by omega);obtain⟨b,off,rfl,x2⟩:=h2 k (by omega)
   have x3:w.cell? ⟨b,off+k,none⟩=some (.int .i64 (ls.getD k 0)):=by
    rw[x2,aaa,aai (by omega)];rfl
   have q0:=hdr k;have q1:=hdr (k+1);have qw:=hw k;have ql:=hl k;have hp1:=abW qw.1 ql.1;have hp2:ws.getD k 0*ls.getD k 0<=M*15:=ab5 qw.2 ql.2 ql.1 hM.1;have HD:Hid (dot ws ls (k+1)=dot ws ls k+ws.getD k 0*ls.getD k 0):=rfl;have qb:15*M*(k:Int)<=15*M*320:=Int.mul_le_mul_of_nonneg_left (by omega) (by omega);have q2:dot ws ls k<=960000000:=by omega
   generalize ws.getD k 0=A at *;generalize ls.getD k 0=L at *;generalize hP:A*L=PR at *;have hdk:0<=dot ws ls k:=q0.1;generalize dot ws ls k=DK at *;clear q0 q1 x2 qb h1 h2;go_wp2
   go_round
   case rel=>exact⟨k+1,by omega,by go_num,by rw[HD.out]⟩
   case measure=>simp[intOf];omega
  ·go_wp2
   go_ret
   have:k=N1:=by omega
   subst this;exact⟨rfl,rfl⟩
abbrev om (Sy Di ex:Nat):Value:=.agg #[.slice (some ⟨Sy,0,none⟩) 286 286,.slice (some ⟨Di,0,none⟩) 30 30,.int .i64 ex]
theorem O3 (ws us ls ds:List Int)(Sy Di ex:Nat)(N1 N2 p1 p2:Nat)(w:World)(a1 a2:Option Addr)(h1:aR w Sy ws)(h2:aR w Di us)(i1:Ints w a1 ls)(i2:Ints w a2 ds)(b1:∀a,a1=some a->ls≠[]->a.block<w.heap.size)(b2:∀a,a2=some a->ds≠[]->a.block<w.heap.size)(l1:ws.length=286)(l2:us.length=30)(l3:ls.length=N1)(l4:ds.length=N2)(g1:286<=N1)(g2:30<=N2)(hex:ex<=3000000)(M:Int)(hM:0<=M/\M<=200000)(hw:∀j,0<=ws.getD j 0/\ws.getD j 0<=M)(hu:∀j,0<=us.getD j 0/\us.getD j 0<=M)(hl:∀j,0<=ls.getD j 0/\ls.getD j 0<=15)(hd:∀j,0<=ds.getD j 0/\ds.getD j 0<=15): Calls Tryz.prog 214 #[om Sy Di ex,.slice a1 N1 p1,.slice a2 N2 p2] w fun e w'=>e=.returned (.int .i64 ((ex:Int)+dot ws ls 286+dot us ds 30))/\Below w.heap.size w w':=by
 have k0:=ag w (.cells #[.slice (some ⟨Sy,0,none⟩) 286 286,.slice (some ⟨Di,0,none⟩) 30 30,.int .i64 ex] 220);have c1:=fun x=>vD ws ls Sy 286 N1 286 p1 ((w.alloc (.cells #[.slice (some ⟨Sy,0,none⟩) 286 286,.slice (some ⟨Di,0,none⟩) 30 30,.int .i64 ex] 220)).drewN x) a1 (show (w.alloc _).heap[Sy]?=_ from aw h1 _) (i1.below (aap k0 x) b1) l1 l3 g1 (by omega) M hM hw hl;have c2:=fun x=>vD us ds Di 30 N2 30 p2 ((w.alloc (.cells #[.slice (some ⟨Sy,0,none⟩) 286 286,.slice (some ⟨Di,0,none⟩) 30 30,.int .i64 ex] 220)).drewN x) a2 (show (w.alloc _).heap[Di]?=_ from aw h2 _) (i2.below (aap k0 x) b2) l2 l4 g2 (by omega) M hM hu hd;have r1:=nh ws ls M hM.1 hw hl 286;have r2:=nh us ds M hM.1 hu hd 30;have s1:dot ws ls 286<=900000000:=by omega
 have s2:dot us ds 30<=900000000:=by omega
 have s3:=r1.1;have s4:=r2.1;clear r1 r2;generalize dot ws ls 286=A at *;generalize dot us ds 30=B at *
 go_enter Tryz.func214,Tryz.ntmps214
 go_wp2
 go_quiet ((first|(go_at_call 230;with_reducible exact abr (c1 _))|(go_at_call 230;with_reducible exact abr (c2 _))))
 go_wp2
 go_ret
 exact⟨rfl,k0.trans (aap (aak _ _) _)⟩
theorem sK {u:World}{o:Obj}{k:Nat}(h:k=u.heap.size):(u.alloc o).heap[k]?=some o:=by subst h;exact ak u o
theorem Df (N:Nat)(b:Bool):vals (eF N b [])=List.replicate N (.int .i64 0):=by
 rw[<-aX]
 congr 1
 apply abt
 ·simp[eF]
 ·intro j _ _;simp[eF]
theorem gh (w:World)(a b c d:Obj):Below (w.heap.size+1) (w.alloc a) (((((w.alloc a).alloc b).alloc c).alloc d).drew):=by
 have h:=(((aak (w.heap.size+1) (w.alloc a)).alloc (by simp) b).alloc (by simp) c).alloc (by simp) d;exact⟨h.os,h.tape,h.output,h.size,h.block⟩
theorem vE {w:World}{a b c d:Obj}{k:Nat}(h:k=w.heap.size+1):(((((w.alloc a).alloc b).alloc c).alloc d).drew).heap[k]?=some b:=aw (aw (sK (by simpa using h)) _) _
theorem vF {w:World}{a b c d:Obj}{k:Nat}(h:k=w.heap.size+1+1):(((((w.alloc a).alloc b).alloc c).alloc d).drew).heap[k]?=some c:=aw (sK (by simpa using h)) _
theorem vG {w:World}{a b c d:Obj}{k:Nat}(h:k=w.heap.size+1+1+1):(((((w.alloc a).alloc b).alloc c).alloc d).drew).heap[k]?=some d:=sK (u:=((w.alloc a).alloc b).alloc c) (by simpa using h)
theorem Bl (Tb Sy Di:Nat)(ao:Option Addr)(cap:Nat)(s:ByteArray)(steps:List (Nat×Nat))(w u:World)(b0:Nat)(Z Y:List Value)(hZ:Z=vals (eF 286 false []))(hY:Y=vals (eF 30 true []))(hb:u.heap[Tb]?=some (.cells #[.slice (some ⟨Sy,0,none⟩) 286 286,.slice (some ⟨Di,0,none⟩) 30 30,.int .i64 0] 220 (0,0)))(hs1:u.heap[Sy]?=some (.cells Z.toArray 3 (0,0)))(hd1:u.heap[Di]?=some (.cells Y.toArray 3 (0,0)))(hbe:Below b0 w u)(hb0:b0=w.heap.size)(hne:Sy≠Di/\Sy≠Tb/\Di≠Tb/\b0<=Sy/\b0<=Di/\b0<=Tb)(hst:Steps w (.slice ao steps.length cap) steps w.heap.size)(hs:s.size<=65535)(hok:c8 s.size 0 steps)(hsv:∀SB cap',Value.slice ao steps.length cap=.slice (some ⟨SB,0,none⟩) steps.length cap'->SB<w.heap.size): Calls Tryz.prog 211 #[.string s,.slice ao steps.length cap,.agg #[.func (.func 212) #[] #[.pointer (some ⟨Tb,0,none⟩)],.func (.func 213) #[] #[.pointer (some ⟨Tb,0,none⟩)]]] u fun e u'=>e=.returned (.tuple #[])/\ju Tb Sy Di (.slice ao steps.length cap) steps b0 w u' (ax s.data.toList 0 steps):=by
 subst hb0
 have hst':Steps u (.slice ao steps.length cap) steps Tb:=⟨hst.1,fun hn=>by
  obtain⟨SB,cp,h1,h2,h3⟩:=hst.2 hn
  exact⟨SB,cp,h1,by have:=hsv SB cp h1;omega,h3.kept (hbe.block _ h3.lt)⟩⟩
 have h0:ju Tb Sy Di (.slice ao steps.length cap) steps w.heap.size w u []:=⟨hb,by rw[hZ]at hs1;exact hs1,by rw[hY]at hd1;exact hd1,hbe,hst',hne,aaj _⟩
 refine (zj _ _ _ _ _ ao cap s steps _ u (E5 Tb Sy Di ao cap steps _ _ w u h0 rfl hsv) ⟨h0,aad _⟩ hs hok).mono ?_;rintro e u' ⟨rfl,h⟩;exact⟨rfl,h.1⟩
abbrev LI (w:World)(T:Nat)(a b c:Value):World:=((w.setCell ⟨T,0,none⟩ a).setCell ⟨T,1,none⟩ b).setCell ⟨T,2,none⟩ c
theorem LJ (w:World)(T:Nat)(a b c:Value):Kp (·=T) w (LI w T a b c) :=
 (((Kp.refl (·=T) w).setCell (p:=⟨T,0,none⟩) (.inl rfl) a).setCell (p:=⟨T,1,none⟩) (.inl rfl) b).setCell (p:=⟨T,2,none⟩) (.inl rfl) c
theorem E6 {Tb Sy Di:Nat}{sv:Value}{steps:List (Nat×Nat)}{w w1:World}{o:Obj}{ts:List Tok}(h:ju Tb Sy Di sv steps (w.heap.size+1) (w.alloc o) w1 ts)(a b c:Value): aR (LI w1 w.heap.size a b c) Sy (eF 286 false ts)/\aR (LI w1 w.heap.size a b c) Di (eF 30 true ts)/\Below w.heap.size w (LI w1 w.heap.size a b c)/\w.heap.size<=Sy/\w.heap.size<=Di:=by
 have K:=LJ w1 w.heap.size a b c;obtain⟨n1,n2,n3,n4,n5,n6⟩:=h.ne;have hs:=h.be.size;rw[aaC]at hs;refine⟨(K.block Sy (aab h.sy) (by omega)).trans h.sy,(K.block Di (aab h.di) (by omega)).trans h.di,?_,by omega,by omega⟩;exact ((ag w o).trans (h.be.mono (by omega))).trans (K.below (by omega) (fun k _ hk=>by omega))
theorem vH (ao:Option Addr)(cap:Nat)(s:ByteArray)(steps:List (Nat×Nat))(w:World)(hst:Steps w (.slice ao steps.length cap) steps w.heap.size)(hs:s.size<=65535)(hok:c8 s.size 0 steps)(hsv:∀SB cap',Value.slice ao steps.length cap=.slice (some ⟨SB,0,none⟩) steps.length cap'->SB<w.heap.size): Calls Tryz.prog 183 #[.string s,.slice ao steps.length cap] w fun e w'=>∃Sy Di,e=.returned (om Sy Di (aV (ax s.data.toList 0 steps)))/\aR w' Sy (eF 286 false (ax s.data.toList 0 steps))/\aR w' Di (eF 30 true (ax s.data.toList 0 steps))/\Below w.heap.size w w'/\w.heap.size<=Sy/\w.heap.size<=Di:=by
 obtain⟨Z,hZ⟩:∃Z:List Value,Z=List.replicate 286 (.int .i64 0):=⟨_,rfl⟩
 obtain⟨Y,hY⟩:∃Y:List Value,Y=List.replicate 30 (.int .i64 0):=⟨_,rfl⟩
 have hmk:∀u:World,(Instr.makeSlice 24 (.int .i64 286) (.int .i64 286)).run Tryz.prog u=.ok (.slice (some ⟨u.heap.size,0,none⟩) 286 286) (u.alloc (.cells Z.toArray 3)):=fun u=>iE 286 (by omega) Z hZ u;have Wt:∀u:World,(Instr.makeSlice 24 (.int .i64 30) (.int .i64 30)).run Tryz.prog u=.ok (.slice (some ⟨u.heap.size,0,none⟩) 30 30) (u.alloc (.cells Y.toArray 3)):=fun u=>iE 30 (by omega) Y hY u;have HZ:Hid (Z=vals (eF 286 false [])):=by show _=_;rw[hZ,Df]
 have HY:Hid (Y=vals (eF 30 true [])):=by show _=_;rw[hY,Df]
 clear hZ hY
 have xj:Steps (w.alloc (.cells #[.slice none 0 0,.slice none 0 0,.int .i64 0] 220)) (.slice ao steps.length cap) steps (w.alloc (.cells #[.slice none 0 0,.slice none 0 0,.int .i64 0] 220)).heap.size:=⟨hst.1,fun hn=>by
  obtain⟨SB,cp,h1,h2,h3⟩:=hst.2 hn
  exact⟨SB,cp,h1,by have:=hsv SB cp h1;simp;omega,h3.kept (aaM _ _ _ h3.lt)⟩⟩
 have HC:=fun (Tb Sy Di:Nat) (u:World) hb hs1 hd1 hbe hne=>Bl Tb Sy Di ao cap s steps (w.alloc (.cells #[.slice none 0 0,.slice none 0 0,.int .i64 0] 220)) u (w.heap.size+1) Z Y HZ.out HY.out hb hs1 hd1 hbe (by simp) hne xj hs hok (fun SB c' e=>by have:=hsv SB c' e;simp;omega);clear xj;have Rg:Hid (∀(Tb Sy Di:Nat) (u:World),_):=HC;clear HC HZ HY
 go_enter Tryz.func183,Tryz.ntmps183
 go_wp2
 go_region
 all_goals
  go_wp2_with fail
  first
   | with_reducible refine (Rg.out (w.heap.size+1) (w.heap.size+1+1) (w.heap.size+1+1+1) _ (vE rfl) (vF rfl) (vG rfl) (gh w _ _ _ _) (by omega)).mono ?_
   | with_reducible refine (Rg.out (w.heap.size+1) (w.heap.size+1+1+1) (w.heap.size+1+1) _ (vE rfl) (vG rfl) (vF rfl) (gh w _ _ _ _) (by omega)).mono ?_
   | with_reducible refine (Rg.out (w.heap.size+1+1) (w.heap.size+1) (w.heap.size+1+1+1) _ (vF rfl) (vE rfl) (vG rfl) (gh w _ _ _ _) (by omega)).mono ?_
   | with_reducible refine (Rg.out (w.heap.size+1+1) (w.heap.size+1+1+1) (w.heap.size+1) _ (vF rfl) (vG rfl) (vE rfl) (gh w _ _ _ _) (by omega)).mono ?_
   | with_reducible refine (Rg.out (w.heap.size+1+1+1) (w.heap.size+1) (w.heap.size+1+1) _ (vG rfl) (vE rfl) (vF rfl) (gh w _ _ _ _) (by omega)).mono ?_
   | with_reducible refine (Rg.out (w.heap.size+1+1+1) (w.heap.size+1+1) (w.heap.size+1) _ (vG rfl) (vF rfl) (vE rfl) (gh w _ _ _ _) (by omega)).mono ?_
  rintro e w1 ⟨rfl,h1⟩;obtain⟨c0,c1,c2,fz,hlt⟩:=cells3 h1.box;have hr:w1.heap[w.heap.size]?=some (.cells #[.slice none 0 0,.slice none 0 0,.int .i64 0] 220 (0,0)):=(h1.be.block _ (by omega)).trans (ak w _);obtain⟨d0,d1,d2,fd,acB⟩:=cells3 hr;have HH:Hid (ju _ _ _ _ _ _ _ _ _):=h1;clear h1 hr;go_wp2;refine aal (v:=om _ _ (aV (ax s.data.toList 0 steps))) ?_ rfl ⟨_,_,rfl,E6 HH.out _ _ _⟩;simp[results,Tryz.results183,go_sem,d0,d1,d2]
end Go.Proofs.YtmfijackgekioaaGreatDoor
