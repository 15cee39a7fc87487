import Derived.Test.YtmfijackgekioaaGreatDoorQ12
import Derived.Test.YtmfijackgekioaaGreatDoorQ14
set_option maxHeartbeats 2000000
set_option maxRecDepth 100000
namespace Go.Proofs.YtmfijackgekioaaGreatDoor
open Go.RowKit
structure Mb where
 w:Int
 a:Option Addr
 n:Nat
 c:Nat
 ns:List Nat
abbrev Mb.val (x:Mb):Value×Value:=(.int .i64 x.w,.slice x.a x.n x.c)
abbrev Mb.agg (x:Mb):Value:=.agg #[.int .i64 x.w,.slice x.a x.n x.c]
abbrev aV (w:World)(T n:Nat)(f:Nat->Mb×Nat):Prop:=jJ w T 262 n (fun j=>(f j).1.val)
theorem aV.swap {w:World}{T n:Nat}{f:Nat->Mb×Nat}(h:aV w T n f){i j:Nat}(hi:i<n)(hj:j<n)(hij:i≠j): aV (((((w.setCell ⟨T,i*2,none⟩ (f j).1.val.1).setCell ⟨T,i*2+1,none⟩ (f j).1.val.2).setCell ⟨T,j*2,none⟩ (f i).1.val.1).setCell ⟨T,j*2+1,none⟩ (f i).1.val.2)) T n (Rf.sw f i j):=by
 refine ((h.put i hi _ _).put j hj _ _).congr (fun k _=>?_);unfold Rf.sw;by_cases e1:k=j
 ·have e2:¬k=i:=by omega
  simp only[e1,if_true];rw[if_neg (by omega)]
 ·by_cases e2:k=i
  ·simp only[e2,if_true];rw[if_neg (by omega)]
  ·simp only[e1,e2,if_false]
theorem sq (w:World)(T i j:Nat)(a b c d:Value):Kp (·=T) w ((((w.setCell ⟨T,i*2,none⟩ a).setCell ⟨T,i*2+1,none⟩ b).setCell ⟨T,j*2,none⟩ c).setCell ⟨T,j*2+1,none⟩ d) :=
 (Ck w T i a b).trans (Ck _ T j c d)
theorem kQ (T n cap a b m:Nat)(fv:Value)(f:Nat->Mb×Nat)(w:World)(h:aV w T n f)(hab:a+m<=b)(hb:b+m<=n)(hn:n<=1000000): Calls Tryz.prog 263 #[.slice (some ⟨T,0,none⟩) n cap,.int .i64 a,.int .i64 b,.int .i64 m,fv] w fun e w'=>e=.returned (.tuple #[])/\aV w' T n (Rf.yL f a b m)/\Rf.gj n (Rf.yL f a b m) f/\Kp (·=T) w w':=by
 go_enter Tryz.func263,Tryz.ntmps263
 go_wp2
 go_loopw [10] (fun iv wr=>∃i:Nat,i<=m/\iv=.int .i64 i/\Hid (aV wr T n (Rf.yL f a b i))/\Hid (Rf.gj n (Rf.yL f a b i) f)/\Kp (·=T) w wr) (fun iv _=>m-(intOf iv).toNat)
 case atStart=>exact⟨0,Nat.zero_le _,rfl,by rw[Rf.zP];exact h,by rw[Rf.zP];exact Rf.gj.refl _ _,Kp.refl _ _⟩
 case round =>
  obtain⟨i,hi,rfl,HR,HP,hk⟩:=hrel;by_cases hlt:i<m
  ·have x1:=HR.out.cell (a+i) (by omega);have x2:=HR.out.cell (b+i) (by omega);have fz:=fun j=>HR.out.frozen j;have aY:=HR.out.lt;have S1:=HR.out.swap (i:=a+i) (j:=b+i) (by omega) (by omega) (by omega);rw[Rf.zQ f hab hlt]at S1
   have P1:Rf.gj n (Rf.yL f a b (i+1)) f:=by
    rw[<-Rf.zQ f hab hlt];exact (Rf.gj.sw n _ (by omega) (by omega)).trans HP.out
   generalize (Rf.yL f a b i (a+i)).1=X at *;generalize (Rf.yL f a b i (b+i)).1=Y at *;obtain⟨xw,xa,xn,xc,xs⟩:=X;obtain⟨yw,ya,yn,yc,ys⟩:=Y;obtain⟨x10,fW⟩:=x1;obtain⟨x20,gI⟩:=x2;simp only at x10 fW x20 gI S1;have e1:((a:Int)+(i:Int)).toNat=a+i:=by omega
   have e2:((b:Int)+(i:Int)).toNat=b+i:=by omega
   have K1:=hk.trans (sq wr T (a+i) (b+i) (.int .i64 yw) (.slice ya yn yc) (.int .i64 xw) (.slice xa xn xc));have HS:Hid (_/\_/\_):=⟨S1,P1,K1⟩
   clear S1 P1 K1 HP HR h hk;go_wp2
   go_region
   go_wp2
   go_roundw
   case rel=>exact⟨i+1,by omega,by go_num,HS.out.1.kept rfl,HS.out.2.1,HS.out.2.2.drew⟩
   case measure=>simp[intOf];omega
  ·go_wp2
   go_end0
   have:i=m:=by omega
   subst this;exact⟨rfl,HR.out,HP.out,hk⟩
theorem fT (T n cap a m b:Nat)(fv:Value)(f:Nat->Mb×Nat)(w:World)(h:aV w T n f)(ham:a<m)(hmb:m<b)(hb:b<=n)(hn:n<=1000000): Calls Tryz.prog 262 #[.slice (some ⟨T,0,none⟩) n cap,.int .i64 a,.int .i64 m,.int .i64 b,fv] w fun e w'=>e=.returned (.tuple #[])/\aV w' T n (Rf.iE f a m b)/\Rf.gj n (Rf.iE f a m b) f/\Kp (·=T) w w':=by
 go_enter Tryz.func262,Tryz.ntmps262
 go_wp2
 go_loopw [10,11] (fun iv jv wr=>∃(i j:Nat) (g:Nat->Mb×Nat),0<i/\0<j/\i<=m/\m+j<=n/\iv=.int .i64 i/\jv=.int .i64 j/\Hid (Rf.iE g (m-i) m (m+j)=Rf.iE f a m b)/\Hid (aV wr T n g)/\Hid (Rf.gj n g f)/\Kp (·=T) w wr) (fun iv jv _=>(intOf iv).toNat+(intOf jv).toNat)
 case atStart=>exact⟨m-a,b-m,f,by omega,by omega,by omega,by omega,by go_num,by go_num,by show _=_;rw[show m-(m-a)=a by omega,show m+(b-m)=b by omega],h,Rf.gj.refl _ _,Kp.refl _ _⟩
 case round =>
  clear h;obtain⟨i,j,g,hi0,hj0,him,hjn,rfl,rfl,HG,HR,HP,hk⟩:=hrel;have e1:(m:Int)-(i:Int)=((m-i:Nat):Int):=by omega
  have e2:(m:Int)+(j:Int)-(i:Int)=((m+j-i:Nat):Int):=by omega
  rcases Nat.lt_trichotomy i j with c|c|c
  ·have d1:((i:Int) != (j:Int))=true:=by simp;omega
   have d2:¬(i:Int)>(j:Int):=by omega
   have hcall:=kQ T n cap (m-i) (m+j-i) i fv g wr HR.out (by omega) (by omega) hn;go_wp2_with fail;refine hcall.mono ?_;rintro e w1 ⟨rfl,h1,p1,k1⟩;have HH:Hid (_/\_/\_/\_):=⟨(Rf.FW g him c).trans HG.out,h1,p1.trans HP.out,hk.trans k1⟩
   clear hcall h1 p1 k1 HG HR HP hk;go_wp2
   go_roundw
   case rel=>exact⟨i,j-i,_,hi0,by omega,him,by omega,rfl,by go_num,HH.out.1,HH.out.2.1,HH.out.2.2.1,HH.out.2.2.2⟩
   case measure=>simp[intOf];omega
  ·subst c;have d1:((i:Int) != (i:Int))=false:=by simp
   have hcall:=kQ T n cap (m-i) m i fv g wr HR.out (by omega) (by omega) hn;go_wp2_with fail;refine hcall.mono ?_;rintro e w1 ⟨rfl,h1,p1,k1⟩;rw[Rf.JB g him,HG.out]at h1 p1;go_wp2
   go_end0
   exact⟨rfl,h1,p1.trans HP.out,hk.trans k1⟩
  ·have d1:((i:Int) != (j:Int))=true:=by simp;omega
   have d2:(i:Int)>(j:Int):=by omega
   have hcall:=kQ T n cap (m-i) m j fv g wr HR.out (by omega) (by omega) hn;go_wp2_with fail;refine hcall.mono ?_;rintro e w1 ⟨rfl,h1,p1,k1⟩;have HH:Hid (_/\_/\_/\_):=⟨(Rf.JA g him c).trans HG.out,h1,p1.trans HP.out,hk.trans k1⟩
   clear hcall h1 p1 k1 HG HR HP hk;go_wp2
   go_roundw
   case rel=>exact⟨i-j,j,_,by omega,hj0,by omega,hjn,by go_num,rfl,HH.out.1,HH.out.2.1,HH.out.2.2.1,HH.out.2.2.2⟩
   case measure=>simp[intOf];omega
def fa (x y:Int):Int:=if x<y then -1 else if y<x then 1 else 0
theorem qA (x y:Int)(w:World):Calls Tryz.prog 141 #[.int .i64 x,.int .i64 y] w fun e w'=>e=.returned (.int .i64 (fa x y))/\w'=w:=by
 rcases Int.lt_trichotomy x y with h|h|h
 ·have e:fa x y=-1:=by unfold fa;rw[if_pos h]
  go_enter Tryz.func141,Tryz.ntmps141
  go_wp2
  go_ret
  first|exact⟨rfl,rfl⟩|exact⟨aH e.symm,rfl⟩
 ·subst h;have e:fa x x=0:=by unfold fa;rw[if_neg (by omega),if_neg (by omega)]
  have g1:¬x<x:=by omega
  go_enter Tryz.func141,Tryz.ntmps141
  go_wp2
  go_ret
  first|exact⟨rfl,rfl⟩|exact⟨aH e.symm,rfl⟩
 ·have e:fa x y=1:=by unfold fa;rw[if_neg (by omega),if_pos h]
  have g1:¬x<y:=by omega
  go_enter Tryz.func141,Tryz.ntmps141
  go_wp2
  go_ret
  first|exact⟨rfl,rfl⟩|exact⟨aH e.symm,rfl⟩
theorem gq (x y:Int):fa x y<0↔x<y:=by
 unfold fa;split
 ·omega
 ·split<;>omega
theorem jY {W w1:World}(hb:Below W.heap.size W w1):(∀b o,b<W.heap.size->w1.cell? ⟨b,o,none⟩=W.cell? ⟨b,o,none⟩)/\(∀b o,b<W.heap.size->w1.frozen? ⟨b,o,none⟩=W.frozen? ⟨b,o,none⟩) :=
 ⟨fun b o h=>hb.cell (p:=⟨b,o,none⟩) h,fun b o h=>hb.frozen (p:=⟨b,o,none⟩) h⟩
structure gv (kc:Nat):Prop where
 cmp:∀w (x y:Mb),Calls Tryz.prog kc #[x.agg,y.agg] w fun e w'=>e=.returned (.int .i64 (fa x.w y.w))/\Below w.heap.size w w'
 call:∀args w,(callFunc kc args).run Tryz.prog w=.ok (.enter kc args) w
theorem Rm:gv 249:=by
 refine⟨fun w x y=>?_,fun args w=>by kernel_rfl⟩;obtain⟨xw,xa,xn,xc,xs⟩:=x;obtain⟨yw,ya,yn,yc,ys⟩:=y
 go_enter Tryz.func249,Tryz.ntmps249
 go_wp2_with (go_at_call 141;refine (qA _ _ _).mono ?_;rintro e w' ⟨rfl,rfl⟩)
 go_ret
 exact⟨rfl,((Below.refl _ _).alloc (Nat.le_refl _) _).alloc (by simp) _⟩
theorem JK:gv 255:=by
 refine⟨fun w x y=>?_,fun args w=>by kernel_rfl⟩;obtain⟨xw,xa,xn,xc,xs⟩:=x;obtain⟨yw,ya,yn,yc,ys⟩:=y
 go_enter Tryz.func255,Tryz.ntmps255
 go_wp2_with (go_at_call 141;refine (qA _ _ _).mono ?_;rintro e w' ⟨rfl,rfl⟩)
 go_ret
 exact⟨rfl,((Below.refl _ _).alloc (Nat.le_refl _) _).alloc (by simp) _⟩
theorem aV.below {w w':World}{T n:Nat}{f:Nat->Mb×Nat}(h:aV w T n f)(k:Below w.heap.size w w'):aV w' T n f:=h.kept (k.block _ h.lt)
theorem pC (kc:Nat)(hc:gv kc)(T n cap a b:Nat)(f:Nat->Mb×Nat)(w:World)(h:aV w T n f)(hb:b<=n)(hn:n<=1000000)(ha:a<=1000000)(htag:∀i j,a<=i->i<j->j<b->(f i).2<(f j).2): Calls Tryz.prog 260 #[.slice (some ⟨T,0,none⟩) n cap,.int .i64 a,.int .i64 b,.func (.func kc) #[] #[]] w fun e w'=>e=.returned (.tuple #[])/\∃g,aV w' T n g/\Rf.gj n g f/\Rf.In f g a b/\Rf.dS Mb.w g a b/\Kp (·=T) w w':=by
 have hcall:=hc.call
 go_enter Tryz.func260,Tryz.ntmps260
 go_wp2
 go_loopw [8] (fun iv wr=>∃(i:Nat) (g:Nat->Mb×Nat),a<i/\(i<=b\/i=a+1)/\iv=.int .i64 i/\Hid (aV wr T n g)/\Hid (Rf.gj n g f)/\Hid (Rf.In f g a i)/\Hid (Rf.dS Mb.w g a i)/\Kp (·=T) w wr) (fun iv _=>b-(intOf iv).toNat)
 case atStart=>exact⟨a+1,f,by omega,.inr rfl,by go_num,h,Rf.gj.refl _ _,Rf.In.refl _ _ _,fun i j h1 h2 h3=>by omega,Kp.refl _ _⟩
 case round =>
  clear h;obtain⟨i,g,hai,hib,rfl,HR,HP,HI,HS,hk⟩:=hrel;by_cases hlt:i<b
  ·have hgi:g i=f i:=HI.out.1 i (.inr (Nat.le_refl _))
   have HT:Hid (∀k,a<=k->k<i->(g k).2<(g i).2):=by
    intro k h1 h2;obtain⟨l,l1,l2,e⟩:=HI.out.2 k h1 h2;rw[e,hgi];exact htag l i l1 l2 hlt
   clear hgi;go_wp2
   go_loopw [9] (fun jv wq=>∃j:Nat,a<=j/\j<=i/\jv=.int .i64 j/\Hid (aV wq T n (Rf.ins g j i))/\Hid (Rf.gj n (Rf.ins g j i) f)/\Hid (∀h,j<=h->h<i->(g i).1.w<(g h).1.w)/\Kp (·=T) w wq) (fun jv _=>(intOf jv).toNat)
   case atStart=>exact⟨i,by omega,Nat.le_refl _,rfl,by rw[Rf.px];exact HR,by rw[Rf.px];exact HP,fun h h1 h2=>by omega,hk⟩
   case round =>
    clear HR HP hk;obtain⟨j,haj,hji,rfl,HR,HP,HJ,hk⟩:=hrel;by_cases hja:a<j
    ·have x1:=HR.out.cell j (by omega);have x2:=HR.out.cell (j-1) (by omega);have fz:=fun j=>HR.out.frozen j;have aY:=HR.out.lt
     have P1:Rf.gj n (Rf.ins g (j-1) i) f:=by
      rw[<-Rf.py g (by omega) hji];exact (Rf.gj.sw n _ (by omega) (by omega)).trans HP.out
     have hv1:Rf.ins g j i j=g i:=by unfold Rf.ins;rw[if_pos rfl]
     have hv2:Rf.ins g j i (j-1)=g (j-1):=by unfold Rf.ins;rw[if_neg (by omega),if_neg (by omega)]
     have S1:∀u,aV u T n (Rf.ins g j i)->aV (((((u.setCell ⟨T,j*2,none⟩ (g (j-1)).1.val.1).setCell ⟨T,j*2+1,none⟩ (g (j-1)).1.val.2).setCell ⟨T,(j-1)*2,none⟩ (g i).1.val.1).setCell ⟨T,(j-1)*2+1,none⟩ (g i).1.val.2)) T n (Rf.ins g (j-1) i):=fun u hu=>by
      have:=hu.swap (i:=j) (j:=j-1) (by omega) (by omega) (by omega);rw[Rf.py g (by omega) hji,hv1,hv2]at this;exact this
     rw[hv1]at x1;rw[hv2]at x2;obtain⟨x10,fW⟩:=x1;obtain⟨x20,gI⟩:=x2;clear hv1 hv2;have HC:=fun u=>hc.cmp u (g i).1 (g (j-1)).1
     have ZE:(g i).1.w<(g (j-1)).1.w->Hid (∀h,j-1<=h->h<i->(g i).1.w<(g h).1.w):=fun hx h h1 h2=>by
      by_cases e:h=j-1
      ·rw[e];exact hx
      ·exact HJ.out h (by omega) h2
     have HE:¬(g i).1.w<(g (j-1)).1.w->Hid (Rf.dS Mb.w (Rf.ins g j i) a (i+1)):=fun hx=>Rf.vS haj hji HS.out HT.out (.inr (by omega)) HJ.out;have tA:Hid (Rf.In f (Rf.ins g j i) a (i+1)):=(HI.out.wide (Nat.le_refl _) (Nat.le_succ _)).trans (Rf.Cj g haj hji (Nat.lt_succ_self _));have K1:=fun (u:World) a b c d=>sq u T j (j-1) a b c d;have hdec:decide ((j:Int)>(a:Int))=true:=by simp;omega
     have hj1:(0:Int)<=(j:Int)-1:=by omega
     have e1:((j:Int)-1).toNat=j-1:=by omega
     have hjn:j<n:=by omega
     have aft:(j:Int)<(n:Int):=by omega
     have hwp:IntKind.i64.wrap ((j:Int)-1)=((j-1:Nat):Int):=by rw[IntWalk.i64_in _ (by omega)];omega
     have afu:((j-1:Nat):Int)<(n:Int):=by omega
     have afv:j-1<n:=by omega
     generalize hX:(g i).1=X at *;generalize hY:(g (j-1)).1=Y at *;obtain⟨xw,xa,xn,xc,xs⟩:=X;obtain⟨yw,ya,yn,yc,ys⟩:=Y;simp only at x10 fW x20 gI S1 ZE HE HC;have Nb:Hid (_/\_):=⟨S1,P1⟩
     have HK:Hid (∀(u:World) (a b c d:Value),_):=K1;have HRR:=HR;have ZF:Hid (_->_):=ZE;have HE':Hid (_->_):=HE;clear S1 P1 K1 ZE HE hX hY;by_cases hlt2:xw<yw
     ·have hc1:fa xw yw<0:=(gq _ _).2 hlt2;go_wp2;have hS:wr.drew.cell? ⟨T,j*2,none⟩=some (.int .i64 xw)/\wr.drew.cell? ⟨T,j*2+1,none⟩=some (.slice xa xn xc)/\wr.drew.cell? ⟨T,(j-1)*2,none⟩=some (.int .i64 yw)/\wr.drew.cell? ⟨T,(j-1)*2+1,none⟩=some (.slice ya yn yc):=⟨x10,fW,x20,gI⟩
      refine ax (by kernel_rfl) (fun w'=>w'.cell? ⟨T,j*2,none⟩=some (.int .i64 xw)/\w'.cell? ⟨T,j*2+1,none⟩=some (.slice xa xn xc)/\w'.cell? ⟨T,(j-1)*2,none⟩=some (.int .i64 yw)/\w'.cell? ⟨T,(j-1)*2+1,none⟩=some (.slice ya yn yc)) 99 ?_;refine ap [0,1,2,3,4,5,6,7,8,9,10,11,12,13] ?_
      iterate 14 (refine ar (v:=?_) rfl (by kernel_rfl) (fun _ _ _ h=>h) ?_ hS ?_;rotate_left;(·intro w hSw;(try dsimp only at hSw);go_simp;try with_reducible rfl);try simp only[Act.put])
      refine ai ?_;refine af (i:=14) (by kernel_rfl) rfl (fun K hK=>?_);go_simp;refine (HC _).mono ?_;rintro e w1 ⟨rfl,hb1⟩;obtain⟨bc,bf⟩:=jY hb1;have hS1:=hS;rw[<-bc T _ aY,<-bc T _ aY,<-bc T _ aY,<-bc T _ aY]at hS1;have HR1:aV w1 T n (Rf.ins g j i):=aV.below (w:=wr.drew) (HR.out.kept rfl) hb1;have hk1:Kp (·=T) w w1:=hk.drew.trans (Kp.aG hb1);have Qw:∀j,w1.frozen? ⟨T,j,none⟩=false:=fun j=>HR1.frozen j;have hlt1:=HR1.lt;refine hK _ _ (fun _=>hS1) ?_;clear hK K;refine af (i:=15) (by kernel_rfl) rfl (fun K hK=>?_);go_simp;refine hK _ _ (fun _=>hS1) ?_;clear hK K;refine af (i:=16) (by kernel_rfl) rfl (fun K hK=>?_);go_simp;refine hK _ _ (fun _=>hS1) ?_;clear hK K;refine ak (by kernel_rfl) ?_ _;clear bc bf hb1 hS x10 fW x20 gI fz aY HC;obtain⟨x10,fW,x20,gI⟩:=hS1;have SS:=Nb.out.1 w1 HR1;have KK:=hk1.trans (HK.out w1 (.int .i64 yw) (.slice ya yn yc) (.int .i64 xw) (.slice xa xn xc));have HQ:Hid (_/\_/\_):=⟨SS,Nb.out.2,KK⟩
      clear SS KK Nb HK HR HP hk hk1 HR1;go_wp2
      go_region
      go_wp2
      go_roundw
      case rel=>exact⟨j-1,by omega,by omega,by go_num,HQ.out.1.kept rfl,HQ.out.2.1,ZF.out hlt2,HQ.out.2.2.drew⟩
      case measure=>simp[intOf];omega
     ·have hc1:¬fa xw yw<0:=fun hh=>hlt2 ((gq _ _).1 hh);go_wp2;have hS:wr.drew.cell? ⟨T,j*2,none⟩=some (.int .i64 xw)/\wr.drew.cell? ⟨T,j*2+1,none⟩=some (.slice xa xn xc)/\wr.drew.cell? ⟨T,(j-1)*2,none⟩=some (.int .i64 yw)/\wr.drew.cell? ⟨T,(j-1)*2+1,none⟩=some (.slice ya yn yc):=⟨x10,fW,x20,gI⟩
      refine ax (by kernel_rfl) (fun w'=>w'.cell? ⟨T,j*2,none⟩=some (.int .i64 xw)/\w'.cell? ⟨T,j*2+1,none⟩=some (.slice xa xn xc)/\w'.cell? ⟨T,(j-1)*2,none⟩=some (.int .i64 yw)/\w'.cell? ⟨T,(j-1)*2+1,none⟩=some (.slice ya yn yc)) 99 ?_;refine ap [0,1,2,3,4,5,6,7,8,9,10,11,12,13] ?_
      iterate 14 (refine ar (v:=?_) rfl (by kernel_rfl) (fun _ _ _ h=>h) ?_ hS ?_;rotate_left;(·intro w hSw;(try dsimp only at hSw);go_simp;try with_reducible rfl);try simp only[Act.put])
      refine ai ?_;refine af (i:=14) (by kernel_rfl) rfl (fun K hK=>?_);go_simp;refine (HC _).mono ?_;rintro e w1 ⟨rfl,hb1⟩;obtain⟨bc,bf⟩:=jY hb1;have hS1:=hS;rw[<-bc T _ aY,<-bc T _ aY,<-bc T _ aY,<-bc T _ aY]at hS1;have HR1:aV w1 T n (Rf.ins g j i):=aV.below (w:=wr.drew) (HR.out.kept rfl) hb1;have hk1:Kp (·=T) w w1:=hk.drew.trans (Kp.aG hb1);have Qw:∀j,w1.frozen? ⟨T,j,none⟩=false:=fun j=>HR1.frozen j;have hlt1:=HR1.lt;refine hK _ _ (fun _=>hS1) ?_;clear hK K;refine af (i:=15) (by kernel_rfl) rfl (fun K hK=>?_);go_simp;refine hK _ _ (fun _=>hS1) ?_;clear hK K;refine af (i:=16) (by kernel_rfl) rfl (fun K hK=>?_);go_simp;refine hK _ _ (fun _=>hS1) ?_;clear hK K;refine ak (by kernel_rfl) ?_ _;clear bc bf hb1 hS x10 fW x20 gI fz aY HC;have HQ:Hid (_/\_/\_/\_/\_):=⟨HR1,HP.out,tA.out,(HE'.out hlt2).out,hk1⟩
      clear Nb HK HR HP hk hk1 HR1;go_wp2
      go_roundw
      case rel=>exact⟨i+1,_,by omega,.inl (by omega),by go_num,HQ.out.1,HQ.out.2.1,HQ.out.2.2.1,HQ.out.2.2.2.1,HQ.out.2.2.2.2⟩
      case measure=>simp[intOf];omega
    ·have e:j=a:=by omega
     subst e;have hdec:decide ((j:Int)>(j:Int))=false:=by simp
     have hjj:¬(j:Int)>(j:Int):=by omega
     have tA:Hid (Rf.In f (Rf.ins g j i) j (i+1)):=(HI.out.wide (Nat.le_refl _) (Nat.le_succ _)).trans (Rf.Cj g haj hji (Nat.lt_succ_self _));have HE:Hid (Rf.dS Mb.w (Rf.ins g j i) j (i+1)):=Rf.vS haj hji HS.out HT.out (.inl rfl) HJ.out;go_wp2
     go_quiet (fail)
     go_wp2
     go_roundw
     case rel=>exact⟨i+1,_,by omega,.inl (by omega),by go_num,HR.out.kept rfl,HP,tA,HE,hk.drewN _⟩
     case measure=>simp[intOf];omega
  ·have hlt':¬(i:Int)<(b:Int):=by omega
   go_wp2
   go_end0
   refine⟨rfl,g,HR.out,HP.out,?_,?_,hk⟩
   ·rcases hib with q|q
    ·rw[show b=i by omega];exact HI.out
    ·refine⟨fun k hk=>?_,fun k h1 h2=>⟨k,h1,h2,?_⟩⟩
     ·by_cases e:a<=k/\k<i
      ·obtain⟨l,l1,l2,e2⟩:=HI.out.2 k e.1 e.2;rw[e2];congr 1;omega
      ·exact HI.out.1 k (by omega)
     ·obtain⟨l,l1,l2,e2⟩:=HI.out.2 k h1 (by omega);rw[e2];congr 1;omega
   ·rcases hib with q|q
    ·rw[show b=i by omega];exact HS.out
    ·intro p q h1 h2 h3;omega
def dot (ws ls:List Int):Nat->Int
 | 0=>0
 | k+1=>dot ws ls k+ws.getD k 0*ls.getD k 0
theorem nH (ws ls:List Int)(M:Int)(hM:0<=M)(hw:∀j,0<=ws.getD j 0/\ws.getD j 0<=M)(hl:∀j,0<=ls.getD j 0/\ls.getD j 0<=15):∀k,0<=dot ws ls k/\dot ws ls k<=15*M*k
 | 0=>by simp[dot]
 | k+1=>by
  have ih:=nH ws ls M hM hw hl k;have a:=hw k;have b:=hl k;rw[dot];have c1:=Int.mul_nonneg a.1 b.1;have c2:ws.getD k 0*ls.getD k 0<=M*15:=Int.mul_le_mul a.2 b.2 b.1 hM
  have e:15*M*((k+1:Nat):Int)=15*M*(k:Int)+M*15:=by
   rw[show ((k+1:Nat):Int)=(k:Int)+1 by omega,Int.mul_add,Int.mul_one,Int.mul_comm 15 M]
  omega
theorem vV (ws ls:List Int)(S:Nat)(N1 N2 p1 p2:Nat)(w:World)(a2:Option Addr)(h1:aP w S ws)(h2:Ints w a2 ls)(hN1:ws.length=N1)(ZC:ls.length=N2)(hN:N1<=N2)(Ij:N1<=320)(M:Int)(hM:0<=M/\M<=200000)(hw:∀j,0<=ws.getD j 0/\ws.getD j 0<=M)(hl:∀j,0<=ls.getD j 0/\ls.getD j 0<=15): Calls Tryz.prog 230 #[.slice (some ⟨S,0,none⟩) N1 p1,.slice a2 N2 p2] w fun e w'=>e=.returned (.int .i64 (dot ws ls N1))/\w'=w:=by
 have hdr:=nH ws ls M hM.1 hw hl
 go_enter Tryz.func230,Tryz.ntmps230
 go_wp2
 go_loop [5,10] (fun sm ix=>∃k:Nat,k<=N1/\ix=.int .i64 k/\sm=.int .i64 (dot ws ls k)) (fun _ ix=>N1-(intOf ix).toNat)
 case atStart=>exact⟨0,Nat.zero_le _,rfl,rfl⟩
 case round =>
  obtain⟨k,hk,rfl,rfl⟩:=hrel;by_cases hlt:k<N1
  ·have x1:=h1.at_ k (by omega);obtain⟨b,off,rfl,x2⟩:=h2 k (by omega)
   have x3:w.cell? ⟨b,off+k,none⟩=some (.int .i64 (ls.getD k 0)):=by
    rw[x2,List.getD_eq_getElem?_getD,List.getElem?_eq_getElem (by omega)];rfl
   have q0:=hdr k;have q1:=hdr (k+1);have qw:=hw k;have ql:=hl k;have hp1:=Int.mul_nonneg qw.1 ql.1;have hp2:ws.getD k 0*ls.getD k 0<=M*15:=Int.mul_le_mul qw.2 ql.2 ql.1 hM.1;have HD:Hid (dot ws ls (k+1)=dot ws ls k+ws.getD k 0*ls.getD k 0):=rfl;have qb:15*M*(k:Int)<=15*M*320:=Int.mul_le_mul_of_nonneg_left (by omega) (by omega);have q2:dot ws ls k<=960000000:=by omega
   generalize ws.getD k 0=A at *;generalize ls.getD k 0=L at *;generalize hP:A*L=PR at *;have hdk:0<=dot ws ls k:=q0.1;generalize dot ws ls k=DK at *;clear q0 q1 x2 qb h1 h2;go_wp2
   go_round
   case rel=>exact⟨k+1,by omega,by go_num,by rw[HD.out]⟩
   case measure=>simp[intOf];omega
  ·go_wp2
   go_ret
   have:k=N1:=by omega
   subst this;exact⟨rfl,rfl⟩
abbrev oE (Sy Di ex:Nat):Value:=.agg #[.slice (some ⟨Sy,0,none⟩) 286 286,.slice (some ⟨Di,0,none⟩) 30 30,.int .i64 ex]
theorem Rn (ws us ls ds:List Int)(Sy Di ex:Nat)(N1 N2 p1 p2:Nat)(w:World)(a1 a2:Option Addr)(h1:aP w Sy ws)(h2:aP w Di us)(i1:Ints w a1 ls)(i2:Ints w a2 ds)(b1:∀a,a1=some a->ls≠[]->a.block<w.heap.size)(b2:∀a,a2=some a->ds≠[]->a.block<w.heap.size)(l1:ws.length=286)(l2:us.length=30)(l3:ls.length=N1)(l4:ds.length=N2)(g1:286<=N1)(g2:30<=N2)(hex:ex<=3000000)(M:Int)(hM:0<=M/\M<=200000)(hw:∀j,0<=ws.getD j 0/\ws.getD j 0<=M)(hu:∀j,0<=us.getD j 0/\us.getD j 0<=M)(hl:∀j,0<=ls.getD j 0/\ls.getD j 0<=15)(hd:∀j,0<=ds.getD j 0/\ds.getD j 0<=15): Calls Tryz.prog 214 #[oE Sy Di ex,.slice a1 N1 p1,.slice a2 N2 p2] w fun e w'=>e=.returned (.int .i64 ((ex:Int)+dot ws ls 286+dot us ds 30))/\Below w.heap.size w w':=by
 have k0:=ae w (.cells #[.slice (some ⟨Sy,0,none⟩) 286 286,.slice (some ⟨Di,0,none⟩) 30 30,.int .i64 ex] 220);have c1:=fun x=>vV ws ls Sy 286 N1 286 p1 ((w.alloc (.cells #[.slice (some ⟨Sy,0,none⟩) 286 286,.slice (some ⟨Di,0,none⟩) 30 30,.int .i64 ex] 220)).drewN x) a1 (show (w.alloc _).heap[Sy]?=_ from am h1 _) (i1.below (below_drewN k0 x) b1) l1 l3 g1 (by omega) M hM hw hl;have c2:=fun x=>vV us ds Di 30 N2 30 p2 ((w.alloc (.cells #[.slice (some ⟨Sy,0,none⟩) 286 286,.slice (some ⟨Di,0,none⟩) 30 30,.int .i64 ex] 220)).drewN x) a2 (show (w.alloc _).heap[Di]?=_ from am h2 _) (i2.below (below_drewN k0 x) b2) l2 l4 g2 (by omega) M hM hu hd;have r1:=nH ws ls M hM.1 hw hl 286;have r2:=nH us ds M hM.1 hu hd 30;have s1:dot ws ls 286<=900000000:=by omega
 have s2:dot us ds 30<=900000000:=by omega
 have s3:=r1.1;have s4:=r2.1;clear r1 r2;generalize dot ws ls 286=A at *;generalize dot us ds 30=B at *
 go_enter Tryz.func214,Tryz.ntmps214
 go_wp2
 go_quiet ((first|(go_at_call 230;with_reducible exact Calls.quiet_of_same (c1 _))|(go_at_call 230;with_reducible exact Calls.quiet_of_same (c2 _))))
 go_wp2
 go_ret
 exact⟨rfl,k0.trans (below_drewN (Below.refl _ _) _)⟩
theorem tB {u:World}{o:Obj}{k:Nat}(h:k=u.heap.size):(u.alloc o).heap[k]?=some o:=by subst h;exact ah u o
theorem Ei (N:Nat)(b:Bool):vals (eW N b [])=List.replicate N (.int .i64 0):=by
 rw[<-bC]
 congr 1
 apply List.ext_getElem
 ·simp[eW]
 ·intro j _ _;simp[eW]
theorem gJ (w:World)(a b c d:Obj):Below (w.heap.size+1) (w.alloc a) (((((w.alloc a).alloc b).alloc c).alloc d).drew):=by
 have h:=(((Below.refl (w.heap.size+1) (w.alloc a)).alloc (by simp) b).alloc (by simp) c).alloc (by simp) d;exact⟨h.os,h.tape,h.output,h.size,h.block⟩
theorem vW {w:World}{a b c d:Obj}{k:Nat}(h:k=w.heap.size+1):(((((w.alloc a).alloc b).alloc c).alloc d).drew).heap[k]?=some b:=am (am (tB (by simpa using h)) _) _
theorem vX {w:World}{a b c d:Obj}{k:Nat}(h:k=w.heap.size+1+1):(((((w.alloc a).alloc b).alloc c).alloc d).drew).heap[k]?=some c:=am (tB (by simpa using h)) _
theorem vY {w:World}{a b c d:Obj}{k:Nat}(h:k=w.heap.size+1+1+1):(((((w.alloc a).alloc b).alloc c).alloc d).drew).heap[k]?=some d:=tB (u:=((w.alloc a).alloc b).alloc c) (by simpa using h)
theorem Cq (Tb Sy Di:Nat)(ao:Option Addr)(cap:Nat)(s:ByteArray)(steps:List (Nat×Nat))(w u:World)(b0:Nat)(Z Y:List Value)(hZ:Z=vals (eW 286 false []))(hY:Y=vals (eW 30 true []))(hb:u.heap[Tb]?=some (.cells #[.slice (some ⟨Sy,0,none⟩) 286 286,.slice (some ⟨Di,0,none⟩) 30 30,.int .i64 0] 220 (0,0)))(hs1:u.heap[Sy]?=some (.cells Z.toArray 3 (0,0)))(hd1:u.heap[Di]?=some (.cells Y.toArray 3 (0,0)))(hbe:Below b0 w u)(hb0:b0=w.heap.size)(hne:Sy≠Di/\Sy≠Tb/\Di≠Tb/\b0<=Sy/\b0<=Di/\b0<=Tb)(hst:Steps w (.slice ao steps.length cap) steps w.heap.size)(hs:s.size<=65535)(hok:dm s.size 0 steps)(hsv:∀SB cap',Value.slice ao steps.length cap=.slice (some ⟨SB,0,none⟩) steps.length cap'->SB<w.heap.size): Calls Tryz.prog 211 #[.string s,.slice ao steps.length cap,.agg #[.func (.func 212) #[] #[.pointer (some ⟨Tb,0,none⟩)],.func (.func 213) #[] #[.pointer (some ⟨Tb,0,none⟩)]]] u fun e u'=>e=.returned (.tuple #[])/\jM Tb Sy Di (.slice ao steps.length cap) steps b0 w u' (aq s.data.toList 0 steps):=by
 subst hb0
 have hst':Steps u (.slice ao steps.length cap) steps Tb:=⟨hst.1,fun hn=>by
  obtain⟨SB,cp,h1,h2,h3⟩:=hst.2 hn
  exact⟨SB,cp,h1,by have:=hsv SB cp h1;omega,h3.kept (hbe.block _ h3.lt)⟩⟩
 have h0:jM Tb Sy Di (.slice ao steps.length cap) steps w.heap.size w u []:=⟨hb,by rw[hZ]at hs1;exact hs1,by rw[hY]at hd1;exact hd1,hbe,hst',hne,Nat.zero_le _⟩
 refine (zV _ _ _ _ _ ao cap s steps _ u (Ge Tb Sy Di ao cap steps _ _ w u h0 rfl hsv) ⟨h0,Nat.le_refl _⟩ hs hok).mono ?_;rintro e u' ⟨rfl,h⟩;exact⟨rfl,h.1⟩
abbrev Nc (w:World)(T:Nat)(a b c:Value):World:=((w.setCell ⟨T,0,none⟩ a).setCell ⟨T,1,none⟩ b).setCell ⟨T,2,none⟩ c
theorem Nd (w:World)(T:Nat)(a b c:Value):Kp (·=T) w (Nc w T a b c) :=
 (((Kp.refl (·=T) w).setCell (p:=⟨T,0,none⟩) (.inl rfl) a).setCell (p:=⟨T,1,none⟩) (.inl rfl) b).setCell (p:=⟨T,2,none⟩) (.inl rfl) c
theorem Gf {Tb Sy Di:Nat}{sv:Value}{steps:List (Nat×Nat)}{w w1:World}{o:Obj}{ts:List Tok}(h:jM Tb Sy Di sv steps (w.heap.size+1) (w.alloc o) w1 ts)(a b c:Value): aP (Nc w1 w.heap.size a b c) Sy (eW 286 false ts)/\aP (Nc w1 w.heap.size a b c) Di (eW 30 true ts)/\Below w.heap.size w (Nc w1 w.heap.size a b c)/\w.heap.size<=Sy/\w.heap.size<=Di:=by
 have K:=Nd w1 w.heap.size a b c;obtain⟨n1,n2,n3,n4,n5,n6⟩:=h.ne;have hs:=h.be.size;rw[World.size_alloc]at hs;refine⟨(K.block Sy (lt_of_block h.sy) (by omega)).trans h.sy,(K.block Di (lt_of_block h.di) (by omega)).trans h.di,?_,by omega,by omega⟩;exact ((ae w o).trans (h.be.mono (by omega))).trans (K.below (by omega) (fun k _ hk=>by omega))
theorem vZ (ao:Option Addr)(cap:Nat)(s:ByteArray)(steps:List (Nat×Nat))(w:World)(hst:Steps w (.slice ao steps.length cap) steps w.heap.size)(hs:s.size<=65535)(hok:dm s.size 0 steps)(hsv:∀SB cap',Value.slice ao steps.length cap=.slice (some ⟨SB,0,none⟩) steps.length cap'->SB<w.heap.size): Calls Tryz.prog 183 #[.string s,.slice ao steps.length cap] w fun e w'=>∃Sy Di,e=.returned (oE Sy Di (aU (aq s.data.toList 0 steps)))/\aP w' Sy (eW 286 false (aq s.data.toList 0 steps))/\aP w' Di (eW 30 true (aq s.data.toList 0 steps))/\Below w.heap.size w w'/\w.heap.size<=Sy/\w.heap.size<=Di:=by
 obtain⟨Z,hZ⟩:∃Z:List Value,Z=List.replicate 286 (.int .i64 0):=⟨_,rfl⟩
 obtain⟨Y,hY⟩:∃Y:List Value,Y=List.replicate 30 (.int .i64 0):=⟨_,rfl⟩
 have hmk:∀u:World,(Instr.makeSlice 24 (.int .i64 286) (.int .i64 286)).run Tryz.prog u=.ok (.slice (some ⟨u.heap.size,0,none⟩) 286 286) (u.alloc (.cells Z.toArray 3)):=fun u=>mA 286 (by omega) Z hZ u;have afx:∀u:World,(Instr.makeSlice 24 (.int .i64 30) (.int .i64 30)).run Tryz.prog u=.ok (.slice (some ⟨u.heap.size,0,none⟩) 30 30) (u.alloc (.cells Y.toArray 3)):=fun u=>mA 30 (by omega) Y hY u;have HZ:Hid (Z=vals (eW 286 false [])):=by show _=_;rw[hZ,Ei]
 have HY:Hid (Y=vals (eW 30 true [])):=by show _=_;rw[hY,Ei]
 clear hZ hY
 have pD:Steps (w.alloc (.cells #[.slice none 0 0,.slice none 0 0,.int .i64 0] 220)) (.slice ao steps.length cap) steps (w.alloc (.cells #[.slice none 0 0,.slice none 0 0,.int .i64 0] 220)).heap.size:=⟨hst.1,fun hn=>by
  obtain⟨SB,cp,h1,h2,h3⟩:=hst.2 hn
  exact⟨SB,cp,h1,by have:=hsv SB cp h1;simp;omega,h3.kept (Below.heap_alloc _ _ _ h3.lt)⟩⟩
 have HC:=fun (Tb Sy Di:Nat) (u:World) hb hs1 hd1 hbe hne=>Cq Tb Sy Di ao cap s steps (w.alloc (.cells #[.slice none 0 0,.slice none 0 0,.int .i64 0] 220)) u (w.heap.size+1) Z Y HZ.out HY.out hb hs1 hd1 hbe (by simp) hne pD hs hok (fun SB c' e=>by have:=hsv SB c' e;simp;omega);clear pD;have TP:Hid (∀(Tb Sy Di:Nat) (u:World),_):=HC;clear HC HZ HY
 go_enter Tryz.func183,Tryz.ntmps183
 go_wp2
 go_region
 all_goals
  go_wp2_with fail
  first
   | with_reducible refine (TP.out (w.heap.size+1) (w.heap.size+1+1) (w.heap.size+1+1+1) _ (vW rfl) (vX rfl) (vY rfl) (gJ w _ _ _ _) (by omega)).mono ?_
   | with_reducible refine (TP.out (w.heap.size+1) (w.heap.size+1+1+1) (w.heap.size+1+1) _ (vW rfl) (vY rfl) (vX rfl) (gJ w _ _ _ _) (by omega)).mono ?_
   | with_reducible refine (TP.out (w.heap.size+1+1) (w.heap.size+1) (w.heap.size+1+1+1) _ (vX rfl) (vW rfl) (vY rfl) (gJ w _ _ _ _) (by omega)).mono ?_
   | with_reducible refine (TP.out (w.heap.size+1+1) (w.heap.size+1+1+1) (w.heap.size+1) _ (vX rfl) (vY rfl) (vW rfl) (gJ w _ _ _ _) (by omega)).mono ?_
   | with_reducible refine (TP.out (w.heap.size+1+1+1) (w.heap.size+1) (w.heap.size+1+1) _ (vY rfl) (vW rfl) (vX rfl) (gJ w _ _ _ _) (by omega)).mono ?_
   | with_reducible refine (TP.out (w.heap.size+1+1+1) (w.heap.size+1+1) (w.heap.size+1) _ (vY rfl) (vX rfl) (vW rfl) (gJ w _ _ _ _) (by omega)).mono ?_
  rintro e w1 ⟨rfl,h1⟩;obtain⟨c0,c1,c2,fz,hlt⟩:=cells3 h1.box;have hr:w1.heap[w.heap.size]?=some (.cells #[.slice none 0 0,.slice none 0 0,.int .i64 0] 220 (0,0)):=(h1.be.block _ (by omega)).trans (ah w _);obtain⟨d0,d1,d2,fd,afy⟩:=cells3 hr;have HH:Hid (jM _ _ _ _ _ _ _ _ _):=h1;clear h1 hr;go_wp2;refine bodyPost_ret (v:=oE _ _ (aU (aq s.data.toList 0 steps))) ?_ rfl ⟨_,_,rfl,Gf HH.out _ _ _⟩;simp[results,Tryz.results183,go_sem,d0,d1,d2]
end Go.Proofs.YtmfijackgekioaaGreatDoor
