import Derived.Test.YtmfijackgekioaaGreatDoorQ15
set_option maxHeartbeats 1000000
set_option maxRecDepth 100000
namespace Go.Proofs.YtmfijackgekioaaGreatDoor
open Go.RowKit
def Merged (T n a b:Nat)(f:Nat->Mb×Nat)(w w':World):Prop:=∃g,aV w' T n g/\Rf.gj n g f/\Rf.In f g a b/\Rf.dS Mb.w g a b/\Kp (·=T) w w'
theorem zX (kc:Nat)(hc:gv kc)(T n cap a b:Nat)(f:Nat->Mb×Nat)(w:World)(h:aV w T n f)(hab:a+1<b)(hb:b<=n)(hn:n<=1000000)(hs:Rf.dS Mb.w f (a+1) b)(hlo:Rf.Lo f a (a+1) b): Calls Tryz.prog 261 #[.slice (some ⟨T,0,none⟩) n cap,.int .i64 a,.int .i64 ((a:Int)+1),.int .i64 b,.func (.func kc) #[] #[]] w fun e w'=>e=.returned (.tuple #[])/\Merged T n a b f w w':=by
 have hcall:=hc.call;have e0:((a:Int)+1-(a:Int)==1)=true:=by simp;omega
 have Ye:(a:Int)+1-(a:Int)=1:=by omega
 go_enter Tryz.func261,Tryz.ntmps261
 go_wp2
 go_loopw [10,11] (fun iv jv wr=>∃i j:Nat,a<i/\i<=j/\j<=b/\iv=.int .i64 i/\jv=.int .i64 j/\Hid (∀h,a+1<=h->h<i->(f h).1.w<(f a).1.w)/\Hid (∀h,j<=h->h<b->(f a).1.w<=(f h).1.w)/\Hid (aV wr T n f)/\Kp (·=T) w wr) (fun iv jv _=>(intOf jv).toNat-(intOf iv).toNat)
 case atStart=>exact⟨a+1,b,by omega,by omega,Nat.le_refl _,by go_num,rfl,fun h h1 h2=>by omega,fun h h1 h2=>by omega,h,Kp.refl _ _⟩
 case round =>
  clear h;obtain⟨i,j,hai,hij,hjb,rfl,rfl,H1,H2,HR,hk⟩:=hrel;by_cases hlt:i<j
  ·obtain⟨c,hcm⟩:∃c:Nat,c=(i+j)/2:=⟨_,rfl⟩
   have hc1:i<=c:=by omega
   have hc2:c<j:=by omega
   obtain⟨q,hq⟩:∃q:Nat,(i:Int)+(j:Int)=(q:Int):=⟨i+j,by omega⟩
   have hq2:(q:Int)<=2000000:=by omega
   have ec:(q:Int)/2=(c:Int):=by omega
   have hcn:(c:Int)<(n:Int):=by omega
   have han:(a:Int)<(n:Int):=by omega
   have hmono:∀h,a+1<=h->h<=c->(f h).1.w<=(f c).1.w:=fun h h1 h2=>by
    by_cases e:h=c
    ·rw[e];exact Int.le_refl _
    ·have:=hs h c h1 (by omega) (by omega);unfold Rf.lx at this;omega
   have tC:∀h,c<=h->h<b->(f c).1.w<=(f h).1.w:=fun h h1 h2=>by
    by_cases e:h=c
    ·rw[e];exact Int.le_refl _
    ·have:=hs c h (by omega) (by omega) h2;unfold Rf.lx at this;omega
   have HM:Hid (_/\_):=⟨hmono,tC⟩
   clear hcm hmono tC;by_cases hlt2:(f c).1.w<(f a).1.w
   ·have hc3:decide (fa (f c).1.w (f a).1.w<0)=true:=by simp;exact (gq _ _).2 hlt2
    have H3:Hid (∀h,a+1<=h->h<c+1->(f h).1.w<(f a).1.w):=fun h h1 h2=>by have:=HM.out.1 h h1 (by omega);omega
    have hc4:fa (f c).1.w (f a).1.w<0:=(gq _ _).2 hlt2;have x1:=HR.out.cell (c) (by omega);have x2:=HR.out.cell (a) (by omega);have aY:=HR.out.lt;obtain⟨x10,fW⟩:=x1;obtain⟨x20,gI⟩:=x2;have HC:=fun u=>hc.cmp u (f c).1 (f a).1;have nI:=hc4;generalize hX:(f c).1=X at x10 fW HC nI;generalize hY:(f a).1=Y at x20 gI HC nI;have HX:Hid ((f c).1=X/\(f a).1=Y):=⟨hX,hY⟩
    obtain⟨xw,xa,xn,xc,xs⟩:=X;obtain⟨yw,ya,yn,yc,ys⟩:=Y;simp only at x10 fW x20 gI HC nI;clear hc3 hc4;clear hX hY;go_wp2;have hS:wr.drew.cell? ⟨T,(c)*2,none⟩=some (.int .i64 xw)/\wr.drew.cell? ⟨T,(c)*2+1,none⟩=some (.slice xa xn xc)/\wr.drew.cell? ⟨T,(a)*2,none⟩=some (.int .i64 yw)/\wr.drew.cell? ⟨T,(a)*2+1,none⟩=some (.slice ya yn yc):=⟨x10,fW,x20,gI⟩
    refine ax (by kernel_rfl) (fun w'=>w'.cell? ⟨T,(c)*2,none⟩=some (.int .i64 xw)/\w'.cell? ⟨T,(c)*2+1,none⟩=some (.slice xa xn xc)/\w'.cell? ⟨T,(a)*2,none⟩=some (.int .i64 yw)/\w'.cell? ⟨T,(a)*2+1,none⟩=some (.slice ya yn yc)) 999 ?_;refine ap [0,1,2,3,4,5,6,7,8] ?_
    iterate 9 (refine ar (v:=?_) rfl (by kernel_rfl) (fun _ _ _ h=>h) ?_ hS ?_;rotate_left;(·intro w hSw;(try dsimp only at hSw);go_simp;try with_reducible rfl);try simp only[Act.put])
    refine ai ?_;refine af (i:=9) (by kernel_rfl) rfl (fun K hK=>?_);go_simp;refine (HC _).mono ?_;rintro e w1 ⟨rfl,hb1⟩;obtain⟨bc,bf⟩:=jY hb1;have hS1:=hS;rw[<-bc T _ aY,<-bc T _ aY,<-bc T _ aY,<-bc T _ aY]at hS1;have HR1:aV w1 T n (f):=aV.below (w:=wr.drew) (HR.out.kept rfl) hb1;have hk1:Kp (·=T) w w1:=hk.drew.trans (Kp.aG hb1);have hlt1:=HR1.lt;refine hK _ _ (fun _=>hS1) ?_;clear hK K;refine af (i:=10) (by kernel_rfl) rfl (fun K hK=>?_);go_simp;refine hK _ _ (fun _=>hS1) ?_;clear hK K;refine ak (by kernel_rfl) ?_ _;clear bc bf hb1 hS x10 fW x20 gI aY HC hS1;go_wp2
    go_roundw
    case rel=>exact⟨c+1,j,by omega,by omega,hjb,by go_num,rfl,(by have q:=H3;rw[HX.out.2]at q;exact q),(by have q:=H2;rw[HX.out.2]at q;exact q),HR1,hk1⟩
    case measure=>simp[intOf];omega
   ·have H3:Hid (∀h,c<=h->h<b->(f a).1.w<=(f h).1.w):=fun h h1 h2=>by have:=HM.out.2 h h1 h2;omega
    have hc4:¬fa (f c).1.w (f a).1.w<0:=fun hh=>hlt2 ((gq _ _).1 hh);have x1:=HR.out.cell (c) (by omega);have x2:=HR.out.cell (a) (by omega);have aY:=HR.out.lt;obtain⟨x10,fW⟩:=x1;obtain⟨x20,gI⟩:=x2;have HC:=fun u=>hc.cmp u (f c).1 (f a).1;have nI:=hc4;generalize hX:(f c).1=X at x10 fW HC nI;generalize hY:(f a).1=Y at x20 gI HC nI;have HX:Hid ((f c).1=X/\(f a).1=Y):=⟨hX,hY⟩
    obtain⟨xw,xa,xn,xc,xs⟩:=X;obtain⟨yw,ya,yn,yc,ys⟩:=Y;simp only at x10 fW x20 gI HC nI;clear hc4;clear hX hY;go_wp2;have hS:wr.drew.cell? ⟨T,(c)*2,none⟩=some (.int .i64 xw)/\wr.drew.cell? ⟨T,(c)*2+1,none⟩=some (.slice xa xn xc)/\wr.drew.cell? ⟨T,(a)*2,none⟩=some (.int .i64 yw)/\wr.drew.cell? ⟨T,(a)*2+1,none⟩=some (.slice ya yn yc):=⟨x10,fW,x20,gI⟩
    refine ax (by kernel_rfl) (fun w'=>w'.cell? ⟨T,(c)*2,none⟩=some (.int .i64 xw)/\w'.cell? ⟨T,(c)*2+1,none⟩=some (.slice xa xn xc)/\w'.cell? ⟨T,(a)*2,none⟩=some (.int .i64 yw)/\w'.cell? ⟨T,(a)*2+1,none⟩=some (.slice ya yn yc)) 999 ?_;refine ap [0,1,2,3,4,5,6,7,8] ?_
    iterate 9 (refine ar (v:=?_) rfl (by kernel_rfl) (fun _ _ _ h=>h) ?_ hS ?_;rotate_left;(·intro w hSw;(try dsimp only at hSw);go_simp;try with_reducible rfl);try simp only[Act.put])
    refine ai ?_;refine af (i:=9) (by kernel_rfl) rfl (fun K hK=>?_);go_simp;refine (HC _).mono ?_;rintro e w1 ⟨rfl,hb1⟩;obtain⟨bc,bf⟩:=jY hb1;have hS1:=hS;rw[<-bc T _ aY,<-bc T _ aY,<-bc T _ aY,<-bc T _ aY]at hS1;have HR1:aV w1 T n (f):=aV.below (w:=wr.drew) (HR.out.kept rfl) hb1;have hk1:Kp (·=T) w w1:=hk.drew.trans (Kp.aG hb1);have hlt1:=HR1.lt;refine hK _ _ (fun _=>hS1) ?_;clear hK K;refine af (i:=10) (by kernel_rfl) rfl (fun K hK=>?_);go_simp;refine hK _ _ (fun _=>hS1) ?_;clear hK K;refine ak (by kernel_rfl) ?_ _;clear bc bf hb1 hS x10 fW x20 gI aY HC hS1;go_wp2
    go_roundw
    case rel=>exact⟨i,c,hai,hc1,by omega,rfl,rfl,(by have q:=H1;rw[HX.out.2]at q;exact q),(by have q:=H3;rw[HX.out.2]at q;exact q),HR1,hk1⟩
    case measure=>simp[intOf];omega
  ·have e:i=j:=by omega
   subst e;have HF:Hid (Rf.dS Mb.w (Rf.mv f a (i-1)) a b):=Rf.FX hai hjb hs hlo H1.out H2.out;have tA:Hid (Rf.In f (Rf.mv f a (i-1)) a b):=Rf.U2 f (by omega) (by omega);clear H1 H2;go_wp2
   rename World=>wB
   go_loopw [13] (fun kv wq=>∃k:Nat,a<=k/\k<i/\kv=.int .i64 k/\Hid (aV wq T n (Rf.mv f a k))/\Hid (Rf.gj n (Rf.mv f a k) f)/\Kp (·=T) w wq) (fun kv _=>i-(intOf kv).toNat)
   case atStart=>exact⟨a,Nat.le_refl _,hai,rfl,by rw[Rf.Ec];exact HR.out,by rw[Rf.Ec];exact Rf.gj.refl _ _,hk⟩
   case round =>
    clear HR hk;obtain⟨k,hak,hki,rfl,HR,HP,hk⟩:=hrel;have ei:(i:Int)-1=((i-1:Nat):Int):=by omega
    by_cases hlt3:k<i-1
    ·have x1:=HR.out.cell k (by omega);have x2:=HR.out.cell (k+1) (by omega);have fz:=fun j=>HR.out.frozen j;have aY:=HR.out.lt;have S1:=HR.out.swap (i:=k) (j:=k+1) (by omega) (by omega) (by omega);rw[Rf.Ed f hak]at S1
     have P1:Rf.gj n (Rf.mv f a (k+1)) f:=by
      rw[<-Rf.Ed f hak];exact (Rf.gj.sw n _ (by omega) (by omega)).trans HP.out
     generalize (Rf.mv f a k k).1=X at *;generalize (Rf.mv f a k (k+1)).1=Y at *;obtain⟨xw,xa,xn,xc,xs⟩:=X;obtain⟨yw,ya,yn,yc,ys⟩:=Y;obtain⟨x10,fW⟩:=x1;obtain⟨x20,gI⟩:=x2;simp only at x10 fW x20 gI S1;have e1:((k:Int)+1).toNat=k+1:=by omega
     have K1:=hk.trans (sq wr T k (k+1) (.int .i64 yw) (.slice ya yn yc) (.int .i64 xw) (.slice xa xn xc));have HS:Hid (_/\_/\_):=⟨S1,P1,K1⟩
     clear S1 P1 K1 HP HR hk;go_wp2
     go_region
     go_wp2
     go_roundw
     case rel=>exact⟨k+1,by omega,by omega,by go_num,HS.out.1.kept rfl,HS.out.2.1,HS.out.2.2.drew⟩
     case measure=>simp[intOf];omega
    ·have e2:k=i-1:=by omega
     subst e2;go_wp2
     (try simp only[Exit.inBlock,Exit.then])
     exact bodyPost_ret (results_none rfl _ _ _) rfl ⟨rfl,_,HR.out,HP.out,tA.out,HF.out,hk⟩
theorem Cr (kc:Nat)(hc:gv kc)(T n cap a m:Nat)(f:Nat->Mb×Nat)(w:World)(h:aV w T n f)(hab:a+1<m)(hb:m+1<=n)(hn:n<=1000000)(hs:Rf.dS Mb.w f a m)(hlo:∀k,a<=k->k<m->(f k).2<(f m).2): Calls Tryz.prog 261 #[.slice (some ⟨T,0,none⟩) n cap,.int .i64 a,.int .i64 m,.int .i64 ((m:Int)+1),.func (.func kc) #[] #[]] w fun e w'=>e=.returned (.tuple #[])/\Merged T n a (m+1) f w w':=by
 have hcall:=hc.call;have e0:((m:Int)-(a:Int)==1)=false:=by simp;omega
 have Ye:¬(m:Int)-(a:Int)=1:=by omega
 have e1:((m:Int)+1-(m:Int)==1)=true:=by simp;omega
 have Yf:(m:Int)+1-(m:Int)=1:=by omega
 go_enter Tryz.func261,Tryz.ntmps261
 go_wp2
 go_loopw [14,15] (fun iv jv wr=>∃i j:Nat,a<=i/\i<=j/\j<=m/\iv=.int .i64 i/\jv=.int .i64 j/\Hid (∀h,a<=h->h<i->(f h).1.w<=(f m).1.w)/\Hid (∀h,j<=h->h<m->(f m).1.w<(f h).1.w)/\Hid (aV wr T n f)/\Kp (·=T) w wr) (fun iv jv _=>(intOf jv).toNat-(intOf iv).toNat)
 case atStart=>exact⟨a,m,Nat.le_refl _,by omega,Nat.le_refl _,rfl,rfl,fun h h1 h2=>by omega,fun h h1 h2=>by omega,h,Kp.refl _ _⟩
 case round =>
  clear h;obtain⟨i,j,hai,hij,hjb,rfl,rfl,H1,H2,HR,hk⟩:=hrel;by_cases hlt:i<j
  ·obtain⟨c,hcm⟩:∃c:Nat,c=(i+j)/2:=⟨_,rfl⟩
   have hc1:i<=c:=by omega
   have hc2:c<j:=by omega
   obtain⟨q,hq⟩:∃q:Nat,(i:Int)+(j:Int)=(q:Int):=⟨i+j,by omega⟩
   have hq2:(q:Int)<=2000000:=by omega
   have ec:(q:Int)/2=(c:Int):=by omega
   have hcn:(c:Int)<(n:Int):=by omega
   have han:(m:Int)<(n:Int):=by omega
   have hmono:∀h,a<=h->h<=c->(f h).1.w<=(f c).1.w:=fun h h1 h2=>by
    by_cases e:h=c
    ·rw[e];exact Int.le_refl _
    ·have:=hs h c h1 (by omega) (by omega);unfold Rf.lx at this;omega
   have tC:∀h,c<=h->h<m->(f c).1.w<=(f h).1.w:=fun h h1 h2=>by
    by_cases e:h=c
    ·rw[e];exact Int.le_refl _
    ·have:=hs c h (by omega) (by omega) h2;unfold Rf.lx at this;omega
   have HM:Hid (_/\_):=⟨hmono,tC⟩
   clear hcm hmono tC;by_cases hlt2:(f m).1.w<(f c).1.w
   ·have H3:Hid (∀h,c<=h->h<m->(f m).1.w<(f h).1.w):=fun h h1 h2=>by have:=HM.out.2 h h1 h2;omega
    have hc4:fa (f m).1.w (f c).1.w<0:=(gq _ _).2 hlt2;have x1:=HR.out.cell (m) (by omega);have x2:=HR.out.cell (c) (by omega);have aY:=HR.out.lt;obtain⟨x10,fW⟩:=x1;obtain⟨x20,gI⟩:=x2;have HC:=fun u=>hc.cmp u (f m).1 (f c).1;have nI:=hc4;generalize hX:(f m).1=X at x10 fW HC nI;generalize hY:(f c).1=Y at x20 gI HC nI;have HX:Hid ((f m).1=X/\(f c).1=Y):=⟨hX,hY⟩
    obtain⟨xw,xa,xn,xc,xs⟩:=X;obtain⟨yw,ya,yn,yc,ys⟩:=Y;simp only at x10 fW x20 gI HC nI;clear hc4;clear hX hY;go_wp2;have hS:wr.drew.cell? ⟨T,(m)*2,none⟩=some (.int .i64 xw)/\wr.drew.cell? ⟨T,(m)*2+1,none⟩=some (.slice xa xn xc)/\wr.drew.cell? ⟨T,(c)*2,none⟩=some (.int .i64 yw)/\wr.drew.cell? ⟨T,(c)*2+1,none⟩=some (.slice ya yn yc):=⟨x10,fW,x20,gI⟩
    refine ax (by kernel_rfl) (fun w'=>w'.cell? ⟨T,(m)*2,none⟩=some (.int .i64 xw)/\w'.cell? ⟨T,(m)*2+1,none⟩=some (.slice xa xn xc)/\w'.cell? ⟨T,(c)*2,none⟩=some (.int .i64 yw)/\w'.cell? ⟨T,(c)*2+1,none⟩=some (.slice ya yn yc)) 999 ?_;refine ap [0,1,2,3,4,5,6,7,8] ?_
    iterate 9 (refine ar (v:=?_) rfl (by kernel_rfl) (fun _ _ _ h=>h) ?_ hS ?_;rotate_left;(·intro w hSw;(try dsimp only at hSw);go_simp;try with_reducible rfl);try simp only[Act.put])
    refine ai ?_;refine af (i:=9) (by kernel_rfl) rfl (fun K hK=>?_);go_simp;refine (HC _).mono ?_;rintro e w1 ⟨rfl,hb1⟩;obtain⟨bc,bf⟩:=jY hb1;have hS1:=hS;rw[<-bc T _ aY,<-bc T _ aY,<-bc T _ aY,<-bc T _ aY]at hS1;have HR1:aV w1 T n (f):=aV.below (w:=wr.drew) (HR.out.kept rfl) hb1;have hk1:Kp (·=T) w w1:=hk.drew.trans (Kp.aG hb1);have hlt1:=HR1.lt;refine hK _ _ (fun _=>hS1) ?_;clear hK K;refine af (i:=10) (by kernel_rfl) rfl (fun K hK=>?_);go_simp;refine hK _ _ (fun _=>hS1) ?_;clear hK K;refine af (i:=11) (by kernel_rfl) rfl (fun K hK=>?_);go_simp;refine hK _ _ (fun _=>hS1) ?_;clear hK K;refine ak (by kernel_rfl) ?_ _;clear bc bf hb1 hS x10 fW x20 gI aY HC hS1;go_wp2
    go_roundw
    case rel=>exact⟨i,c,hai,hc1,by omega,rfl,rfl,(by have q:=H1;rw[HX.out.1]at q;exact q),(by have q:=H3;rw[HX.out.1]at q;exact q),HR1,hk1⟩
    case measure=>simp[intOf];omega
   ·have H3:Hid (∀h,a<=h->h<c+1->(f h).1.w<=(f m).1.w):=fun h h1 h2=>by have:=HM.out.1 h h1 (by omega);omega
    have hc4:¬fa (f m).1.w (f c).1.w<0:=fun hh=>hlt2 ((gq _ _).1 hh);have x1:=HR.out.cell (m) (by omega);have x2:=HR.out.cell (c) (by omega);have aY:=HR.out.lt;obtain⟨x10,fW⟩:=x1;obtain⟨x20,gI⟩:=x2;have HC:=fun u=>hc.cmp u (f m).1 (f c).1;have nI:=hc4;generalize hX:(f m).1=X at x10 fW HC nI;generalize hY:(f c).1=Y at x20 gI HC nI;have HX:Hid ((f m).1=X/\(f c).1=Y):=⟨hX,hY⟩
    obtain⟨xw,xa,xn,xc,xs⟩:=X;obtain⟨yw,ya,yn,yc,ys⟩:=Y;simp only at x10 fW x20 gI HC nI;clear hc4;have hc6:decide (fa xw yw<0)=false:=by simpa using nI
    have hc7:(0:Int)<=fa xw yw:=by omega
    clear hX hY;go_wp2;have hS:wr.drew.cell? ⟨T,(m)*2,none⟩=some (.int .i64 xw)/\wr.drew.cell? ⟨T,(m)*2+1,none⟩=some (.slice xa xn xc)/\wr.drew.cell? ⟨T,(c)*2,none⟩=some (.int .i64 yw)/\wr.drew.cell? ⟨T,(c)*2+1,none⟩=some (.slice ya yn yc):=⟨x10,fW,x20,gI⟩
    refine ax (by kernel_rfl) (fun w'=>w'.cell? ⟨T,(m)*2,none⟩=some (.int .i64 xw)/\w'.cell? ⟨T,(m)*2+1,none⟩=some (.slice xa xn xc)/\w'.cell? ⟨T,(c)*2,none⟩=some (.int .i64 yw)/\w'.cell? ⟨T,(c)*2+1,none⟩=some (.slice ya yn yc)) 999 ?_;refine ap [0,1,2,3,4,5,6,7,8] ?_
    iterate 9 (refine ar (v:=?_) rfl (by kernel_rfl) (fun _ _ _ h=>h) ?_ hS ?_;rotate_left;(·intro w hSw;(try dsimp only at hSw);go_simp;try with_reducible rfl);try simp only[Act.put])
    refine ai ?_;refine af (i:=9) (by kernel_rfl) rfl (fun K hK=>?_);go_simp;refine (HC _).mono ?_;rintro e w1 ⟨rfl,hb1⟩;obtain⟨bc,bf⟩:=jY hb1;have hS1:=hS;rw[<-bc T _ aY,<-bc T _ aY,<-bc T _ aY,<-bc T _ aY]at hS1;have HR1:aV w1 T n (f):=aV.below (w:=wr.drew) (HR.out.kept rfl) hb1;have hk1:Kp (·=T) w w1:=hk.drew.trans (Kp.aG hb1);have hlt1:=HR1.lt;refine hK _ _ (fun _=>hS1) ?_;clear hK K;refine af (i:=10) (by kernel_rfl) rfl (fun K hK=>?_);go_simp;refine hK _ _ (fun _=>hS1) ?_;clear hK K;refine af (i:=11) (by kernel_rfl) rfl (fun K hK=>?_);go_simp;refine hK _ _ (fun _=>hS1) ?_;clear hK K;refine ak (by kernel_rfl) ?_ _;clear bc bf hb1 hS x10 fW x20 gI aY HC hS1;go_wp2
    go_roundw
    case rel=>exact⟨c+1,j,by omega,by omega,hjb,by go_num,rfl,(by have q:=H3;rw[HX.out.1]at q;exact q),(by have q:=H2;rw[HX.out.1]at q;exact q),HR1,hk1⟩
    case measure=>simp[intOf];omega
  ·have e:i=j:=by omega
   subst e;have HF:Hid (Rf.dS Mb.w (Rf.ins f i m) a (m+1)):=Rf.tr hai hjb hs hlo H1.out H2.out;have tA:Hid (Rf.In f (Rf.ins f i m) a (m+1)):=Rf.Cj f hai hjb (Nat.lt_succ_self _);clear H1 H2;go_wp2
   rename World=>wB
   go_loopw [17] (fun kv wq=>∃k:Nat,i<=k/\k<=m/\kv=.int .i64 k/\Hid (aV wq T n (Rf.ins f k m))/\Hid (Rf.gj n (Rf.ins f k m) f)/\Kp (·=T) w wq) (fun kv _=>(intOf kv).toNat)
   case atStart=>exact⟨m,hjb,Nat.le_refl _,rfl,by rw[Rf.px];exact HR.out,by rw[Rf.px];exact Rf.gj.refl _ _,hk⟩
   case round =>
    clear HR hk;obtain⟨k,hak,hki,rfl,HR,HP,hk⟩:=hrel;by_cases hlt3:i<k
    ·have x1:=HR.out.cell k (by omega);have x2:=HR.out.cell (k-1) (by omega);have fz:=fun j=>HR.out.frozen j;have aY:=HR.out.lt;have S1:=HR.out.swap (i:=k) (j:=k-1) (by omega) (by omega) (by omega);rw[Rf.py f (by omega) hki]at S1
     have P1:Rf.gj n (Rf.ins f (k-1) m) f:=by
      rw[<-Rf.py f (by omega) hki];exact (Rf.gj.sw n _ (by omega) (by omega)).trans HP.out
     generalize (Rf.ins f k m k).1=X at *;generalize (Rf.ins f k m (k-1)).1=Y at *;obtain⟨xw,xa,xn,xc,xs⟩:=X;obtain⟨yw,ya,yn,yc,ys⟩:=Y;obtain⟨x10,fW⟩:=x1;obtain⟨x20,gI⟩:=x2;simp only at x10 fW x20 gI S1;have ek:(k:Int)-1=((k-1:Nat):Int):=by omega
     have hwp:IntKind.i64.wrap ((k:Int)-1)=((k-1:Nat):Int):=by rw[IntWalk.i64_in _ (by omega)];omega
     have hkn:((k-1:Nat):Int)<(n:Int):=by omega
     have K1:=hk.trans (sq wr T k (k-1) (.int .i64 yw) (.slice ya yn yc) (.int .i64 xw) (.slice xa xn xc));have HS:Hid (_/\_/\_):=⟨S1,P1,K1⟩
     clear S1 P1 K1 HP HR hk;go_wp2
     go_region
     go_wp2
     go_roundw
     case rel=>exact⟨k-1,by omega,by omega,by go_num,HS.out.1.kept rfl,HS.out.2.1,HS.out.2.2.drew⟩
     case measure=>simp[intOf];omega
    ·have e2:k=i:=by omega
     subst e2;go_wp2
     (try simp only[Exit.inBlock,Exit.then])
     exact bodyPost_ret (results_none rfl _ _ _) rfl ⟨rfl,_,HR.out,HP.out,tA.out,HF.out,hk⟩
theorem dS.congr {f g:Nat->Mb×Nat}{a b:Nat}(h:Rf.dS Mb.w f a b)(e:∀k,a<=k->k<b->g k=f k):Rf.dS Mb.w g a b:=fun i j h1 h2 h3=>by
 rw[e i h1 (by omega),e j (by omega) h3];exact h i j h1 h2 h3
theorem Lo.congr {f g:Nat->Mb×Nat}{a m b:Nat}(h:Rf.Lo f a m b)(e:∀k,a<=k->k<b->g k=f k):Rf.Lo g a m b:=fun i j h1 h2 h3 h4=>by
 by_cases q:j<b
 ·rw[e i h1 (by omega),e j (by omega) h4];exact h i j h1 h2 h3 h4
 ·omega
theorem zY (f:Nat->Mb×Nat){s m e:Nat}(hs:s<=m)(he:m<=e)(h:¬(s<m/\m<e)):Rf.iE f s m e=f:=by
 funext k;unfold Rf.iE
 repeat' split
 all_goals first|rfl|(congr 1;omega)
structure Cut (f:Nat->Mb×Nat) (a m b s:Nat):Prop where
 h1:a<=s
 h2:s<=m
 h3:s<=(a+b)/2
 h4:(a+b)/2+m-s<=b
 lower:∀i j,a<=i->i<(a+b)/2->(a+b)/2<=j->j<b->Rf.lx Mb.w (Rf.iE f s m ((a+b)/2+m-s) i) (Rf.iE f s m ((a+b)/2+m-s) j)
 s1:Rf.dS Mb.w (Rf.iE f s m ((a+b)/2+m-s)) a s
 s2:Rf.dS Mb.w (Rf.iE f s m ((a+b)/2+m-s)) s ((a+b)/2)
 l1:Rf.Lo (Rf.iE f s m ((a+b)/2+m-s)) a s ((a+b)/2)
 s3:Rf.dS Mb.w (Rf.iE f s m ((a+b)/2+m-s)) ((a+b)/2) ((a+b)/2+m-s)
 s4:Rf.dS Mb.w (Rf.iE f s m ((a+b)/2+m-s)) ((a+b)/2+m-s) b
 l2:Rf.Lo (Rf.iE f s m ((a+b)/2+m-s)) ((a+b)/2) ((a+b)/2+m-s) b
theorem Cut.of {f:Nat->Mb×Nat}{a m b s lo hi:Nat}(s1:Rf.dS Mb.w f a m)(s2:Rf.dS Mb.w f m b)(hlo:Rf.Lo f a m b)(el:lo=if (a+b)/2<m then (a+b)/2+m-b else a)(eh:hi=if (a+b)/2<m then (a+b)/2 else m)(h1:lo<=s)(h2:s<=hi)(g1:∀c,lo<=c->c<s->(f c).1.w<=(f ((a+b)/2+m-1-c)).1.w)(g2:∀c,s<=c->c<hi->(f ((a+b)/2+m-1-c)).1.w<(f c).1.w):Cut f a m b s:=by
 have q1:a<=s/\s<=m/\s<=(a+b)/2/\(a+b)/2+m-s<=b:=by
  by_cases q:(a+b)/2<m
  ·rw[if_pos q]at el eh;omega
  ·rw[if_neg q]at el eh;omega
 have:=Rf.FY (wt:=Mb.w) (f:=f) (a:=a) (m:=m) (b:=b) (s:=s) q1.1 q1.2.1 (by omega) q1.2.2.2 (by omega) s1 s2 hlo (fun c c1 c2 c3 c4=>?_) (fun c c1 c2 c3=>?_)
 ·exact⟨q1.1,q1.2.1,q1.2.2.1,q1.2.2.2,this.1,this.2.1,this.2.2.1,this.2.2.2.1,this.2.2.2.2.1,this.2.2.2.2.2.1,this.2.2.2.2.2.2⟩
 ·refine g1 c ?_ c2;rw[el];split<;>omega
 ·refine g2 c c1 ?_;rw[eh];split<;>omega
theorem Cut.fin {f f2 f3:Nat->Mb×Nat}{a m b s:Nat}(c:Cut f a m b s)(hmb:m<b)(i1:Rf.In (Rf.iE f s m ((a+b)/2+m-s)) f2 a ((a+b)/2))(t1:Rf.dS Mb.w f2 a ((a+b)/2))(i2:Rf.In f2 f3 ((a+b)/2) b)(t2:Rf.dS Mb.w f3 ((a+b)/2) b): Rf.In f f3 a b/\Rf.dS Mb.w f3 a b:=by
 have q1:=c.h1;have q2:=c.h2;have q3:=c.h3;have q4:=c.h4;have r1:Rf.In f (Rf.iE f s m ((a+b)/2+m-s)) a b:=(Rf.QZ f q2 (by omega)).wide q1 q4;refine⟨(r1.trans (i1.wide (Nat.le_refl _) (by omega))).trans (i2.wide (by omega) (Nat.le_refl _)),?_⟩;refine Rf.dS.halves (g:=Rf.iE f s m ((a+b)/2+m-s)) (c:=(a+b)/2) c.lower (dS.congr t1 (fun k _ hk=>i2.1 k (.inl hk))) t2 (fun k h1 h2=>?_) (fun k h1 h2=>?_)
 ·rw[i2.1 k (.inl h2)];exact i1.2 k h1 h2
 ·obtain⟨l,l1,l2,e⟩:=i2.2 k h1 h2;exact⟨l,l1,l2,e.trans (i1.1 l (.inr l1))⟩
theorem Cut.low {f:Nat->Mb×Nat}{a m b s:Nat}(c:Cut f a m b s)(h:¬(a<s/\s<(a+b)/2)):Rf.dS Mb.w (Rf.iE f s m ((a+b)/2+m-s)) a ((a+b)/2):=by
 have q1:=c.h1;have q3:=c.h3;by_cases e:s=a
 ·have:=c.s2;rwa [e]at this ⊢
 ·have e2:s=(a+b)/2:=by omega
  have:=c.s1;rwa [<-e2]at this ⊢
theorem Cut.high {f:Nat->Mb×Nat}{a m b s:Nat}(c:Cut f a m b s)(h:¬((a+b)/2<(a+b)/2+m-s/\(a+b)/2+m-s<b)):Rf.dS Mb.w (Rf.iE f s m ((a+b)/2+m-s)) ((a+b)/2) b:=by
 have q2:=c.h2;have q4:=c.h4;have t3:=c.s3;have t4:=c.s4;generalize he:(a+b)/2+m-s=e at *;by_cases q:e=(a+b)/2
 ·rwa [q]at t4 ⊢
 ·have e2:e=b:=by omega
  rwa [e2]at t3 ⊢
end Go.Proofs.YtmfijackgekioaaGreatDoor
