import Derived.Test.YtmfijackgekioaaGreatDoorQ12
set_option maxHeartbeats 4000000
set_option maxRecDepth 100000
namespace Go.Proofs.YtmfijackgekioaaGreatDoor
open Go.RowKit
theorem Merged.mk' {T n a b:Nat}{f g:Nat->Mb×Nat}{w w':World}(h1:aW w' T n g)(h2:Rf.fL n g f)(h3:Rf.In f g a b/\Rf.dE Mb.w g a b)(h4:Kp (·=T) w w'):Merged T n a b f w w':=⟨g,h1,h2,h3.1,h3.2,h4⟩
theorem Bm (kc:Nat)(hc:gD kc)(T n cap:Nat)(hn:n<=1000000)(a m b:Nat)(f:Nat->Mb×Nat)(w:World)(ham:a+1<m)(hmb:m+1<b)(hb:b<=n)(h:aW w T n f)(s1:Rf.dE Mb.w f a m)(s2:Rf.dE Mb.w f m b)(hlo:Rf.Lo f a m b)(ih:∀(a' m' b':Nat) (f':Nat->Mb×Nat) (w':World),b'-a'<b-a->a'<m'->m'<b'->b'<=n->aW w' T n f'->Rf.dE Mb.w f' a' m'->Rf.dE Mb.w f' m' b'->Rf.Lo f' a' m' b' -> Calls Tryz.prog 261 #[.slice (some ⟨T,0,none⟩) n cap,.int .i64 a',.int .i64 m',.int .i64 b',.func (.func kc) #[] #[]] w' fun e w''=>e=.returned (.tuple #[])/\Merged T n a' b' f' w' w''): Calls Tryz.prog 261 #[.slice (some ⟨T,0,none⟩) n cap,.int .i64 a,.int .i64 m,.int .i64 b,.func (.func kc) #[] #[]] w fun e w'=>e=.returned (.tuple #[])/\Merged T n a b f w w':=by
 have hcall:=hc.call;obtain⟨mid,hmid⟩:∃mid:Nat,mid=(a+b)/2:=⟨_,rfl⟩
 obtain⟨q0,hq0⟩:∃q:Nat,(a:Int)+(b:Int)=(q:Int):=⟨a+b,by omega⟩
 have hq1:(q0:Int)<=2000000:=by omega
 have em:(q0:Int)/2=(mid:Int):=by omega
 obtain⟨M,hM⟩:∃M:Nat,M=mid+m:=⟨_,rfl⟩
 have eM:(mid:Int)+(m:Int)=(M:Int):=by omega
 obtain⟨p,hp⟩:∃p:Nat,p=M-1:=⟨_,rfl⟩
 have ep:(M:Int)-1=(p:Int):=by omega
 obtain⟨lo,E7⟩:∃lo:Nat,lo=if mid<m then M-b else a:=⟨_,rfl⟩
 obtain⟨hi,E8⟩:∃hi:Nat,hi=if mid<m then mid else m:=⟨_,rfl⟩
 have LK:Hid (∀s,lo<=s->s<=hi->(∀c,lo<=c->c<s->(f c).1.w<=(f (p-c)).1.w)->(∀c,s<=c->c<hi->(f (p-c)).1.w<(f c).1.w)->Cut f a m b s):=fun s g1 g2 g3 g4=>by
  refine Cut.of s1 s2 hlo (lo:=lo) (hi:=hi) (by rw[E7,hM,hmid]) (by rw[E8,hmid]) g1 g2 (fun c c1 c2=>?_) (fun c c1 c2=>?_)
  ·rw[<-hmid,<-hM,<-hp];exact g3 c c1 c2
  ·rw[<-hmid,<-hM,<-hp];exact g4 c c1 c2
 have hr:lo<=hi/\a<=lo/\hi<=m/\hi<=mid/\(∀c,lo<=c->c<hi->m<=p-c/\p-c<b/\c<=p):=by
  by_cases q:mid<m
  ·rw[aaf q]at E7 E8;refine⟨by omega,by omega,by omega,by omega,fun c h1 h2=>by omega⟩
  ·rw[aae q]at E7 E8;refine⟨by omega,by omega,by omega,by omega,fun c h1 h2=>by omega⟩
 obtain⟨r1,r2,r3,r4,r5⟩:=hr;have Rh:Hid (∀c,lo<=c->c<hi->m<=p-c/\p-c<b/\c<=p):=r5;have d1:((m:Int)-(a:Int)==1)=false:=by simp;omega
 have d1':¬(m:Int)-(a:Int)=1:=by omega
 have d2:((b:Int)-(m:Int)==1)=false:=by simp;omega
 have d2':¬(b:Int)-(m:Int)=1:=by omega
 have Sn:M<=3000000:=by omega
 have Sp:Hid (mid=(a+b)/2/\M=mid+m/\p=M-1):=⟨hmid,hM,hp⟩
 have AK:Hid (∀(a' m' b':Nat) (f':Nat->Mb×Nat) (w':World),_):=ih;clear r5 ih
 have VH:Hid ((mid<m->(M:Int)-(b:Int)=(lo:Int)/\(mid:Int)=(hi:Int))/\(¬mid<m->(a:Int)=(lo:Int)/\(m:Int)=(hi:Int))):=by
  constructor
  ·intro q;rw[aaf q]at E7 E8;exact⟨by omega,by omega⟩
  ·intro q;rw[aae q]at E7 E8;exact⟨by omega,by omega⟩
 clear E7 E8 hmid hM hp;have LG:Hid (_/\_):=⟨s1,s2⟩
 clear s1 s2 hlo
 go_enter Tryz.func261,Tryz.ntmps261
 by_cases hq:mid<m
 ·have hq2:(m:Int)>(mid:Int):=by omega
  go_wp2;have HL:Hid ((M:Int)-(b:Int)=(lo:Int)/\(mid:Int)=(hi:Int)):=VH.out.1 hq;clear VH
  go_loopw [20,21] (fun sv rv wr=>∃s r:Nat,lo<=s/\s<=r/\r<=hi/\sv=.int .i64 s/\rv=.int .i64 r/\Hid (∀c,lo<=c->c<s->(f c).1.w<=(f (p-c)).1.w)/\Hid (∀c,r<=c->c<hi->(f (p-c)).1.w<(f c).1.w)/\Hid (aW wr T n f)/\Kp (·=T) w wr) (fun sv rv _=>(intOf rv).toNat-(intOf sv).toNat)
  case atStart=>exact⟨lo,hi,aad _,r1,aad _,by rw[HL.out.1],by rw[HL.out.2],fun c c1 c2=>by omega,fun c c1 c2=>by omega,h,Kp.refl _ _⟩
  case round =>
   clear h HL;obtain⟨s,r,hls,hsr,Sq,rfl,rfl,H1,H2,HR,hk⟩:=hrel;by_cases hlt:s<r
   ·obtain⟨c,hcm⟩:∃c:Nat,c=(s+r)/2:=⟨_,rfl⟩
    have hc1:s<=c:=by omega
    have hc2:c<r:=by omega
    obtain⟨q,hqq⟩:∃q:Nat,(s:Int)+(r:Int)=(q:Int):=⟨s+r,by omega⟩
    have hq3:(q:Int)<=2000000:=by omega
    have ec:(q:Int)/2=(c:Int):=by omega
    obtain⟨t1,t2,t3⟩:=Rh.out c (by omega) (by omega);have hcn:(c:Int)<(n:Int):=by omega
    have epc:(p:Int)-(c:Int)=((p-c:Nat):Int):=by omega
    have hwp:IntKind.i64.wrap ((p-c:Nat):Int)=((p-c:Nat):Int):=aah _ (by omega);have hpn:((p-c:Nat):Int)<(n:Int):=by omega
    have WW:p-c<n:=by omega
    have hmo:∀x y,a<=x->x<=y->y<m->(f x).1.w<=(f y).1.w:=fun x y x1 x2 x3=>by
     by_cases e:x=y
     ·rw[e];exact abj _
     ·have:=LG.out.1 x y x1 (by omega) x3;unfold Rf.lx at this;omega
    have sL:∀x y,m<=x->x<=y->y<b->(f x).1.w<=(f y).1.w:=fun x y x1 x2 x3=>by
     by_cases e:x=y
     ·rw[e];exact abj _
     ·have:=LG.out.2 x y x1 (by omega) x3;unfold Rf.lx at this;omega
    have HM:Hid (_/\_):=⟨hmo,sL⟩
    clear hcm hmo sL;by_cases hlt2:(f (p-c)).1.w<(f c).1.w
    ·have H3:Hid (∀x,c<=x->x<hi->(f (p-x)).1.w<(f x).1.w):=fun x x1 x2=>by
      have z:=Rh.out x (by omega) x2;have u:=HM.out.1 c x (by omega) x1 (by omega);have v:=HM.out.2 (p-x) (p-c) z.1 (by omega) t2;omega
     have hc4:eG (f (p-c)).1.w (f c).1.w<0:=(fM _ _).2 hlt2;have x1:=HR.out.cell (p-c) (by omega);have x2:=HR.out.cell (c) (by omega);have ba:=HR.out.lt;obtain⟨x10,fH⟩:=x1;obtain⟨x20,gd⟩:=x2;have HC:=fun u=>hc.cmp u (f (p-c)).1 (f c).1;have ng:=hc4;generalize hX:(f (p-c)).1=X at x10 fH HC ng;generalize hY:(f c).1=Y at x20 gd HC ng;have HX:Hid ((f (p-c)).1=X/\(f c).1=Y):=⟨hX,hY⟩
     obtain⟨xw,xa,xn,xc,xs⟩:=X;obtain⟨yw,ya,yn,yc,ys⟩:=Y;simp only at x10 fH x20 gd HC ng;clear hc4;clear hX hY;go_wp2;have hS:wr.drew.cell? ⟨T,(p-c)*2,none⟩=some (.int .i64 xw)/\wr.drew.cell? ⟨T,(p-c)*2+1,none⟩=some (.slice xa xn xc)/\wr.drew.cell? ⟨T,(c)*2,none⟩=some (.int .i64 yw)/\wr.drew.cell? ⟨T,(c)*2+1,none⟩=some (.slice ya yn yc):=⟨x10,fH,x20,gd⟩
     refine aE (fun w'=>w'.cell? ⟨T,(p-c)*2,none⟩=some (.int .i64 xw)/\w'.cell? ⟨T,(p-c)*2+1,none⟩=some (.slice xa xn xc)/\w'.cell? ⟨T,(c)*2,none⟩=some (.int .i64 yw)/\w'.cell? ⟨T,(c)*2+1,none⟩=some (.slice ya yn yc)) 999 ?_;refine am [0,1,2,3,4,5,6,7,8,9,10] ?_
     iterate 11 (refine ay hS ?_;try simp only[Act.put])
     refine aj ?_;refine ai 11 fun K hK=>?_;go_simp;refine (HC _).mono ?_;rintro e w1 ⟨rfl,hb1⟩;obtain⟨bc,bf⟩:=jJ hb1;have hS1:=hS;rw[<-bc T _ ba,<-bc T _ ba,<-bc T _ ba,<-bc T _ ba]at hS1;have HR1:aW w1 T n (f):=aW.below (w:=wr.drew) (HR.out.kept rfl) hb1;have hk1:Kp (·=T) w w1:=hk.drew.trans (Kp.aJ hb1);have hlt1:=HR1.lt;refine hK _ _ (fun _=>hS1) ?_;clear hK K;refine ai 12 fun K hK=>?_;go_simp;refine hK _ _ (fun _=>hS1) ?_;clear hK K;refine ai 13 fun K hK=>?_;go_simp;refine hK _ _ (fun _=>hS1) ?_;clear hK K;refine ar ?_;clear bc bf hb1 hS x10 fH x20 gd ba HC hS1;go_wp2
     go_roundw
     case rel=>exact⟨s,c,hls,hc1,by omega,rfl,rfl,H1,H3,HR1,hk1⟩
     case measure=>simp[intOf];omega
    ·have H3:Hid (∀x,lo<=x->x<c+1->(f x).1.w<=(f (p-x)).1.w):=fun x x1 x2=>by
      have z:=Rh.out x x1 (by omega);have u:=HM.out.1 x c (by omega) (by omega) (by omega);have v:=HM.out.2 (p-c) (p-x) t1 (by omega) z.2.1;omega
     have hc4:¬eG (f (p-c)).1.w (f c).1.w<0:=fun hh=>hlt2 ((fM _ _).1 hh);have x1:=HR.out.cell (p-c) (by omega);have x2:=HR.out.cell (c) (by omega);have ba:=HR.out.lt;obtain⟨x10,fH⟩:=x1;obtain⟨x20,gd⟩:=x2;have HC:=fun u=>hc.cmp u (f (p-c)).1 (f c).1;have ng:=hc4;generalize hX:(f (p-c)).1=X at x10 fH HC ng;generalize hY:(f c).1=Y at x20 gd HC ng;have HX:Hid ((f (p-c)).1=X/\(f c).1=Y):=⟨hX,hY⟩
     obtain⟨xw,xa,xn,xc,xs⟩:=X;obtain⟨yw,ya,yn,yc,ys⟩:=Y;simp only at x10 fH x20 gd HC ng;clear hc4;have hc6:decide (eG xw yw<0)=false:=by simpa using ng
     have Zw:(0:Int)<=eG xw yw:=by omega
     clear hX hY;go_wp2;have hS:wr.drew.cell? ⟨T,(p-c)*2,none⟩=some (.int .i64 xw)/\wr.drew.cell? ⟨T,(p-c)*2+1,none⟩=some (.slice xa xn xc)/\wr.drew.cell? ⟨T,(c)*2,none⟩=some (.int .i64 yw)/\wr.drew.cell? ⟨T,(c)*2+1,none⟩=some (.slice ya yn yc):=⟨x10,fH,x20,gd⟩
     refine aE (fun w'=>w'.cell? ⟨T,(p-c)*2,none⟩=some (.int .i64 xw)/\w'.cell? ⟨T,(p-c)*2+1,none⟩=some (.slice xa xn xc)/\w'.cell? ⟨T,(c)*2,none⟩=some (.int .i64 yw)/\w'.cell? ⟨T,(c)*2+1,none⟩=some (.slice ya yn yc)) 999 ?_;refine am [0,1,2,3,4,5,6,7,8,9,10] ?_
     iterate 11 (refine ay hS ?_;try simp only[Act.put])
     refine aj ?_;refine ai 11 fun K hK=>?_;go_simp;refine (HC _).mono ?_;rintro e w1 ⟨rfl,hb1⟩;obtain⟨bc,bf⟩:=jJ hb1;have hS1:=hS;rw[<-bc T _ ba,<-bc T _ ba,<-bc T _ ba,<-bc T _ ba]at hS1;have HR1:aW w1 T n (f):=aW.below (w:=wr.drew) (HR.out.kept rfl) hb1;have hk1:Kp (·=T) w w1:=hk.drew.trans (Kp.aJ hb1);have hlt1:=HR1.lt;refine hK _ _ (fun _=>hS1) ?_;clear hK K;refine ai 12 fun K hK=>?_;go_simp;refine hK _ _ (fun _=>hS1) ?_;clear hK K;refine ai 13 fun K hK=>?_;go_simp;refine hK _ _ (fun _=>hS1) ?_;clear hK K;refine ar ?_;clear bc bf hb1 hS x10 fH x20 gd ba HC hS1;go_wp2
     go_roundw
     case rel=>exact⟨c+1,r,by omega,by omega,Sq,by go_num,rfl,H3,H2,HR1,hk1⟩
     case measure=>simp[intOf];omega
   ·have e:s=r:=by omega
    subst e;have CUT:=LK.out s hls Sq H1.out H2.out;obtain⟨m1,m2,m3⟩:=Sp.out;obtain⟨E,hE⟩:∃E:Nat,E=mid+m-s:=⟨_,rfl⟩
    have q2:=CUT.h2;have q4:=CUT.h4;have q3:=CUT.h3;have q1:=CUT.h1;have eE:(M:Int)-(s:Int)=(E:Int):=by omega
    rw[<-m1,<-hE]at q4;rw[<-m1]at q3;have f1:=CUT.s1;have f2:=CUT.s2;have f3:=CUT.l1;have f4:=CUT.s3;have f5:=CUT.s4;have f6:=CUT.l2;have f7:=CUT.low;have f8:=CUT.high;have f9:=fun g1 g2=>CUT.fin (f2:=g1) (f3:=g2) (by omega);rw[<-m1,<-hE]at f1 f2 f3 f4 f5 f6 f7 f8;simp only[<-m1,<-hE]at f9;have g0:∀k,(k<a\/mid<=k)\/True:=fun _=>.inr trivial;have lZ:Hid (¬(s<m/\m<E)->Rf.ie f s m E=f):=fun hh=>zo f q2 (by omega) hh;have LL:mid-a<b-a:=by omega
    have Im:b-mid<b-a:=by omega
    have WX:a<mid:=by omega
    clear g0 CUT LK m1 m2 m3 hE H1 H2;generalize hG:Rf.ie f s m E=G at *;have HF:Hid (_/\_/\_/\_/\_/\_/\_/\_/\(∀g1 g2,_)):=⟨f1,f2,f3,f4,f5,f6,f7,f8,f9⟩
    clear f1 f2 f3 f4 f5 f6 f7 f8 f9;by_cases b1:s<m/\m<E
    all_goals by_cases b2:a<s/\s<mid
    all_goals by_cases b3:mid<E/\E<b
    ·obtain⟨b11,b12⟩:=b1;obtain⟨Bn,Bo⟩:=b2;obtain⟨Bp,Bq⟩:=b3
     all_goals
      go_wp2_with fail;refine (fD T n cap s m E _ f wr HR.out b11 b12 (by omega) hn).mono ?_;rintro e w1 ⟨rfl,hr1,hp1,hk1⟩;rw[hG]at hr1 hp1;have ft:=hk.trans hk1;go_wp2_with fail;refine (AK.out a s mid G w1 LL Bn Bo (by omega) hr1 HF.out.1 HF.out.2.1 HF.out.2.2.1).mono ?_;rintro e w2 ⟨rfl,G2,hr2,oo,hi2,hs2,hk2⟩;have fu:=ft.trans hk2;have hp2:=oo.trans hp1;go_wp2_with fail;refine (AK.out mid E b G2 w2 Im Bp Bq hb hr2 (dE.congr HF.out.2.2.2.1 (fun k k1 k2=>hi2.1 k (.inr k1))) (dE.congr HF.out.2.2.2.2.1 (fun k k1 k2=>hi2.1 k (.inr (by omega)))) (Lo.congr HF.out.2.2.2.2.2.1 (fun k k1 k2=>hi2.1 k (.inr k1)))).mono ?_;rintro e w3 ⟨rfl,G3,hr3,oq,hi3,hs3,hk3⟩;have fw:=fu.trans hk3;have hp3:=oq.trans hp2;have eH:Hid (Merged T n a b f w _):=Merged.mk' hr3 hp3 (HF.out.2.2.2.2.2.2.2.2 G2 G3 hi2 hs2 hi3 hs3) fw;go_wp2
      go_end0
      exact⟨rfl,eH.out⟩
    ·obtain⟨b11,b12⟩:=b1;obtain⟨Bn,Bo⟩:=b2;have Br:Hid (¬_):=b3
     all_goals have n3:¬mid<E\/(mid<E/\¬E<b):=by omega
     all_goals clear b3
     all_goals rcases n3 with n3|⟨n3,O4⟩
     all_goals
      go_wp2_with fail;refine (fD T n cap s m E _ f wr HR.out b11 b12 (by omega) hn).mono ?_;rintro e w1 ⟨rfl,hr1,hp1,hk1⟩;rw[hG]at hr1 hp1;have ft:=hk.trans hk1;go_wp2_with fail;refine (AK.out a s mid G w1 LL Bn Bo (by omega) hr1 HF.out.1 HF.out.2.1 HF.out.2.2.1).mono ?_;rintro e w2 ⟨rfl,G2,hr2,oo,hi2,hs2,hk2⟩;have fu:=ft.trans hk2;have hp2:=oo.trans hp1;have hr3:=hr2;have hp3:=hp2;have fw:=fu;have hs3:=dE.congr (HF.out.2.2.2.2.2.2.2.1 Br.out) (fun k k1 _=>hi2.1 k (.inr k1));have hi3:=Rf.In.refl G2 mid b;have eH:Hid (Merged T n a b f w _):=Merged.mk' hr3 hp3 (HF.out.2.2.2.2.2.2.2.2 G2 G2 hi2 hs2 hi3 hs3) fw;go_wp2
      go_end0
      exact⟨rfl,eH.out⟩
    ·obtain⟨b11,b12⟩:=b1;have hs2:=HF.out.2.2.2.2.2.2.1 b2;have hi2:=Rf.In.refl G a mid;obtain⟨Bp,Bq⟩:=b3
     all_goals have n2:¬a<s\/(a<s/\¬s<mid):=by omega
     all_goals clear b2
     all_goals rcases n2 with n2|⟨n2,O5⟩
     all_goals
      go_wp2_with fail;refine (fD T n cap s m E _ f wr HR.out b11 b12 (by omega) hn).mono ?_;rintro e w1 ⟨rfl,hr1,hp1,hk1⟩;rw[hG]at hr1 hp1;have ft:=hk.trans hk1;have hr2:=hr1;have hp2:=hp1;have fu:=ft;go_wp2_with fail;refine (AK.out mid E b G w1 Im Bp Bq hb hr2 (dE.congr HF.out.2.2.2.1 (fun k k1 k2=>hi2.1 k (.inr k1))) (dE.congr HF.out.2.2.2.2.1 (fun k k1 k2=>hi2.1 k (.inr (by omega)))) (Lo.congr HF.out.2.2.2.2.2.1 (fun k k1 k2=>hi2.1 k (.inr k1)))).mono ?_;rintro e w3 ⟨rfl,G3,hr3,oq,hi3,hs3,hk3⟩;have fw:=fu.trans hk3;have hp3:=oq.trans hp2;have eH:Hid (Merged T n a b f w _):=Merged.mk' hr3 hp3 (HF.out.2.2.2.2.2.2.2.2 G G3 hi2 hs2 hi3 hs3) fw;go_wp2
      go_end0
      exact⟨rfl,eH.out⟩
    ·obtain⟨b11,b12⟩:=b1;have hs2:=HF.out.2.2.2.2.2.2.1 b2;have hi2:=Rf.In.refl G a mid;have Br:Hid (¬_):=b3
     all_goals have n2:¬a<s\/(a<s/\¬s<mid):=by omega
     all_goals clear b2
     all_goals rcases n2 with n2|⟨n2,O5⟩
     all_goals have n3:¬mid<E\/(mid<E/\¬E<b):=by omega
     all_goals clear b3
     all_goals rcases n3 with n3|⟨n3,O4⟩
     all_goals
      go_wp2_with fail;refine (fD T n cap s m E _ f wr HR.out b11 b12 (by omega) hn).mono ?_;rintro e w1 ⟨rfl,hr1,hp1,hk1⟩;rw[hG]at hr1 hp1;have ft:=hk.trans hk1;have hr2:=hr1;have hp2:=hp1;have fu:=ft;have hr3:=hr2;have hp3:=hp2;have fw:=fu;have hs3:=dE.congr (HF.out.2.2.2.2.2.2.2.1 Br.out) (fun k k1 _=>hi2.1 k (.inr k1));have hi3:=Rf.In.refl G mid b;have eH:Hid (Merged T n a b f w _):=Merged.mk' hr3 hp3 (HF.out.2.2.2.2.2.2.2.2 G G hi2 hs2 hi3 hs3) fw;go_wp2
      go_end0
      exact⟨rfl,eH.out⟩
    ·have hr1:aW wr T n G:=by rw[lZ.out b1];exact HR.out
     have hp1:Rf.fL n G f:=by rw[lZ.out b1];exact Rf.fL.refl _ _
     have ft:=hk;obtain⟨Bn,Bo⟩:=b2;obtain⟨Bp,Bq⟩:=b3;have Bs:=b1;have n1:¬s<m\/(s<m/\¬m<E):=by omega
     clear b1 Bs;rcases n1 with n1|⟨n1,n1'⟩
     all_goals
      go_wp2_with fail;refine (AK.out a s mid G wr LL Bn Bo (by omega) hr1 HF.out.1 HF.out.2.1 HF.out.2.2.1).mono ?_;rintro e w2 ⟨rfl,G2,hr2,oo,hi2,hs2,hk2⟩;have fu:=ft.trans hk2;have hp2:=oo.trans hp1;go_wp2_with fail;refine (AK.out mid E b G2 w2 Im Bp Bq hb hr2 (dE.congr HF.out.2.2.2.1 (fun k k1 k2=>hi2.1 k (.inr k1))) (dE.congr HF.out.2.2.2.2.1 (fun k k1 k2=>hi2.1 k (.inr (by omega)))) (Lo.congr HF.out.2.2.2.2.2.1 (fun k k1 k2=>hi2.1 k (.inr k1)))).mono ?_;rintro e w3 ⟨rfl,G3,hr3,oq,hi3,hs3,hk3⟩;have fw:=fu.trans hk3;have hp3:=oq.trans hp2;have eH:Hid (Merged T n a b f w _):=Merged.mk' hr3 hp3 (HF.out.2.2.2.2.2.2.2.2 G2 G3 hi2 hs2 hi3 hs3) fw;go_wp2
      go_end0
      exact⟨rfl,eH.out⟩
    ·have hr1:aW wr T n G:=by rw[lZ.out b1];exact HR.out
     have hp1:Rf.fL n G f:=by rw[lZ.out b1];exact Rf.fL.refl _ _
     have ft:=hk;obtain⟨Bn,Bo⟩:=b2;have Br:Hid (¬_):=b3;have Bs:=b1;have n1:¬s<m\/(s<m/\¬m<E):=by omega
     clear b1 Bs;rcases n1 with n1|⟨n1,n1'⟩
     all_goals have n3:¬mid<E\/(mid<E/\¬E<b):=by omega
     all_goals clear b3
     all_goals rcases n3 with n3|⟨n3,O4⟩
     all_goals
      go_wp2_with fail;refine (AK.out a s mid G wr LL Bn Bo (by omega) hr1 HF.out.1 HF.out.2.1 HF.out.2.2.1).mono ?_;rintro e w2 ⟨rfl,G2,hr2,oo,hi2,hs2,hk2⟩;have fu:=ft.trans hk2;have hp2:=oo.trans hp1;have hr3:=hr2;have hp3:=hp2;have fw:=fu;have hs3:=dE.congr (HF.out.2.2.2.2.2.2.2.1 Br.out) (fun k k1 _=>hi2.1 k (.inr k1));have hi3:=Rf.In.refl G2 mid b;have eH:Hid (Merged T n a b f w _):=Merged.mk' hr3 hp3 (HF.out.2.2.2.2.2.2.2.2 G2 G2 hi2 hs2 hi3 hs3) fw;go_wp2
      go_end0
      exact⟨rfl,eH.out⟩
    ·have hr1:aW wr T n G:=by rw[lZ.out b1];exact HR.out
     have hp1:Rf.fL n G f:=by rw[lZ.out b1];exact Rf.fL.refl _ _
     have ft:=hk;have hs2:=HF.out.2.2.2.2.2.2.1 b2;have hi2:=Rf.In.refl G a mid;obtain⟨Bp,Bq⟩:=b3;have Bs:=b1;have n1:¬s<m\/(s<m/\¬m<E):=by omega
     clear b1 Bs;rcases n1 with n1|⟨n1,n1'⟩
     all_goals have n2:¬a<s\/(a<s/\¬s<mid):=by omega
     all_goals clear b2
     all_goals rcases n2 with n2|⟨n2,O5⟩
     all_goals
      have hr2:=hr1;have hp2:=hp1;have fu:=ft;go_wp2_with fail;refine (AK.out mid E b G wr Im Bp Bq hb hr2 (dE.congr HF.out.2.2.2.1 (fun k k1 k2=>hi2.1 k (.inr k1))) (dE.congr HF.out.2.2.2.2.1 (fun k k1 k2=>hi2.1 k (.inr (by omega)))) (Lo.congr HF.out.2.2.2.2.2.1 (fun k k1 k2=>hi2.1 k (.inr k1)))).mono ?_;rintro e w3 ⟨rfl,G3,hr3,oq,hi3,hs3,hk3⟩;have fw:=fu.trans hk3;have hp3:=oq.trans hp2;have eH:Hid (Merged T n a b f w _):=Merged.mk' hr3 hp3 (HF.out.2.2.2.2.2.2.2.2 G G3 hi2 hs2 hi3 hs3) fw;go_wp2
      go_end0
      exact⟨rfl,eH.out⟩
    ·have hr1:aW wr T n G:=by rw[lZ.out b1];exact HR.out
     have hp1:Rf.fL n G f:=by rw[lZ.out b1];exact Rf.fL.refl _ _
     have ft:=hk;have hs2:=HF.out.2.2.2.2.2.2.1 b2;have hi2:=Rf.In.refl G a mid;have Br:Hid (¬_):=b3;have Bs:=b1;have n1:¬s<m\/(s<m/\¬m<E):=by omega
     clear b1 Bs;rcases n1 with n1|⟨n1,n1'⟩
     all_goals have n2:¬a<s\/(a<s/\¬s<mid):=by omega
     all_goals clear b2
     all_goals rcases n2 with n2|⟨n2,O5⟩
     all_goals have n3:¬mid<E\/(mid<E/\¬E<b):=by omega
     all_goals clear b3
     all_goals rcases n3 with n3|⟨n3,O4⟩
     all_goals
      have hr2:=hr1;have hp2:=hp1;have fu:=ft;have hr3:=hr2;have hp3:=hp2;have fw:=fu;have hs3:=dE.congr (HF.out.2.2.2.2.2.2.2.1 Br.out) (fun k k1 _=>hi2.1 k (.inr k1));have hi3:=Rf.In.refl G mid b;have eH:Hid (Merged T n a b f w _):=Merged.mk' hr3 hp3 (HF.out.2.2.2.2.2.2.2.2 G G hi2 hs2 hi3 hs3) fw;go_wp2
      go_end0
      exact⟨rfl,eH.out⟩
 ·have hq2:¬(m:Int)>(mid:Int):=by omega
  go_wp2;have HL:Hid ((a:Int)=(lo:Int)/\(m:Int)=(hi:Int)):=VH.out.2 hq;clear VH
  go_loopw [20,21] (fun sv rv wr=>∃s r:Nat,lo<=s/\s<=r/\r<=hi/\sv=.int .i64 s/\rv=.int .i64 r/\Hid (∀c,lo<=c->c<s->(f c).1.w<=(f (p-c)).1.w)/\Hid (∀c,r<=c->c<hi->(f (p-c)).1.w<(f c).1.w)/\Hid (aW wr T n f)/\Kp (·=T) w wr) (fun sv rv _=>(intOf rv).toNat-(intOf sv).toNat)
  case atStart=>exact⟨lo,hi,aad _,r1,aad _,by rw[HL.out.1],by rw[HL.out.2],fun c c1 c2=>by omega,fun c c1 c2=>by omega,h,Kp.refl _ _⟩
  case round =>
   clear h HL;obtain⟨s,r,hls,hsr,Sq,rfl,rfl,H1,H2,HR,hk⟩:=hrel;by_cases hlt:s<r
   ·obtain⟨c,hcm⟩:∃c:Nat,c=(s+r)/2:=⟨_,rfl⟩
    have hc1:s<=c:=by omega
    have hc2:c<r:=by omega
    obtain⟨q,hqq⟩:∃q:Nat,(s:Int)+(r:Int)=(q:Int):=⟨s+r,by omega⟩
    have hq3:(q:Int)<=2000000:=by omega
    have ec:(q:Int)/2=(c:Int):=by omega
    obtain⟨t1,t2,t3⟩:=Rh.out c (by omega) (by omega);have hcn:(c:Int)<(n:Int):=by omega
    have epc:(p:Int)-(c:Int)=((p-c:Nat):Int):=by omega
    have hwp:IntKind.i64.wrap ((p-c:Nat):Int)=((p-c:Nat):Int):=aah _ (by omega);have hpn:((p-c:Nat):Int)<(n:Int):=by omega
    have WW:p-c<n:=by omega
    have hmo:∀x y,a<=x->x<=y->y<m->(f x).1.w<=(f y).1.w:=fun x y x1 x2 x3=>by
     by_cases e:x=y
     ·rw[e];exact abj _
     ·have:=LG.out.1 x y x1 (by omega) x3;unfold Rf.lx at this;omega
    have sL:∀x y,m<=x->x<=y->y<b->(f x).1.w<=(f y).1.w:=fun x y x1 x2 x3=>by
     by_cases e:x=y
     ·rw[e];exact abj _
     ·have:=LG.out.2 x y x1 (by omega) x3;unfold Rf.lx at this;omega
    have HM:Hid (_/\_):=⟨hmo,sL⟩
    clear hcm hmo sL;by_cases hlt2:(f (p-c)).1.w<(f c).1.w
    ·have H3:Hid (∀x,c<=x->x<hi->(f (p-x)).1.w<(f x).1.w):=fun x x1 x2=>by
      have z:=Rh.out x (by omega) x2;have u:=HM.out.1 c x (by omega) x1 (by omega);have v:=HM.out.2 (p-x) (p-c) z.1 (by omega) t2;omega
     have hc4:eG (f (p-c)).1.w (f c).1.w<0:=(fM _ _).2 hlt2;have x1:=HR.out.cell (p-c) (by omega);have x2:=HR.out.cell (c) (by omega);have ba:=HR.out.lt;obtain⟨x10,fH⟩:=x1;obtain⟨x20,gd⟩:=x2;have HC:=fun u=>hc.cmp u (f (p-c)).1 (f c).1;have ng:=hc4;generalize hX:(f (p-c)).1=X at x10 fH HC ng;generalize hY:(f c).1=Y at x20 gd HC ng;have HX:Hid ((f (p-c)).1=X/\(f c).1=Y):=⟨hX,hY⟩
     obtain⟨xw,xa,xn,xc,xs⟩:=X;obtain⟨yw,ya,yn,yc,ys⟩:=Y;simp only at x10 fH x20 gd HC ng;clear hc4;clear hX hY;go_wp2;have hS:wr.drew.cell? ⟨T,(p-c)*2,none⟩=some (.int .i64 xw)/\wr.drew.cell? ⟨T,(p-c)*2+1,none⟩=some (.slice xa xn xc)/\wr.drew.cell? ⟨T,(c)*2,none⟩=some (.int .i64 yw)/\wr.drew.cell? ⟨T,(c)*2+1,none⟩=some (.slice ya yn yc):=⟨x10,fH,x20,gd⟩
     refine aE (fun w'=>w'.cell? ⟨T,(p-c)*2,none⟩=some (.int .i64 xw)/\w'.cell? ⟨T,(p-c)*2+1,none⟩=some (.slice xa xn xc)/\w'.cell? ⟨T,(c)*2,none⟩=some (.int .i64 yw)/\w'.cell? ⟨T,(c)*2+1,none⟩=some (.slice ya yn yc)) 999 ?_;refine am [0,1,2,3,4,5,6,7,8,9,10] ?_
     iterate 11 (refine ay hS ?_;try simp only[Act.put])
     refine aj ?_;refine ai 11 fun K hK=>?_;go_simp;refine (HC _).mono ?_;rintro e w1 ⟨rfl,hb1⟩;obtain⟨bc,bf⟩:=jJ hb1;have hS1:=hS;rw[<-bc T _ ba,<-bc T _ ba,<-bc T _ ba,<-bc T _ ba]at hS1;have HR1:aW w1 T n (f):=aW.below (w:=wr.drew) (HR.out.kept rfl) hb1;have hk1:Kp (·=T) w w1:=hk.drew.trans (Kp.aJ hb1);have hlt1:=HR1.lt;refine hK _ _ (fun _=>hS1) ?_;clear hK K;refine ai 12 fun K hK=>?_;go_simp;refine hK _ _ (fun _=>hS1) ?_;clear hK K;refine ai 13 fun K hK=>?_;go_simp;refine hK _ _ (fun _=>hS1) ?_;clear hK K;refine ar ?_;clear bc bf hb1 hS x10 fH x20 gd ba HC hS1;go_wp2
     go_roundw
     case rel=>exact⟨s,c,hls,hc1,by omega,rfl,rfl,H1,H3,HR1,hk1⟩
     case measure=>simp[intOf];omega
    ·have H3:Hid (∀x,lo<=x->x<c+1->(f x).1.w<=(f (p-x)).1.w):=fun x x1 x2=>by
      have z:=Rh.out x x1 (by omega);have u:=HM.out.1 x c (by omega) (by omega) (by omega);have v:=HM.out.2 (p-c) (p-x) t1 (by omega) z.2.1;omega
     have hc4:¬eG (f (p-c)).1.w (f c).1.w<0:=fun hh=>hlt2 ((fM _ _).1 hh);have x1:=HR.out.cell (p-c) (by omega);have x2:=HR.out.cell (c) (by omega);have ba:=HR.out.lt;obtain⟨x10,fH⟩:=x1;obtain⟨x20,gd⟩:=x2;have HC:=fun u=>hc.cmp u (f (p-c)).1 (f c).1;have ng:=hc4;generalize hX:(f (p-c)).1=X at x10 fH HC ng;generalize hY:(f c).1=Y at x20 gd HC ng;have HX:Hid ((f (p-c)).1=X/\(f c).1=Y):=⟨hX,hY⟩
     obtain⟨xw,xa,xn,xc,xs⟩:=X;obtain⟨yw,ya,yn,yc,ys⟩:=Y;simp only at x10 fH x20 gd HC ng;clear hc4;have hc6:decide (eG xw yw<0)=false:=by simpa using ng
     have Zw:(0:Int)<=eG xw yw:=by omega
     clear hX hY;go_wp2;have hS:wr.drew.cell? ⟨T,(p-c)*2,none⟩=some (.int .i64 xw)/\wr.drew.cell? ⟨T,(p-c)*2+1,none⟩=some (.slice xa xn xc)/\wr.drew.cell? ⟨T,(c)*2,none⟩=some (.int .i64 yw)/\wr.drew.cell? ⟨T,(c)*2+1,none⟩=some (.slice ya yn yc):=⟨x10,fH,x20,gd⟩
     refine aE (fun w'=>w'.cell? ⟨T,(p-c)*2,none⟩=some (.int .i64 xw)/\w'.cell? ⟨T,(p-c)*2+1,none⟩=some (.slice xa xn xc)/\w'.cell? ⟨T,(c)*2,none⟩=some (.int .i64 yw)/\w'.cell? ⟨T,(c)*2+1,none⟩=some (.slice ya yn yc)) 999 ?_;refine am [0,1,2,3,4,5,6,7,8,9,10] ?_
     iterate 11 (refine ay hS ?_;try simp only[Act.put])
     refine aj ?_;refine ai 11 fun K hK=>?_;go_simp;refine (HC _).mono ?_;rintro e w1 ⟨rfl,hb1⟩;obtain⟨bc,bf⟩:=jJ hb1;have hS1:=hS;rw[<-bc T _ ba,<-bc T _ ba,<-bc T _ ba,<-bc T _ ba]at hS1;have HR1:aW w1 T n (f):=aW.below (w:=wr.drew) (HR.out.kept rfl) hb1;have hk1:Kp (·=T) w w1:=hk.drew.trans (Kp.aJ hb1);have hlt1:=HR1.lt;refine hK _ _ (fun _=>hS1) ?_;clear hK K;refine ai 12 fun K hK=>?_;go_simp;refine hK _ _ (fun _=>hS1) ?_;clear hK K;refine ai 13 fun K hK=>?_;go_simp;refine hK _ _ (fun _=>hS1) ?_;clear hK K;refine ar ?_;clear bc bf hb1 hS x10 fH x20 gd ba HC hS1;go_wp2
     go_roundw
     case rel=>exact⟨c+1,r,by omega,by omega,Sq,by go_num,rfl,H3,H2,HR1,hk1⟩
     case measure=>simp[intOf];omega
   ·have e:s=r:=by omega
    subst e;have CUT:=LK.out s hls Sq H1.out H2.out;obtain⟨m1,m2,m3⟩:=Sp.out;obtain⟨E,hE⟩:∃E:Nat,E=mid+m-s:=⟨_,rfl⟩
    have q2:=CUT.h2;have q4:=CUT.h4;have q3:=CUT.h3;have q1:=CUT.h1;have eE:(M:Int)-(s:Int)=(E:Int):=by omega
    rw[<-m1,<-hE]at q4;rw[<-m1]at q3;have f1:=CUT.s1;have f2:=CUT.s2;have f3:=CUT.l1;have f4:=CUT.s3;have f5:=CUT.s4;have f6:=CUT.l2;have f7:=CUT.low;have f8:=CUT.high;have f9:=fun g1 g2=>CUT.fin (f2:=g1) (f3:=g2) (by omega);rw[<-m1,<-hE]at f1 f2 f3 f4 f5 f6 f7 f8;simp only[<-m1,<-hE]at f9;have g0:∀k,(k<a\/mid<=k)\/True:=fun _=>.inr trivial;have lZ:Hid (¬(s<m/\m<E)->Rf.ie f s m E=f):=fun hh=>zo f q2 (by omega) hh;have LL:mid-a<b-a:=by omega
    have Im:b-mid<b-a:=by omega
    have WX:a<mid:=by omega
    clear g0 CUT LK m1 m2 m3 hE H1 H2;generalize hG:Rf.ie f s m E=G at *;have HF:Hid (_/\_/\_/\_/\_/\_/\_/\_/\(∀g1 g2,_)):=⟨f1,f2,f3,f4,f5,f6,f7,f8,f9⟩
    clear f1 f2 f3 f4 f5 f6 f7 f8 f9;by_cases b1:s<m/\m<E
    all_goals by_cases b2:a<s/\s<mid
    all_goals by_cases b3:mid<E/\E<b
    ·obtain⟨b11,b12⟩:=b1;obtain⟨Bn,Bo⟩:=b2;obtain⟨Bp,Bq⟩:=b3
     all_goals
      go_wp2_with fail;refine (fD T n cap s m E _ f wr HR.out b11 b12 (by omega) hn).mono ?_;rintro e w1 ⟨rfl,hr1,hp1,hk1⟩;rw[hG]at hr1 hp1;have ft:=hk.trans hk1;go_wp2_with fail;refine (AK.out a s mid G w1 LL Bn Bo (by omega) hr1 HF.out.1 HF.out.2.1 HF.out.2.2.1).mono ?_;rintro e w2 ⟨rfl,G2,hr2,oo,hi2,hs2,hk2⟩;have fu:=ft.trans hk2;have hp2:=oo.trans hp1;go_wp2_with fail;refine (AK.out mid E b G2 w2 Im Bp Bq hb hr2 (dE.congr HF.out.2.2.2.1 (fun k k1 k2=>hi2.1 k (.inr k1))) (dE.congr HF.out.2.2.2.2.1 (fun k k1 k2=>hi2.1 k (.inr (by omega)))) (Lo.congr HF.out.2.2.2.2.2.1 (fun k k1 k2=>hi2.1 k (.inr k1)))).mono ?_;rintro e w3 ⟨rfl,G3,hr3,oq,hi3,hs3,hk3⟩;have fw:=fu.trans hk3;have hp3:=oq.trans hp2;have eH:Hid (Merged T n a b f w _):=Merged.mk' hr3 hp3 (HF.out.2.2.2.2.2.2.2.2 G2 G3 hi2 hs2 hi3 hs3) fw;go_wp2
      go_end0
      exact⟨rfl,eH.out⟩
    ·obtain⟨b11,b12⟩:=b1;obtain⟨Bn,Bo⟩:=b2;have Br:Hid (¬_):=b3
     all_goals have n3:¬mid<E\/(mid<E/\¬E<b):=by omega
     all_goals clear b3
     all_goals rcases n3 with n3|⟨n3,O4⟩
     all_goals
      go_wp2_with fail;refine (fD T n cap s m E _ f wr HR.out b11 b12 (by omega) hn).mono ?_;rintro e w1 ⟨rfl,hr1,hp1,hk1⟩;rw[hG]at hr1 hp1;have ft:=hk.trans hk1;go_wp2_with fail;refine (AK.out a s mid G w1 LL Bn Bo (by omega) hr1 HF.out.1 HF.out.2.1 HF.out.2.2.1).mono ?_;rintro e w2 ⟨rfl,G2,hr2,oo,hi2,hs2,hk2⟩;have fu:=ft.trans hk2;have hp2:=oo.trans hp1;have hr3:=hr2;have hp3:=hp2;have fw:=fu;have hs3:=dE.congr (HF.out.2.2.2.2.2.2.2.1 Br.out) (fun k k1 _=>hi2.1 k (.inr k1));have hi3:=Rf.In.refl G2 mid b;have eH:Hid (Merged T n a b f w _):=Merged.mk' hr3 hp3 (HF.out.2.2.2.2.2.2.2.2 G2 G2 hi2 hs2 hi3 hs3) fw;go_wp2
      go_end0
      exact⟨rfl,eH.out⟩
    ·obtain⟨b11,b12⟩:=b1;have hs2:=HF.out.2.2.2.2.2.2.1 b2;have hi2:=Rf.In.refl G a mid;obtain⟨Bp,Bq⟩:=b3
     all_goals have n2:¬a<s\/(a<s/\¬s<mid):=by omega
     all_goals clear b2
     all_goals rcases n2 with n2|⟨n2,O5⟩
     all_goals
      go_wp2_with fail;refine (fD T n cap s m E _ f wr HR.out b11 b12 (by omega) hn).mono ?_;rintro e w1 ⟨rfl,hr1,hp1,hk1⟩;rw[hG]at hr1 hp1;have ft:=hk.trans hk1;have hr2:=hr1;have hp2:=hp1;have fu:=ft;go_wp2_with fail;refine (AK.out mid E b G w1 Im Bp Bq hb hr2 (dE.congr HF.out.2.2.2.1 (fun k k1 k2=>hi2.1 k (.inr k1))) (dE.congr HF.out.2.2.2.2.1 (fun k k1 k2=>hi2.1 k (.inr (by omega)))) (Lo.congr HF.out.2.2.2.2.2.1 (fun k k1 k2=>hi2.1 k (.inr k1)))).mono ?_;rintro e w3 ⟨rfl,G3,hr3,oq,hi3,hs3,hk3⟩;have fw:=fu.trans hk3;have hp3:=oq.trans hp2;have eH:Hid (Merged T n a b f w _):=Merged.mk' hr3 hp3 (HF.out.2.2.2.2.2.2.2.2 G G3 hi2 hs2 hi3 hs3) fw;go_wp2
      go_end0
      exact⟨rfl,eH.out⟩
    ·obtain⟨b11,b12⟩:=b1;have hs2:=HF.out.2.2.2.2.2.2.1 b2;have hi2:=Rf.In.refl G a mid;have Br:Hid (¬_):=b3
     all_goals have n2:¬a<s\/(a<s/\¬s<mid):=by omega
     all_goals clear b2
     all_goals rcases n2 with n2|⟨n2,O5⟩
     all_goals have n3:¬mid<E\/(mid<E/\¬E<b):=by omega
     all_goals clear b3
     all_goals rcases n3 with n3|⟨n3,O4⟩
     all_goals
      go_wp2_with fail;refine (fD T n cap s m E _ f wr HR.out b11 b12 (by omega) hn).mono ?_;rintro e w1 ⟨rfl,hr1,hp1,hk1⟩;rw[hG]at hr1 hp1;have ft:=hk.trans hk1;have hr2:=hr1;have hp2:=hp1;have fu:=ft;have hr3:=hr2;have hp3:=hp2;have fw:=fu;have hs3:=dE.congr (HF.out.2.2.2.2.2.2.2.1 Br.out) (fun k k1 _=>hi2.1 k (.inr k1));have hi3:=Rf.In.refl G mid b;have eH:Hid (Merged T n a b f w _):=Merged.mk' hr3 hp3 (HF.out.2.2.2.2.2.2.2.2 G G hi2 hs2 hi3 hs3) fw;go_wp2
      go_end0
      exact⟨rfl,eH.out⟩
    ·have hr1:aW wr T n G:=by rw[lZ.out b1];exact HR.out
     have hp1:Rf.fL n G f:=by rw[lZ.out b1];exact Rf.fL.refl _ _
     have ft:=hk;obtain⟨Bn,Bo⟩:=b2;obtain⟨Bp,Bq⟩:=b3;have Bs:=b1;have n1:¬s<m\/(s<m/\¬m<E):=by omega
     clear b1 Bs;rcases n1 with n1|⟨n1,n1'⟩
     all_goals
      go_wp2_with fail;refine (AK.out a s mid G wr LL Bn Bo (by omega) hr1 HF.out.1 HF.out.2.1 HF.out.2.2.1).mono ?_;rintro e w2 ⟨rfl,G2,hr2,oo,hi2,hs2,hk2⟩;have fu:=ft.trans hk2;have hp2:=oo.trans hp1;go_wp2_with fail;refine (AK.out mid E b G2 w2 Im Bp Bq hb hr2 (dE.congr HF.out.2.2.2.1 (fun k k1 k2=>hi2.1 k (.inr k1))) (dE.congr HF.out.2.2.2.2.1 (fun k k1 k2=>hi2.1 k (.inr (by omega)))) (Lo.congr HF.out.2.2.2.2.2.1 (fun k k1 k2=>hi2.1 k (.inr k1)))).mono ?_;rintro e w3 ⟨rfl,G3,hr3,oq,hi3,hs3,hk3⟩;have fw:=fu.trans hk3;have hp3:=oq.trans hp2;have eH:Hid (Merged T n a b f w _):=Merged.mk' hr3 hp3 (HF.out.2.2.2.2.2.2.2.2 G2 G3 hi2 hs2 hi3 hs3) fw;go_wp2
      go_end0
      exact⟨rfl,eH.out⟩
    ·have hr1:aW wr T n G:=by rw[lZ.out b1];exact HR.out
     have hp1:Rf.fL n G f:=by rw[lZ.out b1];exact Rf.fL.refl _ _
     have ft:=hk;obtain⟨Bn,Bo⟩:=b2;have Br:Hid (¬_):=b3;have Bs:=b1;have n1:¬s<m\/(s<m/\¬m<E):=by omega
     clear b1 Bs;rcases n1 with n1|⟨n1,n1'⟩
     all_goals have n3:¬mid<E\/(mid<E/\¬E<b):=by omega
     all_goals clear b3
     all_goals rcases n3 with n3|⟨n3,O4⟩
     all_goals
      go_wp2_with fail;refine (AK.out a s mid G wr LL Bn Bo (by omega) hr1 HF.out.1 HF.out.2.1 HF.out.2.2.1).mono ?_;rintro e w2 ⟨rfl,G2,hr2,oo,hi2,hs2,hk2⟩;have fu:=ft.trans hk2;have hp2:=oo.trans hp1;have hr3:=hr2;have hp3:=hp2;have fw:=fu;have hs3:=dE.congr (HF.out.2.2.2.2.2.2.2.1 Br.out) (fun k k1 _=>hi2.1 k (.inr k1));have hi3:=Rf.In.refl G2 mid b;have eH:Hid (Merged T n a b f w _):=Merged.mk' hr3 hp3 (HF.out.2.2.2.2.2.2.2.2 G2 G2 hi2 hs2 hi3 hs3) fw;go_wp2
      go_end0
      exact⟨rfl,eH.out⟩
    ·have hr1:aW wr T n G:=by rw[lZ.out b1];exact HR.out
     have hp1:Rf.fL n G f:=by rw[lZ.out b1];exact Rf.fL.refl _ _
     have ft:=hk;have hs2:=HF.out.2.2.2.2.2.2.1 b2;have hi2:=Rf.In.refl G a mid;obtain⟨Bp,Bq⟩:=b3;have Bs:=b1;have n1:¬s<m\/(s<m/\¬m<E):=by omega
     clear b1 Bs;rcases n1 with n1|⟨n1,n1'⟩
     all_goals have n2:¬a<s\/(a<s/\¬s<mid):=by omega
     all_goals clear b2
     all_goals rcases n2 with n2|⟨n2,O5⟩
     all_goals
      have hr2:=hr1;have hp2:=hp1;have fu:=ft;go_wp2_with fail;refine (AK.out mid E b G wr Im Bp Bq hb hr2 (dE.congr HF.out.2.2.2.1 (fun k k1 k2=>hi2.1 k (.inr k1))) (dE.congr HF.out.2.2.2.2.1 (fun k k1 k2=>hi2.1 k (.inr (by omega)))) (Lo.congr HF.out.2.2.2.2.2.1 (fun k k1 k2=>hi2.1 k (.inr k1)))).mono ?_;rintro e w3 ⟨rfl,G3,hr3,oq,hi3,hs3,hk3⟩;have fw:=fu.trans hk3;have hp3:=oq.trans hp2;have eH:Hid (Merged T n a b f w _):=Merged.mk' hr3 hp3 (HF.out.2.2.2.2.2.2.2.2 G G3 hi2 hs2 hi3 hs3) fw;go_wp2
      go_end0
      exact⟨rfl,eH.out⟩
    ·have hr1:aW wr T n G:=by rw[lZ.out b1];exact HR.out
     have hp1:Rf.fL n G f:=by rw[lZ.out b1];exact Rf.fL.refl _ _
     have ft:=hk;have hs2:=HF.out.2.2.2.2.2.2.1 b2;have hi2:=Rf.In.refl G a mid;have Br:Hid (¬_):=b3;have Bs:=b1;have n1:¬s<m\/(s<m/\¬m<E):=by omega
     clear b1 Bs;rcases n1 with n1|⟨n1,n1'⟩
     all_goals have n2:¬a<s\/(a<s/\¬s<mid):=by omega
     all_goals clear b2
     all_goals rcases n2 with n2|⟨n2,O5⟩
     all_goals have n3:¬mid<E\/(mid<E/\¬E<b):=by omega
     all_goals clear b3
     all_goals rcases n3 with n3|⟨n3,O4⟩
     all_goals
      have hr2:=hr1;have hp2:=hp1;have fu:=ft;have hr3:=hr2;have hp3:=hp2;have fw:=fu;have hs3:=dE.congr (HF.out.2.2.2.2.2.2.2.1 Br.out) (fun k k1 _=>hi2.1 k (.inr k1));have hi3:=Rf.In.refl G mid b;have eH:Hid (Merged T n a b f w _):=Merged.mk' hr3 hp3 (HF.out.2.2.2.2.2.2.2.2 G G hi2 hs2 hi3 hs3) fw;go_wp2
      go_end0
      exact⟨rfl,eH.out⟩
end Go.Proofs.YtmfijackgekioaaGreatDoor
