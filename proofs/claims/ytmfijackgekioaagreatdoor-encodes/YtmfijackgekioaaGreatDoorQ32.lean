import Derived.Test.YtmfijackgekioaaGreatDoorQ29
set_option maxHeartbeats 4000000
set_option maxRecDepth 100000
namespace Go.Proofs.YtmfijackgekioaaGreatDoor
open Go.RowKit Go.Maps
theorem mO {w:World}{ao:Option Addr}{r:List Int}(h:Ints w ao r)(j:Nat)(hj:j<r.length):∃b off,ao=some ⟨b,off,none⟩/\w.cell? ⟨b,off+j,none⟩=some (.int .i64 (Pm.ap r j)):=by
 obtain⟨b,off,e,hc⟩:=h j hj;refine⟨b,off,e,?_⟩;rw[hc];unfold Pm.ap;rw[aaa,aai hj];rfl
theorem My (X:Int)(e:Nat)(hX:0<=X/\X<256):bits .and .i64 (X/2^e) 1=X/2^e%2:=by
 obtain⟨x,rfl⟩:=aaO hX.1;have e':((x:Int)/2^e)=((x/2^e:Nat):Int):=by push_cast;rfl
 have hy:x/2^e<256:=Nat.lt_of_le_of_lt (Nat.div_le_self _ _) (by omega);rw[e'];generalize x/2^e=y at *;have:=(Mu ⟨y,hy⟩).1;simp only at this;rw[this];omega
theorem ua (r:Nat->Int)(s:Nat):∀j,0<=Pm.kY r s j/\Pm.kY r s j<2^j
 | 0=>⟨abj _,by show (0:Int)<1;decide⟩
 | j+1=>by
  have ih:=ua r s j;rw[Pm.kY,Int.pow_succ];omega
theorem Mz (ao:Option Addr)(cap nr k D:Nat)(r:List Int)(w:World)(hi:Ints w ao r)(hr:r.length=nr)(gr:∀j,0<=Pm.ap r j/\Pm.ap r j<256)(hD:D=1\/D=2\/D=4\/D=8\/D=16)(hin:(D=16->2*k+1<nr)/\(D≠16->k*D/8<nr))(hk:k<=1000000)(hnr:nr<=1000000): Calls Tryz.prog 75 #[.slice ao nr cap,.int .i64 (k:Nat),.int .i64 (D:Nat)] w fun e w'=>e=.returned (.int .i64 (Pm.eu (Pm.ap r) D k))/\∃m,w'=w.drewN m:=by
 by_cases h16:D=16
 ·have h1:=hin.1 h16;have hv:Pm.eu (Pm.ap r) D k=256*Pm.ap r (2*k)+Pm.ap r (2*k+1):=by rw[Pm.eu,aaf h16]
  obtain⟨b,off,rfl,c1⟩:=mO hi (2*k) (by omega);obtain⟨b',off',e',c2⟩:=mO hi (2*k+1) (by omega);cases e';have g1:=gr (2*k);have g2:=gr (2*k+1);have HV:Hid (_):=hv;have d16:((D:Int)==16)=true:=by rw[h16];rfl
  generalize Pm.ap r (2*k)=X at *;generalize Pm.ap r (2*k+1)=Y at *;obtain⟨k2,hk2⟩:∃k2,k2=2*k:=⟨_,rfl⟩
  rw[<-hk2]at c1 c2 h1;have ek:(2:Int)*(k:Int)=(k2:Int):=by omega
  have hkm:(k2:Int)<(nr:Int):=by omega
  have hkn:(k2:Int)+1<(nr:Int):=by omega
  have kp0:(0:Int)<=(k2:Int)+1:=by omega
  have wk2:IntKind.i64.wrap (k2:Int)=(k2:Int):=aah _ (by omega);have wk3:IntKind.i64.wrap ((k2:Int)+1)=(k2:Int)+1:=aah _ (by omega);clear hk2 hv h16 gr hi hin
  go_enter Tryz.func75,Tryz.ntmps75
  go_wp2
  go_quiet (fail)
  go_wp2
  go_ret
  exact⟨aC (by rw[HV.out]),_,rfl⟩
 ·have Yq:D=1\/D=2\/D=4\/D=8:=by omega
  have h1:=hin.2 h16;have hv:=Pm.Fp (Pm.ap r) D k Yq;have d16:((D:Int)==16)=false:=by rw[aam];omega
  obtain⟨f,hf⟩:∃f,f=k*D:=⟨_,rfl⟩
  have hfd:f%8+D<=8:=by
   rw[hf];rcases Yq with rfl|rfl|rfl|rfl<;>omega
  have T6:f<=8000000:=by
   rw[hf];have:k*D<=1000000*8:=aaA hk (by omega);omega
  rw[<-hf]at hv h1;have ek:(k:Int)*(D:Int)=(f:Int):=by rw[hf];push_cast;rfl
  have wf:IntKind.i64.wrap (f:Int)=(f:Int):=aah _ (by omega);have HV:Hid (_):=hv;have HI:Hid (_):=hi;have D8:D<=8:=by omega
  clear hv hf hi hin h16 hD Yq
  go_enter Tryz.func75,Tryz.ntmps75
  go_wp2
  go_loop [8,9] (fun v ix=>∃j:Nat,j<=D/\ix=.int .i64 ((f+j:Nat):Int)/\v=.int .i64 (Pm.kY (Pm.ap r) f j)) (fun _ ix=>f+D-(intOf ix).toNat)
  case atStart=>exact⟨0,aaj _,rfl,rfl⟩
  case round =>
   obtain⟨j,hj,rfl,rfl⟩:=hrel;have hbr:=ua (Pm.ap r) f j
   have hp2:(2:Int)^j<=256:=by
    have h2:(2:Nat)^j<=2^8:=aa2 (by omega) (by omega);have e:((2:Int)^j)=((2^j:Nat):Int):=by push_cast;rfl
    rw[e];omega
   by_cases hlt:j<D
   ·obtain⟨b,off,hao,c1⟩:=mO HI.out ((f+j)/8) (by omega);subst hao;have g1:=gr ((f+j)/8);have HB:Hid (Pm.kY (Pm.ap r) f (j+1)=2*Pm.kY (Pm.ap r) f j+Pm.ap r ((f+j)/8)/2^(7-(f+j)%8)%2):=rfl;have ha:=My (Pm.ap r ((f+j)/8)) (7-(f+j)%8) g1;generalize Pm.kY (Pm.ap r) f j=V at *;generalize Pm.ap r ((f+j)/8)=X at *;obtain⟨i,hi⟩:∃i,i=f+j:=⟨_,rfl⟩
    obtain⟨q,hq⟩:∃q,q=(f+j)/8:=⟨_,rfl⟩
    obtain⟨e,he⟩:∃e,e=7-(f+j)%8:=⟨_,rfl⟩
    rw[<-hq]at c1;rw[<-he]at ha HB;have l1:((f+j:Nat):Int)<(f:Int)+(D:Int):=by omega
    have eq:((f+j:Nat):Int)/8=(q:Int):=by omega
    have ee:7-((f+j:Nat):Int)%8=(e:Int):=by omega
    have Yr:(q:Int)<(nr:Int):=by omega
    have wq:IntKind.i64.wrap (q:Int)=(q:Int):=aah _ (by omega);have we:IntKind.i64.wrap (e:Int)=(e:Int):=aah _ (by omega);have HX:Hid (0<=X/2^e%2/\X/2^e%2<2):=⟨Int.emod_nonneg _ (by decide),Int.emod_lt_of_pos _ (by decide)⟩
    have hx:=HX.out;obtain⟨Y,hY⟩:∃Y,Y=X/2^e%2:=⟨_,rfl⟩
    rw[<-hY]at ha HB hx;rw[<-hi]at l1 eq ee ⊢;have pH:Hid (i=f+j):=hi;have VD:j<=8:=by omega
    have hi9:i<=8000008:=by omega
    have hV:0<=V/\V<=256:=by omega
    clear hi hq he hY HX hbr hp2;go_wp2
    go_round
    case rel=>exact⟨j+1,by omega,by rw[show f+(j+1)=i+1 by have:=pH.out;omega];go_num,by rw[HB.out]⟩
    case measure=>simp[intOf];have:=pH.out;omega
   ·have Ub:j=D:=by omega
    subst Ub;have l1:¬((f+j:Nat):Int)<(f:Int)+(j:Int):=by omega
    go_wp2
    go_ret
    exact⟨aC (by rw[HV.out]),0,rfl⟩
theorem MA (W H:Nat)(p:Int)(w:World)(hW:1<=W/\W<=5000)(hH:1<=H/\H<=5000): Calls Tryz.prog 43 #[.int .i64 W,.int .i64 H,.int .i64 p] w fun e w'=>∃v1 v2,e=.returned (.tuple #[v1,v2])/\w'.ownsRow w.heap.size 3 1 v1 (Pm.nC p (min 8 H) W) (vals (Pm.fx p (min 8 H) W))/\w'.ownsRow w.heap.size 3 1 v2 (Pm.nR p (min 8 W) H) (vals (Pm.dH p (min 8 W) H))/\Below w.heap.size w w':=by
 obtain⟨i0,hi,hz0,hz1,hz2⟩:=aaX Tryz.info3;generalize hB:w.heap.size=B
 go_enter Tryz.func43,Tryz.ntmps43
 go_wp2
 go_loopw [8,10] (fun v i wr=>∃c:Nat,c<=W/\i=.int .i64 c/\wr.ownsRow B 3 1 v (Pm.nC p (min 8 H) c) (vals (Pm.fx p (min 8 H) c))/\Below B w wr) (fun _ i _=>W-(intOf i).toNat)
 case atStart=>exact⟨0,aaj _,rfl,aba _ _ _ _,aak _ _⟩
 case round =>
  obtain⟨c,hc,rfl,hown,hbel⟩:=hrel;have hcn:=Pm.vQ p (min 8 H) c;by_cases hlt:c<W
  ·go_wp2
   go_loop [11,12] (fun th i=>∃r:Nat,r<=min 8 H/\i=.int .i64 r/\th=.bool (Pm.cq p c r)) (fun _ i=>min 8 H-(intOf i).toNat)
   case atStart=>exact⟨0,aaj _,rfl,rfl⟩
   case round =>
    obtain⟨r,hr,rfl,rfl⟩:=hrel;by_cases hlr:r<8/\r<H
    ·have l1:=hlr.1;have l2:=hlr.2;have HT:Hid (Pm.cq p c (r+1)=(Pm.cq p c r||(Pm.pass c r==p))):=rfl;cases hth:Pm.cq p c r
     ·rw[hth]at HT;go_wp2_with (go_at_call 76;refine (qe c r _ (by omega) (by omega)).mono ?_;rintro e w' ⟨rfl,rfl⟩)
      go_round
      case rel=>exact⟨r+1,by omega,by go_num,by rw[HT.out];rfl⟩
      case measure=>simp[intOf];omega
     ·rw[hth]at HT;go_wp2_with (go_at_call 76;refine (qe c r _ (by omega) (by omega)).mono ?_;rintro e w' ⟨rfl,rfl⟩)
      go_round
      case rel=>exact⟨r+1,by omega,by go_num,by rw[HT.out];rfl⟩
      case measure=>simp[intOf];omega
    ·have xM:Hid (r=min 8 H):=by show _=_;omega
     have hx:8<=r\/(r<8/\H<=r):=by omega
     have HN:Hid (Pm.nC p (min 8 H) (c+1)=Pm.nC p (min 8 H) c+if Pm.cq p c (min 8 H) then 1 else 0):=rfl;have HC:Hid (Pm.fx p (min 8 H) (c+1)=Pm.fx p (min 8 H) c++if Pm.cq p c (min 8 H)=true then [(c:Int)] else []):=rfl;cases hth:Pm.cq p c r
     ·rw[<-xM.out,hth,xM.out]at HN HC;rcases hx with hx|⟨hx,hy⟩
      all_goals
       go_wp2
       go_roundw
       case rel=>exact⟨c+1,by omega,by go_num,by rw[HN.out,HC.out];simpa using hown,hbel⟩
       case measure=>simp[intOf];omega
     ·rw[<-xM.out,hth,xM.out]at HN HC;rcases hx with hx|⟨hx,hy⟩
      all_goals
       go_wp2_with (at_builtin;refine aax _ rfl _ _ 24 rfl B 3 i0 (.int .i64 0) 1 8 Tryz.underlying24 hi hz0 hz1 hz2 rfl (by decide) _ _ _ rfl (hown.alloc _) ⟨wr.heap.size,0,none⟩ 1 1 [.int .i64 c] rfl rfl (aa1 _ _ _) (by intro u hu;simp at hu;subst hu;rfl) (by unfold maxLen;omega) (by omega) (by have:=hbel.size;simp;omega) ?_;intro v' w2 hown' hgrow _)
       have R2:w2.ownsRow B 3 1 v' (Pm.nC p (min 8 H) (c+1)) (vals (Pm.fx p (min 8 H) (c+1)))/\Below B w w2 :=
        ⟨by rw[HN.out,HC.out];simpa[vals]using hown',(hbel.alloc (by have:=hbel.size;omega) _).grown hgrow (by have:=hbel.size;simp;omega) (fun b hb=>(hown.lt b hb).1)⟩
       clear hown' hgrow hown hbel;go_wp2
       go_roundw
       case rel=>exact⟨c+1,by omega,by go_num,R2.1,R2.2⟩
       case measure=>simp[intOf];omega
  ·have hcW:c=W:=by omega
   subst hcW;have La:Hid (_/\_):=⟨hown,hbel⟩
   obtain⟨NZ,c1,rfl⟩:=aD hown;generalize hWM:wr=wm at *;clear hown hbel hWM;go_wp2
   go_loopw [9,14] (fun v i wr=>∃r:Nat,r<=H/\i=.int .i64 r/\wr.ownsRow wm.heap.size 3 1 v (Pm.nR p (min 8 c) r) (vals (Pm.dH p (min 8 c) r))/\Below wm.heap.size wm wr) (fun _ i _=>H-(intOf i).toNat)
   case atStart=>exact⟨0,aaj _,rfl,aba _ _ _ _,aak _ _⟩
   case round =>
    obtain⟨r,hr,rfl,hown,hbel⟩:=hrel;have Pe:=Pm.vR p (min 8 c) r;by_cases hlt2:r<H
    ·go_wp2
     go_loop [15,16] (fun th i=>∃k:Nat,k<=min 8 c/\i=.int .i64 k/\th=.bool (Pm.ct p r k)) (fun _ i=>min 8 c-(intOf i).toNat)
     case atStart=>exact⟨0,aaj _,rfl,rfl⟩
     case round =>
      obtain⟨k,hk,rfl,rfl⟩:=hrel;by_cases hlr:k<8/\k<c
      ·have l1:=hlr.1;have l2:=hlr.2;have HT:Hid (Pm.ct p r (k+1)=(Pm.ct p r k||(Pm.pass k r==p))):=rfl;cases hth:Pm.ct p r k
       all_goals
        rw[hth]at HT;go_wp2_with (go_at_call 76;refine (qe k r _ (by omega) (by omega)).mono ?_;rintro e w' ⟨rfl,rfl⟩)
        go_round
        case rel=>exact⟨k+1,by omega,by go_num,by rw[HT.out];rfl⟩
        case measure=>simp[intOf];omega
      ·have xM:Hid (k=min 8 c):=by show _=_;omega
       have hx:8<=k\/(k<8/\c<=k):=by omega
       have HN:Hid (Pm.nR p (min 8 c) (r+1)=Pm.nR p (min 8 c) r+if Pm.ct p r (min 8 c) then 1 else 0):=rfl;have HC:Hid (Pm.dH p (min 8 c) (r+1)=Pm.dH p (min 8 c) r++if Pm.ct p r (min 8 c)=true then [(r:Int)] else []):=rfl;cases hth:Pm.ct p r k
       ·rw[<-xM.out,hth,xM.out]at HN HC;rcases hx with hx|⟨hx,hy⟩
        all_goals
         go_wp2
         go_roundw
         case rel=>exact⟨r+1,by omega,by go_num,by rw[HN.out,HC.out];simpa using hown,hbel⟩
         case measure=>simp[intOf];omega
       ·rw[<-xM.out,hth,xM.out]at HN HC;rcases hx with hx|⟨hx,hy⟩
        all_goals
         go_wp2_with (at_builtin;refine aax _ rfl _ _ 24 rfl wm.heap.size 3 i0 (.int .i64 0) 1 8 Tryz.underlying24 hi hz0 hz1 hz2 rfl (by decide) _ _ _ rfl (hown.alloc _) ⟨wr.heap.size,0,none⟩ 1 1 [.int .i64 r] rfl rfl (aa1 _ _ _) (by intro u hu;simp at hu;subst hu;rfl) (by unfold maxLen;omega) (by omega) (by have:=hbel.size;simp;omega) ?_;intro v' w2 hown' hgrow _)
         have R2:w2.ownsRow wm.heap.size 3 1 v' (Pm.nR p (min 8 c) (r+1)) (vals (Pm.dH p (min 8 c) (r+1)))/\Below wm.heap.size wm w2 :=
          ⟨by rw[HN.out,HC.out];simpa[vals]using hown',(hbel.alloc (by have:=hbel.size;omega) _).grown hgrow (by have:=hbel.size;simp;omega) (fun b hb=>(hown.lt b hb).1)⟩
         clear hown' hgrow hown hbel;go_wp2
         go_roundw
         case rel=>exact⟨r+1,by omega,by go_num,R2.1,R2.2⟩
         case measure=>simp[intOf];omega
    ·have XZ:r=H:=by omega
     subst XZ;obtain⟨KQ,c2,rfl⟩:=aD hown;obtain⟨ho1,hb1⟩:=La.out;have hBm:B<=wm.heap.size:=by have:=hb1.size;omega
     have HE:Hid (_/\_/\_):=⟨bK ho1 (fun g hg=>hbel.block g (ho1.lt g hg).2),yD hown hBm,hb1.trans (hbel.mono hBm)⟩
     clear hown hbel ho1 hb1 La;go_wp2
     go_ret2
     exact⟨_,_,rfl,HE.out.1,HE.out.2.1,HE.out.2.2⟩
inductive Jw (m:Pm.cD) (T:ByteArray) (on:Bool) (w:World):Ending->World->Prop
 | no {w'}:Pm.nJ m (ae T) on=none->Below w.heap.size w w'->Jw m T on w (.returned (.tuple #[.slice none 0 0,.int .i64 15])) w'
 | ok {w' l G}:Pm.nJ m (ae T) on=some l->aR w' G l->w.heap.size<=G->Below w.heap.size w w'->Jw m T on w (.returned (.tuple #[.slice (some ⟨G,0,none⟩) l.length l.length,.int .i64 0])) w'
structure pB (w:World) (B:Nat) (v:Value) (l:List Int):Prop where
 ex:∃ao cap,v=.slice ao l.length cap/\Ints w ao l/\∀a,ao=some a->l≠[]->B<=a.block/\a.block<w.heap.size
theorem pC {w:World}{base n:Nat}{v:Value}{zs:List Int}(h:w.ownsRow base 3 1 v n (vals zs)):pB w base v zs:=by
 obtain⟨ao,cap,e,hi,hl,ha⟩:=qj h;exact⟨ao,cap,by rw[e,hl],hi,ha⟩
theorem pB.kp {w w':World}{B G:Nat}{v:Value}{l:List Int}(h:pB w B v l)(k:Kp (·=G) w w')(hG:G<B):pB w' B v l:=by
 obtain⟨ao,cap,e,hi,ha⟩:=h.ex;refine⟨ao,cap,e,fun j hj=>?_,fun a ea hne=>⟨(ha a ea hne).1,aar (ha a ea hne).2 k.size⟩⟩;obtain⟨b,off,eb,hc⟩:=hi j hj;have hb:=ha ⟨b,off,none⟩ eb (ne_of_lt hj);exact⟨b,off,eb,(k.cell (p:=⟨b,off+j,none⟩) hb.2 (by dsimp only at hb ⊢;omega)).trans hc⟩
theorem pB.mono {w:World}{B B':Nat}{v:Value}{l:List Int}(h:pB w B v l)(hB:B'<=B):pB w B' v l:=by
 obtain⟨ao,cap,e,hi,ha⟩:=h.ex;exact⟨ao,cap,e,hi,fun a ea hne=>⟨aaz hB (ha a ea hne).1,(ha a ea hne).2⟩⟩
theorem pB.below {w w':World}{B:Nat}{v:Value}{l:List Int}(h:pB w B v l)(k:Below w.heap.size w w'):pB w' B v l:=by
 obtain⟨ao,cap,e,hi,ha⟩:=h.ex;exact⟨ao,cap,e,hi.below k (fun a ea hne=>(ha a ea hne).2),fun a ea hne=>⟨(ha a ea hne).1,aar (ha a ea hne).2 k.size⟩⟩
theorem nF (f lead:Nat)(a x y:Nat->Int):∀n,(∀i,i<n->x i=y i)->Pm.lq f lead a x n=Pm.lq f lead a y n
 | 0,_=>rfl
 | n+1,h=>by rw[Pm.lq,Pm.lq,nF f lead a x y n (fun i hi=>h i (by omega)),h n (by omega)]
structure Uc (m:Pm.cD) (T:ByteArray) (P:Pm.Ps) (o:Nat) (l:List Int) (G:Nat) (w2 wr:World) (av:Value) (j:Nat) (s:Pm.RS) (al:List Int):Prop where
 at_:Pm.fR m (ae T) P o l j=some s
 ah:pB wr (G+1) av al
 ab:Pm.ap al=s.above
 ls:aR wr G s.out
 kp:Kp (·=G) w2 wr
structure Ud (W H n D:Nat) (ps:Bool) (i:Nat) (pq:Int) (P:Pm.Ps) (C R size:Nat):Prop where
 Ue:Pm.fx pq (min 8 H) W=Pm.eI P.c0 P.cs C
 lines:Pm.dH pq (min 8 W) H=Pm.eI P.r0 P.rs R
 c:P.C=C
 r:P.R=R
 Ys:P.In W H
 sz:size=Pm.rowLen C (n*D)
theorem N4 (W H n D:Nat)(ps:Bool)(i:Nat)(hi:i<Pm.pn ps)(hp:0<Pm.nC (Pm.pq ps i) (min 8 H) W):Ud W H n D ps i (Pm.pq ps i) (Pm.ca ⟨W,H,n,D⟩ ps i) (Pm.nC (Pm.pq ps i) (min 8 H) W) (Pm.nR (Pm.pq ps i) (min 8 W) H) (Pm.rowLen (Pm.nC (Pm.pq ps i) (min 8 H) W) (n*D)):=by
 obtain⟨a1,a2⟩:=Pm.zI ⟨W,H,n,D⟩ ps i hi hp;obtain⟨b1,b2⟩:=Pm.Mn ⟨W,H,n,D⟩ ps i hi hp;refine⟨?_,?_,b1.symm,b2.symm,Pm.I8 _ _ _,rfl⟩
 ·rw[b1];exact a1
 ·rw[b2];exact a2
theorem Jx (W H n D:Nat)(kd:Int)(ps:Bool)(pv sv:Value)(T:ByteArray)(w:World)(hol:Pm.raw W H ((n*D:Nat):Int) ps=(T.size:Int))(_hT:T.size<=5000000)(hch:Pm.chan kd D=(n:Int))(hn:1<=n/\n<=4)(hW:1<=W/\W<=5000)(hH:1<=H/\H<=5000): Calls Tryz.prog 40 #[img W H kd D ps pv sv,.string T] w fun e w'=>Jw ⟨W,H,n,D⟩ T ps w e w':=by
 have hcs:=fun u=>qf kd D u;rw[hch]at hcs;have hdp:=nD kd D (by rw[hch];omega);have hld:=t7 W H n D hn hdp;obtain⟨N,hN⟩:∃N,N=W*H*n:=⟨_,rfl⟩
 have hNb:N<=100000000:=by
  rw[hN];have:W*H*n<=5000*5000*4:=aaA (aaA hW.2 hH.2) hn.2;omega
 obtain⟨A,hA⟩:∃A,A=W*H:=⟨_,rfl⟩
 have eA:(W:Int)*(H:Int)=(A:Int):=by rw[hA];push_cast;rfl
 have VN:A<=25000000:=by
  rw[hA];have:W*H<=5000*5000:=aaA hW.2 hH.2;omega
 have wA:IntKind.i64.wrap (A:Int)=(A:Int):=aah _ (by omega);have eN:(A:Int)*(n:Int)=(N:Int):=by rw[hN,hA];push_cast;rfl
 have wN:IntKind.i64.wrap (N:Int)=(N:Int):=aah _ (by omega);obtain⟨lead,hlead⟩:∃l,l=Pm.cD.lead ⟨W,H,n,D⟩:=⟨_,rfl⟩
 rw[<-hlead]at hld;obtain⟨bt,hbt⟩:∃bt,bt=n*D:=⟨_,rfl⟩
 have aaD:bt<=64:=by
  rw[hbt];have:n*D<=4*16:=aaA hn.2 (by omega);omega
 have ebt:(n:Int)*(D:Int)=(bt:Int):=by rw[hbt];push_cast;rfl
 have wbt:IntKind.i64.wrap (bt:Int)=(bt:Int):=aah _ (by omega);have eld:((bt:Int)+7)/8=(lead:Int):=by rw[hlead,hbt];unfold Pm.cD.lead Pm.cD.bits;push_cast;rfl
 obtain⟨Z,hZ⟩:∃Z:List Value,Z=List.replicate N (.int .i64 0):=⟨_,rfl⟩
 have hmk:=fun u=>PY N (by omega) Z hZ u;have HZ:Hid (Z=vals (List.replicate N 0)):=by show _=_;rw[hZ,aX]
 have Jy:=fun u=>tN ps u;have q:=bO w (.cells (aH W H kd D ps pv sv) 30) (.cells Z.toArray 3);have HQ:Hid (_):=q;have HP:Hid (N=W*H*n/\lead=Pm.cD.lead ⟨W,H,n,D⟩/\bt=n*D):=⟨hN,hlead,hbt⟩
 have HR:Hid (_):=hol;clear hN hA hZ q hlead hbt hol
 go_enter Tryz.func40,Tryz.ntmps40
 go_wp2_with fail;refine (hcs _).mono ?_;rintro e w' ⟨rfl,rfl⟩;go_wp2_with fail;refine (Jy _).mono ?_;rintro e w1 ⟨rfl,hb1,hs1,hc1⟩;simp only[aaC]at hb1 hs1 hc1;obtain⟨k0,q0,q1⟩:=HQ.out;have Jz:Below w.heap.size w w1:=k0.trans (hb1.mono (by omega));have m1:=(hb1.block w.heap.size (by omega)).trans q0;have g1:=(hb1.block (w.heap.size+1) (by omega)).trans q1;rw[HZ.out]at g1;have HW1:Hid (_/\_/\_):=⟨Jz,m1,g1⟩
 have hnp:Pm.pn ps<=7:=by cases ps<;>decide
 obtain⟨np,BZ⟩:∃np,np=Pm.pn ps:=⟨_,rfl⟩
 rw[<-BZ]at hc1 hnp ⊢;have FF:Hid (np=Pm.pn ps):=BZ;have Rc:Hid (_):=hc1;clear HQ k0 q0 q1 Jz m1 g1 hb1 hcs hmk HZ Jy BZ hc1;go_wp2
 go_loopw [1,10] (fun rv ix wr=>∃(i:Nat) (l:List Int),i<=np/\ix=.int .i64 i/\rv=.string (T.extract (Pm.fJ ⟨W,H,n,D⟩ ps i) T.size)/\Hid (Pm.jh ⟨W,H,n,D⟩ (ae T) ps i=some l)/\Hid (aR wr (w.heap.size+1) l)/\Kp (·=w.heap.size+1) w1 wr) (fun _ ix _=>np-(intOf ix).toNat)
 case atStart =>
  refine⟨0,List.replicate N 0,aaj _,rfl,?_,?_,HW1.out.2.2,Kp.refl _ _⟩
  ·rw[show Pm.fJ ⟨W,H,n,D⟩ ps 0=0 by unfold Pm.fJ;split;rfl;rw[abz]]
   congr 1
   apply ByteArray.ext;simp
  ·show some _=some _;rw[HP.out.1]
 case round =>
  obtain⟨i,l,hi,rfl,rfl,Uf,HL,hkp⟩:=hrel;by_cases hlt:i<np
  ·have hlt':(i:Int)<(np:Int):=by omega
   have hsz:=hkp.size;have mr:=(hkp.block w.heap.size (by omega) (by omega)).trans HW1.out.2.1;have cl:wr.cell? ⟨w.heap.size+1+1,i,none⟩=some (.int .i64 (Pm.pq ps i)):=(hkp.cell (p:=⟨w.heap.size+1+1,i,none⟩) hs1 (by dsimp only;omega)).trans (Rc.out i hlt);obtain⟨m0,m1,m2,m3,m4,m5,m6⟩:=aI mr;have hpt:=fun u=>MA W H (Pm.pq ps i) u hW hH;have Ug:Hid (_):=mr;have VW:Hid (_):=hkp;obtain⟨pq,hpq⟩:∃pq,pq=Pm.pq ps i:=⟨_,rfl⟩
   rw[<-hpq]at cl hpt;have N5:Hid (pq=Pm.pq ps i):=hpq;obtain⟨o,ho⟩:∃o,o=Pm.fJ ⟨W,H,n,D⟩ ps i:=⟨_,rfl⟩
   rw[<-ho];have HO:Hid (o=Pm.fJ ⟨W,H,n,D⟩ ps i):=ho;clear mr hkp hpq ho;go_wp2;have hS:wr.drew.cell? ⟨w.heap.size+1+1,i,none⟩=some (.int .i64 pq)/\wr.drew.cell? ⟨w.heap.size,0,none⟩=some (.int .i64 (W:Nat))/\wr.drew.cell? ⟨w.heap.size,1,none⟩=some (.int .i64 (H:Nat)):=⟨cl,m0,m1⟩
   refine aE (fun u=>u.cell? ⟨w.heap.size+1+1,i,none⟩=some (.int .i64 pq)/\u.cell? ⟨w.heap.size,0,none⟩=some (.int .i64 (W:Nat))/\u.cell? ⟨w.heap.size,1,none⟩=some (.int .i64 (H:Nat))) 99 ?_;refine am [0,1,2,3,4,5,6,7] ?_
   iterate 8 refine au hS ?_
   refine aj ?_;refine ai 8 fun K hK=>?_;go_simp;refine (hpt _).mono ?_;rintro e w2 ⟨v1,v2,rfl,ho1,ho2,b2⟩;have b2':Below wr.heap.size wr w2:=(aak _ wr).drew.trans b2;have hS2:w2.cell? ⟨w.heap.size+1+1,i,none⟩=some (.int .i64 pq)/\w2.cell? ⟨w.heap.size,0,none⟩=some (.int .i64 (W:Nat))/\w2.cell? ⟨w.heap.size,1,none⟩=some (.int .i64 (H:Nat)):=⟨(b2'.cell (p:=⟨w.heap.size+1+1,i,none⟩) (by dsimp only;omega)).trans cl,(b2'.cell (p:=⟨w.heap.size,0,none⟩) (by dsimp only;omega)).trans m0,(b2'.cell (p:=⟨w.heap.size,1,none⟩) (by dsimp only;omega)).trans m1⟩
   refine hK _ _ (fun _=>hS2) ?_;clear hK K hpt hS cl m0 m1 m2 m3 m4 m5 m6;have hwd:w.heap.size+1+1<=wr.drew.heap.size:=by show _<=wr.heap.size;omega
   have i1:=(pC ho1).mono hwd;have i2:=(pC ho2).mono hwd;clear hwd;obtain⟨NZ,cp1,e1,_⟩:=i1.ex;obtain⟨KQ,cp2,e2,_⟩:=i2.ex;have JA:Hid (_/\_/\_):=⟨i1,i2,b2'⟩
   rw[Pm.oB]at e1;rw[Pm.mC]at e2;clear ho1 ho2 b2 b2' i1 i2;subst e1 e2;refine am [9,10,11,12,13] ?_
   iterate 5 refine au hS2 ?_
   refine aj ?_;refine ar ?_;have Yt:=Pm.vQ pq (min 8 H) W;have hnR:=Pm.vR pq (min 8 W) H;have FG:=fun (hp:0<Pm.nC pq (min 8 H) W)=>N4 W H n D ps i (by rw[<-FF.out];exact hlt) (by rw[<-N5.out];exact hp);rw[<-N5.out]at FG
   have MC:Hid (Pm.jh ⟨W,H,n,D⟩ (ae T) ps (i+1)=if 0<Pm.nC pq (min 8 H) W then (Pm.fR ⟨W,H,n,D⟩ (ae T) (Pm.ca ⟨W,H,n,D⟩ ps i) o l (Pm.ca ⟨W,H,n,D⟩ ps i).R).map Pm.RS.out else some l):=by
    show (Pm.jh _ _ _ i).bind _=_;rw[Uf.out];show Pm.gq _ _ _ _ _=_;unfold Pm.gq;rw[<-N5.out,<-HO.out]
   have FH:Hid (Pm.fJ ⟨W,H,n,D⟩ ps (i+1)=o+if 0<Pm.nC pq (min 8 H) W then (Pm.ca ⟨W,H,n,D⟩ ps i).R*(1+Pm.rowLen (Pm.ca ⟨W,H,n,D⟩ ps i).C (n*D)) else 0):=by
    show _=_;rw[Pm.qc ⟨W,H,n,D⟩ ps i (by rw[<-FF.out];exact hlt) hW.1,<-N5.out,<-HO.out];rfl
   have RB:Hid (Pm.fJ ⟨W,H,n,D⟩ ps (i+1)<=T.size):=by
    show _<=_;have h1:=Pm.qd ⟨W,H,n,D⟩ ps hW.1 (i+1) (np-(i+1)) (by rw[<-FF.out];omega);rw[show i+1+(np-(i+1))=np by omega,FF.out]at h1;have h2:=Pm.tK ⟨W,H,n,D⟩ ps;have h3:Pm.raw W H ((Pm.cD.bits ⟨W,H,n,D⟩:Nat):Int) ps=(T.size:Int):=HR.out;rw[h3]at h2;omega
   generalize hPe:Pm.ca ⟨W,H,n,D⟩ ps i=P at *;obtain⟨hi1,hi2,b2⟩:=JA.out;have Im:=b2.size;have m2:=(b2.block w.heap.size (by omega)).trans Ug.out;obtain⟨y0,y1,y2,y3,y4,y5,y6⟩:=aI m2;have m9:Kp (·=w.heap.size+1) w1 w2:=VW.out.trans (Kp.aJ b2);have HL2:Hid (aR w2 (w.heap.size+1) l):=(b2.block _ (aab HL.out)).trans HL.out;obtain⟨C,hC⟩:∃C,C=Pm.nC pq (min 8 H) W:=⟨_,rfl⟩
   obtain⟨R,hR⟩:∃R,R=Pm.nR pq (min 8 W) H:=⟨_,rfl⟩
   rw[<-hC]at Yt MC FH FG ⊢;rw[<-hR]at hnR FG ⊢;obtain⟨cn,hcn⟩:∃cn,cn=C*n:=⟨_,rfl⟩
   have ecn:(C:Int)*(n:Int)=(cn:Int):=by rw[hcn];push_cast;rfl
   have Qb:cn<=20000:=by
    rw[hcn];have:C*n<=5000*4:=aaA (by omega) hn.2;omega
   have wcn:IntKind.i64.wrap (cn:Int)=(cn:Int):=aah _ (by omega);obtain⟨cd,hcd⟩:∃cd,cd=cn*D:=⟨_,rfl⟩
   have ecd:(cn:Int)*(D:Int)=(cd:Int):=by rw[hcd];push_cast;rfl
   have Yu:cd<=320000:=by
    rw[hcd];have:cn*D<=20000*16:=aaA Qb (by omega);omega
   have wcd:IntKind.i64.wrap (cd:Int)=(cd:Int):=aah _ (by omega);obtain⟨size,hsize⟩:∃size,size=(cd+7)/8:=⟨_,rfl⟩
   have Qc:((cd:Int)+7)/8=(size:Int):=by omega
   have PV:size<=40001:=by omega
   have hrl:Pm.rowLen C (n*D)=size:=by
    unfold Pm.rowLen;rw[hsize,hcd,hcn,aa0]
   have Ca:Hid (cn=C*n):=hcn;have Qd:Hid (_/\_/\_/\_):=⟨m2,m9,hi1,hi2⟩
   clear JA Ug VW HL m2 m9 hi1 hi2 b2 hS2 hcn hsz;by_cases hC0:C=0
   ·have hs0:size=0:=by
     have h0:cd=0:=by rw[hcd,Ca.out,hC0,abz,abz]
     omega
    have HF:Hid (_/\_/\_/\_):=⟨MC.out.trans (aae (by omega)),FH.out.trans (by rw[aae (by omega)]),HL2.out,Qd.out.2.1⟩
    have es0:((size:Int)==0)=true:=by rw[hs0];rfl
    clear MC FH FG hs0 hC hR hcd hsize hC0 hrl;go_wp2
    go_roundw
    case rel=>exact⟨i+1,l,by omega,by go_num,by rw[HF.out.2.1,abQ],HF.out.1,HF.out.2.2.1,HF.out.2.2.2⟩
    case measure=>simp[intOf];omega
   ·have N6:0<C:=by omega
    have Yv:1<=size:=by
     have h1:1*1<=cn:=by rw[Ca.out];exact aaA N6 hn.1
     have h2:1*1<=cd:=by rw[hcd];exact aaA h1 (by omega)
     omega
    have es0:((size:Int)==0)=false:=by rw[aam];omega
    have PK:=FG N6;rw[hrl]at PK;rw[aaf N6]at MC FH;have MD:Hid (_):=PK
    have JB:Hid (o+R*(1+size)<=T.size/\Pm.fJ ⟨W,H,n,D⟩ ps (i+1)=o+R*(1+size)):=by
     have h1:=FH.out;rw[PK.c,PK.r,hrl]at h1;have h2:=RB.out;rw[h1]at h2;exact⟨h2,h1⟩
    clear FG hC hR hcd hsize hrl PK FH RB hC0;go_wp2
    go_loopw [1,14,15] (fun rv av jx wr=>∃(j:Nat) (s:Pm.RS) (al:List Int),j<=R/\jx=.int .i64 j/\rv=.string (T.extract (o+j*(1+size)) T.size)/\Hid (Uc ⟨W,H,n,D⟩ T P o l (w.heap.size+1) w2 wr av j s al)) (fun _ _ jx _=>R-(intOf jx).toNat)
    case atStart =>
     refine⟨0,⟨fun _=>0,l⟩,[],aaj _,rfl,by rw[abz,abQ],⟨rfl,⟨none,0,rfl,fun j hj=>absurd hj (abY _),fun a e=>by cases e⟩,by funext i;rfl,HL2.out,Kp.refl _ _⟩⟩
    case round =>
     obtain⟨j,st,al,hj,rfl,rfl,RC⟩:=hrel;have Uh:Hid (_):=RC.out.at_;have Qe:Hid (_/\_):=⟨RC.out.ah,RC.out.ab⟩
     have NH:Hid (_):=RC.out.ls;have hkp:=RC.out.kp;clear RC;by_cases ub:j<R
     ·have N7:(j:Int)<(R:Int):=by omega
      have PK:=MD.out;have hlf:=Pm.oC _ _ _ _ _ Uf.out;have vX:=Pm.iO _ _ _ _ _ hlf.2 _ _ Uh.out;have hmb:Pm.rowLen P.C (Pm.cD.bits ⟨W,H,n,D⟩)=size:=by rw[PK.c];exact PK.sz.symm
      obtain⟨q,hq⟩:∃q,q=o+j*(1+size):=⟨_,rfl⟩
      have hqs:q+1+size<=T.size:=by
       have h1:=JB.out.1;have h2:(j+1)*(1+size)<=R*(1+size):=aaU _ ub;rw[abR]at h2;omega
      rw[<-hq];obtain⟨VX,Ui,aeq,Uj,Uk⟩:=Qe.out.1.ex;have hgr:∀i,0<=Pm.ap al i/\Pm.ap al i<256:=fun i=>by rw[Qe.out.2];exact vX.2.2 i
      have HNo:Hid (4<ae T q->Pm.jh ⟨W,H,n,D⟩ (ae T) ps (i+1)=none):=fun h4=>by
       have h0:Pm.fR ⟨W,H,n,D⟩ (ae T) P o l (j+1)=none:=by
        show (Pm.fR _ _ _ _ _ j).bind _=none;rw[Uh.out];show Pm.je _ _ _ _ _ _=none;unfold Pm.je;rw[hmb,<-hq,aaf h4]
       have h1:=Pm.tE _ _ _ _ _ (j+1) h0 (P.R-(j+1));rw[show j+1+(P.R-(j+1))=P.R by rw[PK.r];omega]at h1;rw[MC.out,h1];rfl
      have Yw:Hid (¬4<ae T q->Pm.fR ⟨W,H,n,D⟩ (ae T) P o l (j+1)=some ⟨Pm.ap (Pm.lq (ae T q) lead (Pm.ap al) (fun i=>((ae T (q+1+i):Nat):Int)) size),Pm.mA P W n j (Pm.eu (Pm.ap (Pm.lq (ae T q) lead (Pm.ap al) (fun i=>((ae T (q+1+i):Nat):Int)) size)) D) st.out (P.C*n)⟩):=fun h4=>by
       show (Pm.fR _ _ _ _ _ j).bind _=_;rw[Uh.out];show Pm.je _ _ _ _ _ _=_;unfold Pm.je;rw[hmb,<-hq,aae h4,Qe.out.2,HP.out.2.1]
      obtain⟨Rs,hRr⟩:∃Rs,Rs=T.extract q T.size:=⟨_,rfl⟩
      have hRs:Rs.size=T.size-q:=by rw[hRr];exact tail_size T q
      have hf0:ae Rs 0=ae T q:=by rw[hRr,qU _ _ _ (by omega)];rfl
      have Yx:0<Rs.size:=by omega
      have g0:=aY Rs 0 Yx;have hR0:(0:Int)<(Rs.size:Int):=by omega
      have adO:(1:Int)+(size:Int)<=(Rs.size:Int):=by omega
      have ws1:IntKind.i64.wrap (1+(size:Int))=1+(size:Int):=aah _ (by omega);have ws2:(0:Int)<=1+(size:Int):=by omega
      have ws3:(1:Int)<=1+(size:Int):=by omega
      have ws4:(1+(size:Int)).toNat=1+size:=by omega
      have Yy:=FB T q (1+size) (by omega);rw[<-hRr]at Yy;have hes:(Rs.extract 1 (1+size)).size=size:=by rw[aa7];omega
      have hun:∀f,Pm.lq f lead (Pm.ap al) (fun i=>((ae (Rs.extract 1 (1+size)) i:Nat):Int)) size=Pm.lq f lead (Pm.ap al) (fun i=>((ae T (q+1+i):Nat):Int)) size:=fun f=>nF _ _ _ _ _ _ (fun i hi=>by
       rw[iP Rs 1 (1+size) i (by omega) (by omega),hRr,qU _ _ _ (by omega)]
       congr 2
       omega)
      have Ul:=fun u hu (hz:∀b,VX=some b->al≠[]->b.block<u.heap.size)=>z9 (ae Rs 0) lead (Rs.extract 1 (1+size)) VX Ui al u hu hz hgr (by omega) (by omega) hld;rw[hes]at Ul;rw[hf0]at g0 Ul;obtain⟨f,hf⟩:∃f,f=ae T q:=⟨_,rfl⟩
      rw[<-hf]at g0 Ul HNo Yw;have fl:f<256:=by rw[hf];exact aZ _ _
      have wfl:IntKind.i64.wrap (f:Int)=(f:Int):=aah _ (by omega)
      have vO:Hid (Rs.extract (1+size) Rs.size=T.extract (o+(j+1)*(1+size)) T.size):=by
       show _=_;rw[Yy,hq,abR]
       congr 1
       omega
      rw[<-hRr];have HUN:Hid (_):=hun f;have hcr:=Ul wr.drew (show Ints wr.drew VX al from Uj) (fun b e hne=>(Uk b e hne).2);have HW:Hid (_/\_/\_/\_):=⟨hkp,NH.out,vX.1.trans hlf.1,Qe.out.1⟩
      subst aeq;clear Ul Uj Uk hkp vX hlf hmb hun hf hf0 hRr Yy hq hgr Qe PK hRs;go_wp2;refine aE (fun _=>True) 99 ?_;have hTr:True:=trivial;refine am [0,1,2,3,4,5,6,7,8] ?_
      iterate 9 refine au hTr ?_
      refine aj ?_;refine ai 9 fun K hK=>?_;go_simp;refine hcr.mono ?_;intro e w3 he;clear hcr;cases he with
      | no h4 b3 =>
       have hnone:=HNo.out h4
       have HD:Hid (Pm.nJ ⟨W,H,n,D⟩ (ae T) ps=none/\Below w.heap.size w w3):=by
        have h5:=Pm.tJ _ _ _ (i+1) hnone (np-(i+1));rw[show i+1+(np-(i+1))=np by omega,FF.out,Pm.zK _ _ _ hW.1]at h5;refine⟨h5,(HW1.out.1.trans (Qd.out.2.1.below (by have:=HW1.out.1.size;omega) (fun k _ e=>by omega))).trans ?_⟩;have hb3:Below wr.heap.size wr w3:=(aak _ wr).drew.trans b3;exact (HW.out.1.below (by have:=HW1.out.1.size;have:=Qd.out.2.1.size;omega) (fun k _ e=>by omega)).trans (hb3.mono (by have:=HW1.out.1.size;have:=Qd.out.2.1.size;have:=HW.out.1.size;omega))
       clear h4 b3 hnone;refine hK _ _ (fun _=>trivial) ?_;clear hK K;refine am [10,11,12,13,14] ?_
       iterate 5 refine au hTr ?_
       refine aj ?_;refine ar ?_;go_wp2;exact aal (v:=.tuple #[.slice none 0 0,.int .i64 15]) (by simp[results,Tryz.results40,go_sem]) rfl (.no HD.out.1 HD.out.2)
      | @ok _ v h4 k8 b3 =>
       have h4':¬4<f:=by omega
       have VY:Hid (_):=Yw.out h4';rw[HUN.out]at k8;have AP:Below wr.heap.size wr w3:=(aak _ wr).drew.trans b3;have i3:=pC k8;have VZ:=Pm.Dw f lead (Pm.ap al) (fun i=>((ae T (q+1+i):Nat):Int)) size;have i3r:=fun i=>Pm.o9 f lead (Pm.ap al) (fun i=>((ae T (q+1+i):Nat):Int)) size i;have szr:=HW.out.1.size;have z12:=Qd.out.2.1.size;generalize Pm.lq f lead (Pm.ap al) (fun i=>((ae T (q+1+i):Nat):Int)) size=r at *;obtain⟨Yn,xS,ev,Um,Qf⟩:=i3.ex;rw[VZ]at ev;have k23:Kp (·=w.heap.size+1) w2 w3:=HW.out.1.trans (Kp.aJ AP);have RD:Hid (_/\_/\_):=⟨k23,(AP.block _ (aab HW.out.2.1)).trans HW.out.2.1,(show pB w3 (w.heap.size+1+1) v r from ⟨Yn,xS,by rw[VZ];exact ev,Um,fun a e hne=>⟨by have h1:=(Qf a e hne).1;have h2:wr.drew.heap.size=wr.heap.size:=rfl;omega,(Qf a e hne).2⟩⟩)⟩
       clear Yw k8 b3 AP i3 k23 Um Qf;subst ev;refine hK _ _ (fun _=>trivial) ?_;clear hK K;refine am [10,11,12,13,14] ?_
       iterate 5 refine au hTr ?_
       refine aj ?_;refine ar ?_;go_wp2
       go_loopw [18] (fun kx wk=>∃k:Nat,k<=cn/\kx=.int .i64 k/\Hid (aR wk (w.heap.size+1) (Pm.mA P W n j (Pm.eu (Pm.ap r) D) st.out k))/\Kp (·=w.heap.size+1) w3 wk) (fun kx _=>cn-(intOf kx).toNat)
       case atStart=>exact⟨0,aaj _,rfl,RD.out.2.1,Kp.refl _ _⟩
       case round =>
        obtain⟨k,hk,rfl,V0,hkk⟩:=hrel;by_cases hltk:k<cn
        ·have aaK:(k:Int)<(cn:Int):=by omega
         have PK:=MD.out;obtain⟨m2,m9,hi1,hi2⟩:=Qd.out;have ME:Kp (·=w.heap.size+1) w2 wr:=RD.out.1.trans hkk;have mk:=(ME.block w.heap.size (aab m2) (by omega)).trans m2;have ic:=hi1.kp ME (by omega);have il:=hi2.kp ME (by omega);have ir:=RD.out.2.2.kp hkk (by omega);obtain⟨c1,cc1,ce,Un,Yz⟩:=ic.ex;obtain⟨l1,lc1,le,Uo,YA⟩:=il.ex;obtain⟨r1,rc1,re,Qg,YB⟩:=ir.ex;obtain⟨z0,z1,z2,z3,z4,z5,z6⟩:=aI mk;obtain⟨kq,hkq⟩:∃kq,kq=k/n:=⟨_,rfl⟩
         obtain⟨kr,hkr⟩:∃kr,kr=k%n:=⟨_,rfl⟩
         have Qh:kq<C:=by rw[hkq,Nat.div_lt_iff_lt_mul (by omega),<-Ca.out];exact hltk
         have adV:kr<n:=by rw[hkr];exact acj _ (by omega)
         have ekq:(k:Int)/(n:Int)=(kq:Int):=by rw[hkq];push_cast;rfl
         have ekr:(k:Int)%(n:Int)=(kr:Int):=by rw[hkr];push_cast;rfl
         have adY:Int.tdiv (k:Int) (n:Int)=(kq:Int):=by rw[Int.tdiv_eq_ediv_of_nonneg (by omega)];exact ekq
         have adZ:Int.tmod (k:Int) (n:Int)=(kr:Int):=by rw[Int.tmod_eq_emod_of_nonneg (by omega)];exact ekr
         have nz:((n:Int)==0)=false:=by rw[aam];omega
         have nz':¬(n:Int)=0:=by omega
         have nzn:n≠0:=by omega
         have hcl:(Pm.fx pq (min 8 H) W).length=C:=by rw[PK.Ue];simp[Pm.eI]
         have hll:(Pm.dH pq (min 8 W) H).length=R:=by rw[PK.lines];simp[Pm.eI]
         obtain⟨cb,co,ceq,DV⟩:=mO Un kq (by rw[hcl];exact Qh);obtain⟨lb,lo,leq,DW⟩:=mO Uo j (by rw[hll];exact ub);rw[PK.Ue,Pm.tL _ _ _ _ Qh]at DV;rw[PK.lines,Pm.tL _ _ _ _ ub]at DW;rw[hcl]at ce;rw[hll]at le;rw[VZ]at re;injection ce with ce1 _ ce3;injection le with le1 _ le3;injection re with re1 _ re3;have hidx:=Pm.Ps.BM PK.Ys (j:=j) (k:=k) (n:=n) (by rw[PK.r];exact ub) (by rw[PK.c,<-Ca.out];exact hltk);have MF:P.idx W n j k=((P.r0+j*P.rs)*W+(P.c0+kq*P.cs))*n+kr:=by unfold Pm.Ps.idx;rw[<-hkq,<-hkr]
         have hV1:P.r0+j*P.rs<H:=PK.Ys.row j (by rw[PK.r];exact ub);have hV2:P.c0+kq*P.cs<W:=PK.Ys.col kq (by rw[PK.c];exact Qh);have hsi:=Pm.xJ C n D k hdp (by rw[<-Ca.out];exact hltk);rw[<-PK.sz]at hsi;obtain⟨V1,Up⟩:∃V1,V1=P.r0+j*P.rs:=⟨_,rfl⟩
         obtain⟨V2,Uq⟩:∃V2,V2=P.c0+kq*P.cs:=⟨_,rfl⟩
         rw[<-Up]at DW MF hV1;rw[<-Uq]at DV MF hV2;obtain⟨B1,hB1⟩:∃B1,B1=V1*W:=⟨_,rfl⟩
         have eB1:(V1:Int)*(W:Int)=(B1:Int):=by rw[hB1];push_cast;rfl
         have bB1:B1<=25000000:=by
          rw[hB1];have:V1*W<=5000*5000:=aaA (by omega) hW.2;omega
         obtain⟨B2,hB2⟩:∃B2,B2=(B1+V2)*n:=⟨_,rfl⟩
         have eB2:((B1:Int)+(V2:Int))*(n:Int)=(B2:Int):=by rw[hB2];push_cast;rfl
         have bB2:B2<=200000000:=by
          rw[hB2];have:(B1+V2)*n<=25005000*4:=aaA (by omega) hn.2;omega
         obtain⟨ix,hix⟩:∃ix,ix=B2+kr:=⟨_,rfl⟩
         have Qi:P.idx W n j k=ix:=by rw[MF,hix,hB2,hB1]
         rw[Qi,<-HP.out.1]at hidx;have eix:(B2:Int)+(kr:Int)=(ix:Int):=by omega
         have wB1:IntKind.i64.wrap (B1:Int)=(B1:Int):=aah _ (by omega);have wBV:IntKind.i64.wrap ((B1:Int)+(V2:Int))=(B1:Int)+(V2:Int):=aah _ (by omega);have wB2:IntKind.i64.wrap (B2:Int)=(B2:Int):=aah _ (by omega);have wix:IntKind.i64.wrap (ix:Int)=(ix:Int):=aah _ (by omega);have wkq:IntKind.i64.wrap (kq:Int)=(kq:Int):=aah _ (by omega);have wkr:IntKind.i64.wrap (kr:Int)=(kr:Int):=aah _ (by omega);have fG:(ix:Int)<(N:Int):=by omega
         have lkq:(kq:Int)<(C:Int):=by omega
         have hLk:=V0.out;have hlen:(Pm.mA P W n j (Pm.eu (Pm.ap r) D) st.out k).length=N:=by rw[Pm.tD,HW.out.2.2.1,HP.out.1]
         obtain⟨old,gc⟩:∃x,wr.cell? ⟨w.heap.size+1,ix,none⟩=some (.int .i64 x):=⟨_,hLk.cell ix (by rw[hlen];exact hidx)⟩
         have gf:wr.frozen? ⟨w.heap.size+1,ix,none⟩=false:=aaE wr _ _ _ _ hLk;have hsa:=fun u hu=>Mz r1 rc1 size k D r u hu VZ i3r hdp hsi (by omega) (by omega)
         have JC:Hid (∀u:World,aR u (w.heap.size+1) (Pm.mA P W n j (Pm.eu (Pm.ap r) D) st.out k)->aR (u.setCell ⟨w.heap.size+1,ix,none⟩ (.int .i64 (Pm.eu (Pm.ap r) D k))) (w.heap.size+1) (Pm.mA P W n j (Pm.eu (Pm.ap r) D) st.out (k+1))):=fun u hu=>by
          show aR _ _ ((Pm.mA P W n j (Pm.eu (Pm.ap r) D) st.out k).set (P.idx W n j k) _);rw[Qi];exact hu.set ix _
         have SJ:Hid (_/\_):=⟨hLk,hkk⟩
         obtain⟨V,hV⟩:∃V,V=Pm.eu (Pm.ap r) D k:=⟨_,rfl⟩
         rw[<-hV]at hsa JC;have HRI:Hid (Ints wr r1 r):=Qg;have Qj:=hsa wr.drew (show Ints wr.drew r1 r from Qg);rw[<-re1,<-re3]at Qj;subst ceq leq;subst ce1 le1;clear ce3 le3 PK m2 m9 hi1 hi2 ME mk ic il ir Un Yz Uo YA Qg YB hcl hll MF hsi Up Uq hB1 hB2 hix Qi hLk hlen hkk V0 hV hkq hkr hsa z1 z2 z4 z5 z6 hidx re1 re3;go_wp2;have hS:wr.drew.cell? ⟨lb,lo+j,none⟩=some (.int .i64 (V1:Nat))/\wr.drew.cell? ⟨w.heap.size,0,none⟩=some (.int .i64 (W:Nat))/\wr.drew.cell? ⟨cb,co+kq,none⟩=some (.int .i64 (V2:Nat))/\wr.drew.cell? ⟨w.heap.size,3,none⟩=some (.int .i64 (D:Nat)):=⟨DW,z0,DV,z3⟩
         refine aE (fun u=>u.cell? ⟨lb,lo+j,none⟩=some (.int .i64 (V1:Nat))/\u.cell? ⟨w.heap.size,0,none⟩=some (.int .i64 (W:Nat))/\u.cell? ⟨cb,co+kq,none⟩=some (.int .i64 (V2:Nat))/\u.cell? ⟨w.heap.size,3,none⟩=some (.int .i64 (D:Nat))) 27 ?_;refine am [0,1,2,3,4,5,6,7,8,9,10,11,12,13,14,15,16,17,18,19,20,21,22,23,24] ?_
         iterate 25 refine au hS ?_
         refine aj ?_;refine ai 25 fun K hK=>?_;go_simp;refine Qj.mono ?_;rintro e v1 ⟨rfl,mm,hv1⟩;have hS2:v1.cell? ⟨lb,lo+j,none⟩=some (.int .i64 (V1:Nat))/\v1.cell? ⟨w.heap.size,0,none⟩=some (.int .i64 (W:Nat))/\v1.cell? ⟨cb,co+kq,none⟩=some (.int .i64 (V2:Nat))/\v1.cell? ⟨w.heap.size,3,none⟩=some (.int .i64 (D:Nat)):=by rw[hv1];exact hS
         have gc2:v1.cell? ⟨w.heap.size+1,ix,none⟩=some (.int .i64 old):=by rw[hv1];exact gc
         have gf2:v1.frozen? ⟨w.heap.size+1,ix,none⟩=false:=by rw[hv1];exact gf
         have HQ:Hid (_/\_):=⟨JC.out v1 (by rw[hv1];exact SJ.out.1),(show Kp (·=w.heap.size+1) w3 v1 by rw[hv1];exact SJ.out.2.drew.drewN mm).setCell (p:=⟨w.heap.size+1,ix,none⟩) (.inl rfl) (.int .i64 V)⟩
         clear hv1 Qj JC SJ gc gf;refine hK _ _ (fun _=>hS2) ?_;clear hK K;refine am [26] ?_
         iterate 1 refine au hS2 ?_
         refine aj ?_;refine ai 27 fun K hK=>?_;go_simp;refine hK _ _ (fun h=>absurd rfl h) ?_;clear hK K;refine ar ?_;clear hS hS2 gc2 gf2 DW DV z0 z3;go_wp2
         go_roundw
         case rel=>exact⟨k+1,by omega,by go_num,HQ.out.1,HQ.out.2⟩
         case measure=>simp[intOf];omega
        ·have hke:k=cn:=by omega
         have hnlt:¬(k:Int)<(cn:Int):=by omega
         have HF:Hid (Uc ⟨W,H,n,D⟩ T P o l (w.heap.size+1) w2 wr (.slice Yn size xS) (j+1) ⟨Pm.ap r,Pm.mA P W n j (Pm.eu (Pm.ap r) D) st.out cn⟩ r):=by
          refine⟨?_,RD.out.2.2.kp hkk (by omega),rfl,?_,RD.out.1.trans hkk⟩
          ·rw[VY.out,MD.out.c,<-Ca.out]
          ·have:=V0.out;rw[hke]at this;exact this
         clear V0 hkk RD VY hke;go_wp2
         go_roundw
         case rel =>
          refine⟨_,_,_,_,_,?_,rfl,rfl,rfl,rfl,rfl⟩;exact⟨j+1,by omega,by push_cast;rfl,by rw[vO.out],_,_,HF⟩
         case measure=>simp[intOf];omega
     ·have Ub:j=R:=by omega
      subst Ub
      have HF:Hid (Pm.jh ⟨W,H,n,D⟩ (ae T) ps (i+1)=some st.out/\aR wr (w.heap.size+1) st.out/\Kp (·=w.heap.size+1) w1 wr):=by
       refine⟨?_,NH.out,Qd.out.2.1.trans hkp⟩;rw[MC.out,MD.out.r,Uh.out];rfl
      obtain⟨VX,Ui,aeq,_⟩:=Qe.out.1.ex;subst aeq;have hnlt:¬(j:Int)<(j:Int):=by omega
      clear Qe NH hkp Uh MC;go_wp2
      go_roundw
      case rel=>exact⟨i+1,st.out,by omega,by go_num,by rw[JB.out.2],HF.out.1,HF.out.2.1,HF.out.2.2⟩
      case measure=>simp[intOf];omega
  ·have hie:i=np:=by omega
   subst hie;have hfl:=(Pm.oC _ _ _ _ _ Uf.out).1;have hlN:l.length=N:=by rw[hfl,HP.out.1]
   have HF:Hid (Pm.nJ ⟨W,H,n,D⟩ (ae T) ps=some l/\aR wr (w.heap.size+1) l/\Below w.heap.size w wr):=by
    refine⟨?_,HL.out,HW1.out.1.trans (hkp.below HW1.out.1.size (fun k _ e=>by omega))⟩;have:=Uf.out;rw[FF.out,Pm.zK _ _ _ hW.1]at this;exact this
   have K9:Hid (_):=hlN;have hnlt:¬(i:Int)<(i:Int):=by omega
   clear Uf HL hkp hfl hlN;go_wp2;refine aal (v:=.tuple #[.slice (some ⟨w.heap.size+1,0,none⟩) l.length l.length,.int .i64 0]) (by rw[K9.out];simp[results,Tryz.results40,go_sem]) rfl (.ok HF.out.1 HF.out.2.1 (by omega) HF.out.2.2)
theorem rI {w w':World}{m k:Nat}{o:Obj}(h:w.heap[k]?=some o)(e:w'=w.drewN m):w'.heap[k]?=some o:=by rw[e];exact h
theorem v9 (ao bo:Option Addr)(c1 c2:Nat)(l:List Int)(w:World)(h1:Ints w ao l)(h2:Ints w bo l)(hl:l.length<=1000000000): Calls Tryz.prog 41 #[.slice ao l.length c1,.slice bo l.length c2] w fun e w'=>e=.returned (.bool true)/\∃m,w'=w.drewN m:=by
 have HI:Hid (_/\_):=⟨h1,h2⟩
 have hne:((l.length:Int) != (l.length:Int))=false:=by simp
 clear h1 h2
 go_enter Tryz.func41,Tryz.ntmps41
 go_wp2
 go_loopw [5] (fun ix wr=>∃k m:Nat,k<=l.length/\ix=.int .i64 k/\wr=w.drewN m) (fun ix _=>l.length-(intOf ix).toNat)
 case atStart=>exact⟨0,0,aaj _,rfl,rfl⟩
 case round =>
  obtain⟨k,m,hk,rfl,hwr⟩:=hrel;by_cases hlt:k<l.length
  ·have hlt':(k:Int)<(l.length:Int):=by omega
   obtain⟨b1,o1,e1,g1⟩:=HI.out.1 k hlt;obtain⟨b2,o2,e2,g2⟩:=HI.out.2 k hlt;obtain⟨x,hx⟩:∃x:Int,x=l[k]:=⟨_,rfl⟩
   rw[<-hx]at g1 g2;have g1':wr.cell? ⟨b1,o1+k,none⟩=some (.int .i64 x):=by rw[hwr];exact g1
   have g2':wr.cell? ⟨b2,o2+k,none⟩=some (.int .i64 x):=by rw[hwr];exact g2
   have GI:Hid (_):=hwr;clear hx g1 g2 hwr;subst e1 e2;go_wp2;have hS:wr.drew.cell? ⟨b1,o1+k,none⟩=some (.int .i64 x)/\wr.drew.cell? ⟨b2,o2+k,none⟩=some (.int .i64 x):=⟨g1',g2'⟩
   refine aE (fun u=>u.cell? ⟨b1,o1+k,none⟩=some (.int .i64 x)/\u.cell? ⟨b2,o2+k,none⟩=some (.int .i64 x)) 99 ?_;refine am [0,1,2,3,4,5,6,7,8] ?_
   iterate 9 refine au hS ?_
   refine aj ?_;refine ar ?_;go_wp2
   go_roundw
   case rel=>exact⟨k+1,m+1,by omega,by go_num,by rw[GI.out];simp⟩
   case measure=>simp[intOf];omega
  ·have hnlt:¬(k:Int)<(l.length:Int):=by omega
   have GI:Hid (_):=hwr;clear hwr;go_wp2
   go_ret
   exact⟨rfl,m,GI.out⟩
theorem Ur (wd ht kd dp:Int)(ps:Bool)(pa pb sa sb:Option Addr)(pc pd sc sd:Nat)(pl sl:List Int)(w:World)(hp1:Ints w pa pl)(hp2:Ints w pb pl)(hs1:Ints w sa sl)(hs2:Ints w sb sl)(hb1:∀a,pa=some a->pl≠[]->a.block<w.heap.size)(hb2:∀a,pb=some a->pl≠[]->a.block<w.heap.size)(hb3:∀a,sa=some a->sl≠[]->a.block<w.heap.size)(hb4:∀a,sb=some a->sl≠[]->a.block<w.heap.size)(hl1:pl.length<=1000000000)(hl2:sl.length<=1000000000): Calls Tryz.prog 13 #[img wd ht kd dp ps (.slice pa pl.length pc) (.slice sa sl.length sc),img wd ht kd dp ps (.slice pb pl.length pd) (.slice sb sl.length sd)] w fun e w'=>e=.returned (.bool true)/\Below w.heap.size w w':=by
 obtain⟨k0,q0,q1⟩:=bO w (.cells #[.int .i64 wd,.int .i64 ht,.int .i64 kd,.int .i64 dp,.bool ps,.slice pa pl.length pc,.slice sa sl.length sc] 30) (.cells #[.int .i64 wd,.int .i64 ht,.int .i64 kd,.int .i64 dp,.bool ps,.slice pb pl.length pd,.slice sb sl.length sd] 30);have hA:=v9 pa pb pc pd pl _ (hp1.below k0 hb1) (hp2.below k0 hb2) hl1;have i3:=hs1.below k0 hb3;have i4:=hs2.below k0 hb4;have HQ:Hid (_/\_/\_/\_/\_):=⟨k0,q0,q1,i3,i4⟩
 clear hp1 hp2 hs1 hs2 hb1 hb2 hb3 hb4 k0 q0 q1 i3 i4
 go_enter Tryz.func13,Tryz.ntmps13
 go_wp2_with fail;refine hA.mono ?_;rintro e w1 ⟨rfl,m1,hw1⟩;obtain⟨k0,q0,q1,i3,i4⟩:=HQ.out;have pI:=rI q0 hw1;have q1':=rI q1 hw1;have k1:Below w.heap.size w w1:=by rw[hw1];exact aap k0 m1
 have hB:=v9 sa sb sc sd sl w1 (by rw[hw1];exact i3) (by rw[hw1];exact i4) hl2;obtain⟨y0,y1,y2,y3,y4,y5,y6⟩:=aI pI;obtain⟨z0,z1,z2,z3,z4,z5,z6⟩:=aI q1';have N8:Hid (_/\_/\_):=⟨k1,pI,q1'⟩
 clear k0 q0 q1 i3 i4 pI q1' k1 hw1 HQ hA;go_wp2_with fail;refine hB.mono ?_;rintro e w2 ⟨rfl,m2,hw2⟩;obtain⟨k1,pI,q1'⟩:=N8.out;have Us:=rI pI hw2;have Ut:=rI q1' hw2;have k2:Below w.heap.size w w2:=by rw[hw2];exact aap k1 m2
 clear y0 y1 y2 y3 y4 y5 y6 z0 z1 z2 z3 z4 z5 z6;obtain⟨y0,y1,y2,y3,y4,y5,y6⟩:=aI Us;obtain⟨z0,z1,z2,z3,z4,z5,z6⟩:=aI Ut;have KL:Hid (_):=k2;have t1:(wd==wd)=true:=by simp
 clear k1 pI q1' Us Ut k2 hw2 N8 hB;go_wp2
 go_ret
 exact⟨rfl,KL.out⟩
end Go.Proofs.YtmfijackgekioaaGreatDoor
