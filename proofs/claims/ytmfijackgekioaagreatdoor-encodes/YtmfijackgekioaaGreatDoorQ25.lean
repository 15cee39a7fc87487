import Derived.Test.YtmfijackgekioaaGreatDoorQ24
import Derived.Deep.RegionHeld3
import Derived.Test.YtmfijackgekioaaGreatDoorCards
import Derived.Test.YtmfijackgekioaaGreatDoorTie
import Derived.ProofKit
import Derived.OpenShut
import Derived.Deep.DeepHandedRow
import Derived.Lib.LaidTab
import Derived.Lib.SmallJoins
import Derived.SizedLaws
set_option maxHeartbeats 1000000
set_option maxRecDepth 100000
namespace Go.Proofs.YtmfijackgekioaaGreatDoor
section
open Go.RowKit
theorem NY (wd ht kd dp:Int)(ps:Bool)(pv sv:Value)(w:World)(tt:TypeId)(fr:Nat×Nat)(hT:Hid (w.heap[0]?=some (.cells dL tt fr)))(hwd:1<=wd/\wd<=5000)(hht:1<=ht/\ht<=5000)(hch:Pm.chan kd dp≠0): Calls Tryz.prog 56 #[img wd ht kd dp ps pv sv] w fun e w'=>e=.returned (.int .i64 (Pm.raw wd ht (Pm.chan kd dp*dp) ps))/\Below w.heap.size w w':=by
 have m0:=ak w (.cells #[.int .i64 wd,.int .i64 ht,.int .i64 kd,.int .i64 dp,.bool ps,pv,sv] 30);have q0:=aw m0 (.cells #[.int .i64 0] 3);have q1:=ak (w.alloc (.cells #[.int .i64 wd,.int .i64 ht,.int .i64 kd,.int .i64 dp,.bool ps,pv,sv] 30)) (.cells #[.int .i64 0] 3);rw[aaC]at q1;have k0:Below w.heap.size w ((w.alloc (.cells #[.int .i64 wd,.int .i64 ht,.int .i64 kd,.int .i64 dp,.bool ps,pv,sv] 30)).alloc (.cells #[.int .i64 0] 3)):=((aak _ _).alloc (aad _) _).alloc (by simp) _;have t0:Hid (((w.alloc (.cells #[.int .i64 wd,.int .i64 ht,.int .i64 kd,.int .i64 dp,.bool ps,pv,sv] 30)).alloc (.cells #[.int .i64 0] 3)).heap[0]?=some (.cells dL tt fr)):=aw (aw hT.out _) _;have HQ:Hid (((w.alloc (.cells #[.int .i64 wd,.int .i64 ht,.int .i64 kd,.int .i64 dp,.bool ps,pv,sv] 30)).alloc (.cells #[.int .i64 0] 3)).heap[w.heap.size]?=some (.cells #[.int .i64 wd,.int .i64 ht,.int .i64 kd,.int .i64 dp,.bool ps,pv,sv] 30 (0,0))/\((w.alloc (.cells #[.int .i64 wd,.int .i64 ht,.int .i64 kd,.int .i64 dp,.bool ps,pv,sv] 30)).alloc (.cells #[.int .i64 0] 3)).heap[w.heap.size+1]?=some (.cells #[.int .i64 0] 3 (0,0))):=⟨q0,q1⟩
 clear m0 q0 q1;cases ps
 ·go_enter Tryz.func56,Tryz.ntmps56
  go_wp2_with fail;refine (Fw wd ht kd dp pv sv w.heap.size (Pm.chan kd dp*dp) _ HQ.out.1 HQ.out.2 hwd hht hch rfl).mono ?_;rintro e w1 ⟨rfl,q1,q2⟩;have q3:=cell_of_one q1;have q4:Below w.heap.size w w1:=k0.trans (q2.below k0.size (fun k _ e=>by omega));clear q1 q2;go_wp2
  go_ret
  exact⟨rfl,q4⟩
 ·go_enter Tryz.func56,Tryz.ntmps56
  go_wp2_with fail;refine (BO wd ht kd dp pv sv w.heap.size (Pm.chan kd dp*dp) _ tt fr t0.out HQ.out.1 HQ.out.2 hwd hht hch rfl).mono ?_;rintro e w1 ⟨rfl,q1,q2⟩;have q3:=cell_of_one q1;have q4:Below w.heap.size w w1:=k0.trans (q2.below k0.size (fun k _ e=>by omega));clear q1 q2;go_wp2
  go_ret
  exact⟨rfl,q4⟩
def Pm.check (wd ht kd dp:Int)(ps:Bool)(pz sz:List Int):Int :=
 if Pm.chan kd dp=0 then 1
 else if ¬(Pm.et wd=true/\Pm.et ht=true) then 2
 else if 4194304<Pm.raw wd ht (Pm.chan kd dp*dp) ps then 2
 else if Pm.iN kd (Pm.two dp) pz=false then 3
 else if Pm.mo wd ht kd (Pm.chan kd dp) (Pm.two dp) pz.length sz=false then 4
 else 0
theorem qg {W w1:World}(hb:Below W.heap.size W w1):(∀b o,b<W.heap.size->w1.cell? ⟨b,o,none⟩=W.cell? ⟨b,o,none⟩)/\(∀b o,b<W.heap.size->w1.frozen? ⟨b,o,none⟩=W.frozen? ⟨b,o,none⟩) :=
 ⟨fun b o h=>hb.cell (p:=⟨b,o,none⟩) h,fun b o h=>hb.frozen (p:=⟨b,o,none⟩) h⟩
structure tM (w:World) (pa:Option Addr) (pz:List Int) (sa:Option Addr) (sz:List Int) (tt:TypeId) (fr:Nat×Nat):Prop where
 tab:w.heap[0]?=some (.cells dL tt fr)
 hp:Ints w pa pz
 hpa:∀a,pa=some a->pz≠[]->a.block<w.heap.size
 hpm:pz.length<=maxLen
 hs:Ints w sa sz
 hsa:∀a,sa=some a->sz≠[]->a.block<w.heap.size
 hsm:sz.length<=maxLen
theorem tM.later {w w':World}{pa:Option Addr}{pz:List Int}{sa:Option Addr}{sz:List Int}{tt:TypeId}{fr:Nat×Nat}(h:tM w pa pz sa sz tt fr)(hb:Below w.heap.size w w'):tM w' pa pz sa sz tt fr :=
 ⟨(hb.block _ (aab h.tab)).trans h.tab,h.hp.below hb h.hpa,fun a e e2=>aar (h.hpa a e e2) hb.size,h.hpm,h.hs.below hb h.hsa,fun a e e2=>aar (h.hsa a e e2) hb.size,h.hsm⟩
theorem Mq (wd ht kd dp:Int)(ps:Bool)(pa:Option Addr)(pc:Nat)(pz:List Int)(sa:Option Addr)(sc:Nat)(sz:List Int)(w:World)(tt:TypeId)(fr:Nat×Nat)(hl:tM w pa pz sa sz tt fr): Calls Tryz.prog 26 #[img wd ht kd dp ps (.slice pa pz.length pc) (.slice sa sz.length sc)] w fun e w'=>e=.returned (.int .i64 (Pm.check wd ht kd dp ps pz sz))/\Below w.heap.size w w':=by
 by_cases hch:Pm.chan kd dp=0
 ·have hch':(Pm.chan kd dp==0)=true:=abs.2 hch
  go_enter Tryz.func26,Tryz.ntmps26
  go_wp2_with (go_at_call 54;refine (oD _ _ _).mono ?_;rintro e w' ⟨rfl,rfl⟩)
  go_ret
  exact⟨aC (by rw[Pm.check,aaf hch]),(aak _ _).alloc (aad _) _⟩
 ·have hch':(Pm.chan kd dp==0)=false:=aam.2 hch;have hd:=Pm.bp kd dp hch
  go_enter Tryz.func26,Tryz.ntmps26
  go_wp2_with fail;refine (oD _ _ _).mono ?_;rintro e w' ⟨rfl,rfl⟩;go_wp2_with fail;refine (I9 _ _).mono ?_;rintro e w' ⟨rfl,rfl⟩;cases s1:Pm.et wd
  ·go_wp2_with fail
   go_ret
   exact⟨aC (by rw[Pm.check,aae hch,aaf (by simp[s1])]),(aak _ _).alloc (aad _) _⟩
  ·go_wp2_with fail;refine (I9 _ _).mono ?_;rintro e w' ⟨rfl,rfl⟩;cases s2:Pm.et ht
   ·go_wp2_with fail
    go_ret
    exact⟨aC (by rw[Pm.check,aae hch,aaf (by simp[s2])]),(aak _ _).alloc (aad _) _⟩
   ·have hwd:=(Pm.dQ wd).1 s1;have hht:=(Pm.dQ ht).1 s2;have HS:Hid (Pm.et wd=true/\Pm.et ht=true):=⟨s1,s2⟩
    clear s1 s2;have l1:=hl.later ((aak _ w).alloc (aad _) (.cells #[.int .i64 wd,.int .i64 ht,.int .i64 kd,.int .i64 dp,.bool ps,.slice pa pz.length pc,.slice sa sz.length sc] 30));go_wp2_with fail;refine (NY wd ht kd dp ps _ _ _ tt fr l1.tab hwd hht hch).mono ?_;rintro e w1 ⟨rfl,hb1⟩;have l2:=l1.later hb1;obtain⟨hc1,hf1⟩:=qg hb1;by_cases hr:4194304<Pm.raw wd ht (Pm.chan kd dp*dp) ps
    ·go_wp2_with fail
     go_ret
     exact⟨aC (by rw[Pm.check,aae hch,aae (by simp[HS.out]),aaf hr]),((aak _ _).alloc (aad _) _).trans (hb1.mono (by simp))⟩
    ·go_wp2_with fail;refine (Fu wd ht kd dp ps pa pc pz _ _ hd l2.hpm l2.hp l2.hpa).mono ?_;rintro e w2 ⟨rfl,hb2⟩;have l3:=l2.later hb2;have hb2':=hb1.trans (hb2.mono hb1.size);obtain⟨hc2,hf2⟩:=qg hb2';clear hc1 hf1 hb1 hb2 l1 l2;cases s3:Pm.iN kd (Pm.two dp) pz
     ·go_wp2_with fail
      go_ret
      exact⟨aC (by rw[Pm.check,aae hch,aae (by simp[HS.out]),aae (acs.2 hr),aaf s3]),((aak _ _).alloc (aad _) _).trans (hb2'.mono (by simp))⟩
     ·have H3:Hid (Pm.iN kd (Pm.two dp) pz=true):=s3;clear s3;go_wp2_with fail;refine (Fv wd ht kd dp ps pa pc pz.length sa sc sz _ hd hwd hht l3.hpm l3.hsm l3.hs l3.hsa).mono ?_;rintro e w3 ⟨rfl,hb3⟩;have TA:=hb2'.trans (hb3.mono hb2'.size);clear hb2' hb3 hc2 hf2 l3;cases s4:Pm.mo wd ht kd (Pm.chan kd dp) (Pm.two dp) pz.length sz
      ·go_wp2_with fail
       go_ret
       exact⟨aC (by rw[Pm.check,aae hch,aae (by simp[HS.out]),aae (acs.2 hr),aae (by simp[H3.out]),aaf s4]),((aak _ _).alloc (aad _) _).trans (TA.mono (by simp))⟩
      ·go_wp2_with fail
       go_ret
       exact⟨aC (by rw[Pm.check,aae hch,aae (by simp[HS.out]),aae (acs.2 hr),aae (by simp[H3.out]),aae (by simp[s4])]),((aak _ _).alloc (aad _) _).trans (TA.mono (by simp))⟩
theorem zO (W H:Nat)(p:Int)(w:World)(hW:1<=W/\W<=5000)(hH:1<=H/\H<=5000): Calls Tryz.prog 43 #[.int .i64 W,.int .i64 H,.int .i64 p] w fun e w'=>∃NZ c1 KQ c2,e=.returned (.tuple #[.slice NZ (Pm.nC p (min 8 H) W) c1,.slice KQ (Pm.nR p (min 8 W) H) c2])/\Below w.heap.size w w':=by
 obtain⟨i0,hi,hz0,hz1,hz2⟩:=aaX Tryz.info3;generalize hB:w.heap.size=B
 go_enter Tryz.func43,Tryz.ntmps43
 go_wp2
 go_loopw [8,10] (fun v i wr=>∃c:Nat,c<=W/\i=.int .i64 c/\(∃xs,wr.ownsRow B 3 1 v (Pm.nC p (min 8 H) c) xs)/\Below B w wr) (fun _ i _=>W-(intOf i).toNat)
 case atStart=>exact⟨0,aaj _,rfl,⟨[],aba _ _ _ _⟩,aak _ _⟩
 case round =>
  obtain⟨c,hc,rfl,⟨xs,hown⟩,hbel⟩:=hrel;have hcn:=Pm.vQ p (min 8 H) c;by_cases hlt:c<W
  ·go_wp2
   go_loop [11,12] (fun th i=>∃r:Nat,r<=min 8 H/\i=.int .i64 r/\th=.bool (Pm.cq p c r)) (fun _ i=>min 8 H-(intOf i).toNat)
   case atStart=>exact⟨0,aaj _,rfl,rfl⟩
   case round =>
    obtain⟨r,hr,rfl,rfl⟩:=hrel;by_cases hlr:r<8/\r<H
    ·have l1:=hlr.1;have l2:=hlr.2;have HT:Hid (Pm.cq p c (r+1)=(Pm.cq p c r||(Pm.pass c r==p))):=rfl;cases hth:Pm.cq p c r
     ·rw[hth]at HT;go_wp2_with (go_at_call 76;refine (qe c r _ (by omega) (by omega)).mono ?_;rintro e w' ⟨rfl,rfl⟩)
      go_round
      case rel=>exact⟨r+1,by omega,by go_num,by rw[HT.out];rfl⟩
      case measure=>simp[intOf];omega
     ·rw[hth]at HT;go_wp2_with (go_at_call 76;refine (qe c r _ (by omega) (by omega)).mono ?_;rintro e w' ⟨rfl,rfl⟩)
      go_round
      case rel=>exact⟨r+1,by omega,by go_num,by rw[HT.out];rfl⟩
      case measure=>simp[intOf];omega
    ·have xM:Hid (r=min 8 H):=by show _=_;omega
     have hx:8<=r\/(r<8/\H<=r):=by omega
     have HN:Hid (Pm.nC p (min 8 H) (c+1)=Pm.nC p (min 8 H) c+if Pm.cq p c (min 8 H) then 1 else 0):=rfl;cases hth:Pm.cq p c r
     ·rw[<-xM.out,hth,xM.out]at HN;rcases hx with hx|⟨hx,hy⟩
      all_goals
       go_wp2
       go_roundw
       case rel=>exact⟨c+1,by omega,by go_num,⟨xs,by rw[HN.out];exact hown⟩,hbel⟩
       case measure=>simp[intOf];omega
     ·rw[<-xM.out,hth,xM.out]at HN;rcases hx with hx|⟨hx,hy⟩
      all_goals
       go_wp2_with (at_builtin;refine aax _ rfl _ _ 24 rfl B 3 i0 (.int .i64 0) 1 8 Tryz.underlying24 hi hz0 hz1 hz2 rfl (by decide) _ _ _ rfl (hown.alloc _) ⟨wr.heap.size,0,none⟩ 1 1 [.int .i64 c] rfl rfl (aa1 _ _ _) (by intro u hu;simp at hu;subst hu;rfl) (by unfold maxLen;omega) (by omega) (by have:=hbel.size;simp;omega) ?_;intro v' w2 hown' hgrow _)
       have R2:(∃xs,w2.ownsRow B 3 1 v' (Pm.nC p (min 8 H) (c+1)) xs)/\Below B w w2 :=
        ⟨⟨_,by rw[HN.out];exact hown'⟩,(hbel.alloc (by have:=hbel.size;omega) _).grown hgrow (by have:=hbel.size;simp;omega) (fun b hb=>(hown.lt b hb).1)⟩
       clear hown' hgrow hown hbel;go_wp2
       go_roundw
       case rel=>exact⟨c+1,by omega,by go_num,R2.1,R2.2⟩
       case measure=>simp[intOf];omega
  ·have hcW:c=W:=by omega
   subst hcW;obtain⟨NZ,c1,rfl⟩:=aD hown;clear hown;go_wp2
   go_loopw [9,14] (fun v i wr=>∃r:Nat,r<=H/\i=.int .i64 r/\(∃xs,wr.ownsRow B 3 1 v (Pm.nR p (min 8 c) r) xs)/\Below B w wr) (fun _ i _=>H-(intOf i).toNat)
   case atStart=>exact⟨0,aaj _,rfl,⟨[],aba _ _ _ _⟩,hbel⟩
   case round =>
    clear hbel;obtain⟨r,hr,rfl,⟨ys,hown⟩,hbel⟩:=hrel;have Pe:=Pm.vR p (min 8 c) r;by_cases hlt2:r<H
    ·go_wp2
     go_loop [15,16] (fun th i=>∃k:Nat,k<=min 8 c/\i=.int .i64 k/\th=.bool (Pm.ct p r k)) (fun _ i=>min 8 c-(intOf i).toNat)
     case atStart=>exact⟨0,aaj _,rfl,rfl⟩
     case round =>
      obtain⟨k,hk,rfl,rfl⟩:=hrel;by_cases hlr:k<8/\k<c
      ·have l1:=hlr.1;have l2:=hlr.2;have HT:Hid (Pm.ct p r (k+1)=(Pm.ct p r k||(Pm.pass k r==p))):=rfl;cases hth:Pm.ct p r k
       all_goals
        rw[hth]at HT;go_wp2_with (go_at_call 76;refine (qe k r _ (by omega) (by omega)).mono ?_;rintro e w' ⟨rfl,rfl⟩)
        go_round
        case rel=>exact⟨k+1,by omega,by go_num,by rw[HT.out];rfl⟩
        case measure=>simp[intOf];omega
      ·have xM:Hid (k=min 8 c):=by show _=_;omega
       have hx:8<=k\/(k<8/\c<=k):=by omega
       have HN:Hid (Pm.nR p (min 8 c) (r+1)=Pm.nR p (min 8 c) r+if Pm.ct p r (min 8 c) then 1 else 0):=rfl;cases hth:Pm.ct p r k
       ·rw[<-xM.out,hth,xM.out]at HN;rcases hx with hx|⟨hx,hy⟩
        all_goals
         go_wp2
         go_roundw
         case rel=>exact⟨r+1,by omega,by go_num,⟨ys,by rw[HN.out];exact hown⟩,hbel⟩
         case measure=>simp[intOf];omega
       ·rw[<-xM.out,hth,xM.out]at HN;rcases hx with hx|⟨hx,hy⟩
        all_goals
         go_wp2_with (at_builtin;refine aax _ rfl _ _ 24 rfl B 3 i0 (.int .i64 0) 1 8 Tryz.underlying24 hi hz0 hz1 hz2 rfl (by decide) _ _ _ rfl (hown.alloc _) ⟨wr.heap.size,0,none⟩ 1 1 [.int .i64 r] rfl rfl (aa1 _ _ _) (by intro u hu;simp at hu;subst hu;rfl) (by unfold maxLen;omega) (by omega) (by have:=hbel.size;simp;omega) ?_;intro v' w2 hown' hgrow _)
         have R2:(∃xs,w2.ownsRow B 3 1 v' (Pm.nR p (min 8 c) (r+1)) xs)/\Below B w w2 :=
          ⟨⟨_,by rw[HN.out];exact hown'⟩,(hbel.alloc (by have:=hbel.size;omega) _).grown hgrow (by have:=hbel.size;simp;omega) (fun b hb=>(hown.lt b hb).1)⟩
         clear hown' hgrow hown hbel;go_wp2
         go_roundw
         case rel=>exact⟨r+1,by omega,by go_num,R2.1,R2.2⟩
         case measure=>simp[intOf];omega
    ·have XZ:r=H:=by omega
     subst XZ;obtain⟨KQ,c2,rfl⟩:=aD hown;go_wp2
     go_ret2
     exact⟨NZ,c1,KQ,c2,rfl,hbel⟩
theorem tN (on:Bool)(w:World): Calls Tryz.prog 42 #[.bool on] w fun e w'=>e=.returned (.slice (some ⟨w.heap.size,0,none⟩) (Pm.pn on) (Pm.pn on))/\Below w.heap.size w w'/\w.heap.size<w'.heap.size /\ ∀k,k<Pm.pn on->w'.cell? ⟨w.heap.size,k,none⟩=some (.int .i64 (Pm.pq on k)):=by
 cases on
 ·go_enter Tryz.func42,Tryz.ntmps42
  go_wp2
  go_ret
  refine⟨rfl,(aak _ _).alloc (aad _) _,by simp,?_⟩;intro k hk;have h0:k=0:=by simp[Pm.pn]at hk;omega
  subst h0;simp[Pm.pq]
 ·go_enter Tryz.func42,Tryz.ntmps42
  go_wp2
  go_ret
  refine⟨rfl,(aak _ _).alloc (aad _) _,by simp,?_⟩;intro k hk;simp only[Pm.pn,if_true]at hk
  match k,hk with
  | 0,_=>simp[Pm.pq]
  | 1,_=>simp[Pm.pq]
  | 2,_=>simp[Pm.pq]
  | 3,_=>simp[Pm.pq]
  | 4,_=>simp[Pm.pq]
  | 5,_=>simp[Pm.pq]
  | 6,_=>simp[Pm.pq]
theorem N0 (W H:Nat)(kd dp:Int)(on:Bool)(w:World)(hW:1<=W/\W<=5000)(hH:1<=H/\H<=5000)(hd:1<=dp/\dp<=16): Calls Tryz.prog 32 #[.int .i64 W,.int .i64 H,.int .i64 kd,.int .i64 dp,.bool on] w fun e w'=>e=.returned (.int .i64 (Pm.kX W H (Pm.chan kd dp) dp on (Pm.pn on)))/\Below w.heap.size w w':=by
 have hch:=Pm.cm kd dp;have hpn:Pm.pn on<=7:=by cases on<;>decide
 go_enter Tryz.func32,Tryz.ntmps32
 go_wp2_with fail;refine (tN on _).mono ?_;rintro e w1 ⟨rfl,hb1,hs1,hc1⟩;generalize hn:Pm.pn on=n at *;go_wp2
 go_loopw [11,13] (fun v i wr=>∃k:Nat,k<=n/\i=.int .i64 k/\v=.int .i64 (Pm.kX W H (Pm.chan kd dp) dp on k)/\Below w1.heap.size w1 wr) (fun _ i _=>n-(intOf i).toNat)
 case atStart=>exact⟨0,aaj _,rfl,rfl,aak _ _⟩
 case round =>
  obtain⟨k,hk,rfl,rfl,hbel⟩:=hrel;by_cases hlt:k<n
  ·have hcell:wr.cell? ⟨w.heap.size,k,none⟩=some (.int .i64 (Pm.pq on k)):=(hbel.cell hs1).trans (hc1 k hlt);have hrt:=Pm.zE W H (Pm.chan kd dp) dp on hW.2 hH.2 hch hd k;have HN:Hid (Pm.kX W H (Pm.chan kd dp) dp on (k+1)=Pm.kX W H (Pm.chan kd dp) dp on k+Pm.gm W H (Pm.chan kd dp) dp (Pm.pq on k)):=rfl;go_wp2_with fail;refine (zO W H _ _ hW hH).mono ?_;rintro e w2 ⟨NZ,c1,KQ,c2,rfl,hb2⟩;have hb3:=hbel.trans (hb2.mono hbel.size);have g1:=Pm.vQ (Pm.pq on k) (min 8 H) W;have g2:=Pm.vR (Pm.pq on k) (min 8 W) H;have hbd:=Pm.tv (Pm.nC (Pm.pq on k) (min 8 H) W) (Pm.nR (Pm.pq on k) (min 8 W) H) (Pm.chan kd dp) dp (by omega) (by omega) hch hd;obtain⟨b1,b2,b3⟩:=hbd;clear hbel hb2 hcell;by_cases h0:0<Pm.nC (Pm.pq on k) (min 8 H) W
   ·have HO:Hid (Pm.gm W H (Pm.chan kd dp) dp (Pm.pq on k)=(Pm.nR (Pm.pq on k) (min 8 W) H:Int)*(1+((Pm.nC (Pm.pq on k) (min 8 H) W:Int)*Pm.chan kd dp*dp+7)/8)):=by
     show _=_;rw[Pm.gm,aaf h0]
    go_wp2_with (go_at_call 30;refine (qf _ _ _).mono ?_;rintro e w' ⟨rfl,rfl⟩)
    go_roundw
    case rel=>exact⟨k+1,by omega,by go_num,by rw[HN.out,HO.out],hb3⟩
    case measure=>simp[intOf];omega
   ·have HO:Hid (Pm.gm W H (Pm.chan kd dp) dp (Pm.pq on k)=0):=by show _=_;rw[Pm.gm,aae h0]
    go_wp2
    go_roundw
    case rel=>exact⟨k+1,by omega,by go_num,by rw[HN.out,HO.out,Int.add_zero],hb3⟩
    case measure=>simp[intOf];omega
  ·have hkn:k=n:=by omega
   subst hkn;go_wp2
   go_ret
   exact⟨aC (by rw[hn]),hb1.trans (hbel.mono (by omega))⟩
end
section
open Go.ChangeShapes Go.WideShapes Go.ChangeAt Go.RowKit Go.Joins
theorem Tryz.own:ownKnob Tryz.prog.godebug=none:=by kernel_rfl
theorem Tryz.laidOut:laidOutB Tryz.prog=true:=by kernel_rfl
theorem TC:Tryz.prog.globalNamed "mosaic/picture.sevenPasses"=some 0:=by kernel_rfl
theorem Ja:(Tryz.prog.globals[0]?).map (·.type)=some 178:=by kernel_rfl
theorem nA:Tryz.prog.cellsOf 3=1:=by kernel_rfl
theorem tO:Tryz.prog.cellsOf 122=6:=by kernel_rfl
theorem zP:Tryz.prog.cellsOf 178=42:=by kernel_rfl
section
variable {H:Type} {enc:TypeId×Value->H} {w:World} {base:Nat} {sp:Nat->Bool} {held:Bool}
theorem jL {n:Nat}{cs:List Value}{z:Int}{p:List MemPlace}(h:DataW.trod enc Tryz.prog w base sp held n 3 cs=some (.lit (.int .i64 z),p)):cs=[.int .i64 z]:=by
 obtain⟨a,h1,h2,_⟩:=DataW.trod_int Tryz.underlying3 h;simp at h2;obtain⟨rfl,_⟩:=h2;exact h1
theorem N3 {α:Type}:∀{l:List α},l.length=6->∃a b c d e f,l=[a,b,c,d,e,f]
 | [a,b,c,d,e,f],_=>⟨a,b,c,d,e,f,rfl⟩
theorem Jb {α:Type}:∀{l:List α},l.length=7->∃a b c d e f g,l=[a,b,c,d,e,f,g]
 | [a,b,c,d,e,f,g],_=>⟨a,b,c,d,e,f,g,rfl⟩
theorem fA {n:Nat}{cs:List Value}{a b c d e f:Int}{p:List MemPlace}(h:DataW.trod enc Tryz.prog w base sp held n 122 cs=some (.agg [.lit (.int .i64 a),.lit (.int .i64 b),.lit (.int .i64 c),.lit (.int .i64 d),.lit (.int .i64 e),.lit (.int .i64 f)],p)): cs=[.int .i64 a,.int .i64 b,.int .i64 c,.int .i64 d,.int .i64 e,.int .i64 f]:=by
 obtain⟨xs,m,_,hx,hl,hlen,hf⟩:=DataW.trod_struct Tryz.underlying122 h;obtain⟨c0,c1,c2,c3,c4,c5,rfl⟩:=N3 (hl.trans tO);obtain⟨y0,y1,y2,y3,y4,y5,rfl⟩:=N3 (hlen.trans rfl);simp only[ach,List.map_nil,Prod.mk.injEq,DataW.agg.injEq,List.cons.injEq,and_true]at hx;obtain⟨⟨e0,e1,e2,e3,e4,e5⟩,_⟩:=hx;have g0:DataW.trod enc Tryz.prog w base sp held m 3 (List.take (Tryz.prog.cellsOf 3) (List.drop 0 [c0,c1,c2,c3,c4,c5]))=some y0:=hf 0 _ rfl;have g1:DataW.trod enc Tryz.prog w base sp held m 3 (List.take (Tryz.prog.cellsOf 3) (List.drop 1 [c0,c1,c2,c3,c4,c5]))=some y1:=hf 1 _ rfl;have g2:DataW.trod enc Tryz.prog w base sp held m 3 (List.take (Tryz.prog.cellsOf 3) (List.drop 2 [c0,c1,c2,c3,c4,c5]))=some y2:=hf 2 _ rfl;have g3:DataW.trod enc Tryz.prog w base sp held m 3 (List.take (Tryz.prog.cellsOf 3) (List.drop 3 [c0,c1,c2,c3,c4,c5]))=some y3:=hf 3 _ rfl;have g4:DataW.trod enc Tryz.prog w base sp held m 3 (List.take (Tryz.prog.cellsOf 3) (List.drop 4 [c0,c1,c2,c3,c4,c5]))=some y4:=hf 4 _ rfl;have g5:DataW.trod enc Tryz.prog w base sp held m 3 (List.take (Tryz.prog.cellsOf 3) (List.drop 5 [c0,c1,c2,c3,c4,c5]))=some y5:=hf 5 _ rfl;rw[nA]at g0 g1 g2 g3 g4 g5;obtain⟨y0a,y0b⟩:=y0;obtain⟨y1a,y1b⟩:=y1;obtain⟨y2a,y2b⟩:=y2;obtain⟨y3a,y3b⟩:=y3;obtain⟨y4a,y4b⟩:=y4;obtain⟨y5a,y5b⟩:=y5;simp only at e0 e1 e2 e3 e4 e5;subst e0 e1 e2 e3 e4 e5;have r0:=jL (cs:=[c0]) g0;have r1:=jL (cs:=[c1]) g1;have r2:=jL (cs:=[c2]) g2;have r3:=jL (cs:=[c3]) g3;have r4:=jL (cs:=[c4]) g4;have r5:=jL (cs:=[c5]) g5;rw[aaW r0,aaW r1,aaW r2,aaW r3,aaW r4,aaW r5]
theorem tP {cs r:List Value}(h:cs.take 6=r):cs=r++cs.drop 6:=by rw[<-h,List.take_append_drop]
theorem zQ {n:Nat}{cs:List Value}{p:List MemPlace}(h:DataW.trod enc Tryz.prog w base sp held n 178 cs=some (Rows.laid_mosaic_picture_sevenPasses,p)):cs.toArray=dL:=by
 obtain⟨xs,m,_,hx,hl,hlen,hf⟩:=DataW.trod_array Tryz.underlying178 h;obtain⟨y0,y1,y2,y3,y4,y5,y6,rfl⟩:=Jb hlen;simp only[Rows.laid_mosaic_picture_sevenPasses,ach,List.map_nil,Prod.mk.injEq,DataW.agg.injEq,List.cons.injEq,and_true]at hx;obtain⟨⟨e0,e1,e2,e3,e4,e5,e6⟩,_⟩:=hx;have g0:=hf 0 (by omega);have g1:=hf 1 (by omega);have g2:=hf 2 (by omega);have g3:=hf 3 (by omega);have g4:=hf 4 (by omega);have g5:=hf 5 (by omega);have g6:=hf 6 (by omega);simp only[tO,List.getElem?_cons_zero,List.getElem?_cons_succ]at g0 g1 g2 g3 g4 g5 g6;obtain⟨y0a,y0b⟩:=y0;obtain⟨y1a,y1b⟩:=y1;obtain⟨y2a,y2b⟩:=y2;obtain⟨y3a,y3b⟩:=y3;obtain⟨y4a,y4b⟩:=y4;obtain⟨y5a,y5b⟩:=y5;obtain⟨y6a,y6b⟩:=y6;simp only at e0 e1 e2 e3 e4 e5 e6;subst e0 e1 e2 e3 e4 e5 e6;have r0:=fA g0;have r1:=fA g1;have r2:=fA g2;have r3:=fA g3;have r4:=fA g4;have r5:=fA g5;have r6:=fA g6;rw[zP]at hl;have s0:=tP r0;have s1:=tP r1;have s2:=tP r2;have s3:=tP r3;have s4:=tP r4;have s5:=tP r5;have s6:=tP r6;simp only[List.drop_drop,Nat.reduceMul,Nat.reduceAdd,acv]at s0 s1 s2 s3 s4 s5 s6;have s7:cs.drop 42=[]:=List.drop_eq_nil_of_le (by omega);rw[s7]at s6;rw[s0,s1,s2,s3,s4,s5,s6];rfl
end
theorem table {W:World}(h':laidMet Tryz.prog [("mosaic/picture.sevenPasses",Rows.laid_mosaic_picture_sevenPasses)] W):∃tt fr,W.heap[0]?=some (.cells dL tt fr):=by
 obtain⟨ps,⟨g',t',cs,fuel,p,q,hg',ht',hvar,hd,_,_⟩,_⟩:=h';obtain rfl:=aay (TC.symm.trans hg');obtain rfl:=aay (Ja.symm.trans ht');unfold World.var? at hvar;rw[TC]at hvar;simp only[Option.bind_some]at hvar;split at hvar
 ·rename_i cs' tt fr hh;refine⟨tt,fr,?_⟩;have hcs:=zQ hd;rw[Array.toArray_toList]at hcs;rw[hh,aay hvar,hcs]
 ·cases hvar
end
end Go.Proofs.YtmfijackgekioaaGreatDoor
