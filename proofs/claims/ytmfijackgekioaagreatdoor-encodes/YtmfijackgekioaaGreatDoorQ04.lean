import Derived.Test.YtmfijackgekioaaGreatDoorQ03
import Derived.Deep.RegionHeld3
import Derived.Deep.AppendLies
import Derived.Deep.DeepCutAuto
import Derived.Deep.CutBlock
import Derived.Deep.RegionLaw
set_option maxHeartbeats 16000000
set_option maxRecDepth 100000
namespace Go.Proofs.YtmfijackgekioaaGreatDoor
open Go.RowKit
theorem G9 (a1:Option Addr)(c1 n1 n B:Nat)(ls L:List Int)(ao:Option Addr)(cap:Nat)(limit:Int)(st:Rf.St)(ov kv:Value)(w:World)(hr:dk w B L ao cap limit st ov kv)(hl1:ls.length=n1)(hn1:n1<=19)(hn:n<=320)(hA1:Apart w B a1 ls): Calls Tryz.prog 115 #[.pointer (some ⟨B,0,none⟩),.slice a1 n1 c1,.int .i64 n] w fun e w'=>∃v,e=.returned v/\dk w' B L ao cap limit (Rf.listed L ls n st).2 ov kv/\Kp (·=B) w w' /\ ((Rf.listed L ls n st).2.bad=false->w'.ownsRow (w.heap.size+1) 3 1 v n (vals (Rf.listed L ls n st).1)/\(Rf.listed L ls n st).1.length=n):=by
 obtain⟨i0,hi,hz0,hz1,hz2⟩:=aaX Tryz.info3;have hlt:=hr.lt;have a9:=hr.hb
 go_enter Tryz.func115,Tryz.ntmps115
 go_wp2_with fail;refine (wM a1 c1 ls n1 _ hl1 (by omega) hA1.ints (fun a e e2=>(hA1.ne a e e2).2)).mono ?_;rintro e w1 ⟨rfl,q1,b1⟩;have r1:=hr.later b1;have hw1:w.heap.size<w1.heap.size:=aab q1;have hov:∀g,ov.ownBlock=some g->g<w1.heap.size:=fun g hg=>(r1.ho.lt g hg).2;have hkv:∀g,kv.ownBlock=some g->g<w1.heap.size:=fun g hg=>(r1.hk.lt g hg).2;have A1:Apart w1 B a1 ls:=hA1.later (Kp.aJ b1);have hcl:(Rf.codes ls).length=n1:=by rw[Rf.jW,hl1]
 have A2:Apart w1 B (some ⟨w.heap.size,0,none⟩) (Rf.codes ls):=⟨aR.ints q1,fun a e _=>by cases e;exact⟨Nat.ne_of_gt hlt,hw1⟩⟩
 have HK:Hid (Kp (·=B) w w1):=Kp.aJ b1;obtain⟨RES,jH⟩:∃RES,RES=Rf.oJ L ls (Rf.codes ls) n (n+1) [] st:=⟨_,rfl⟩
 have HL:Hid (Rf.listed L ls n st=if RES.1.length=n then RES else (RES.1,{ RES.2 with bad:=true })):=by show _=_;rw[jH];rfl
 clear q1 b1 hr hA1;generalize Rf.codes ls=cd at *;go_wp2
 go_loopw [8] (fun v wr=>∃(f:Nat) (out:List Int) (st':Rf.St),wr.ownsRow w1.heap.size 3 1 v out.length (vals out)/\dk wr B L ao cap limit st' ov kv/\Kp (·=B) w1 wr/\Hid (RES=Rf.oJ L ls cd n f out st')/\n+1<=f+out.length/\out.length<=n+140) (fun v _=>n+140-GX v)
 case atStart=>exact⟨n+1,[],st,aba _ _ _ _,r1,Kp.refl _ _,jH,by simp,by simp⟩
 case round =>
  clear jH r1;obtain⟨f,out,st',hown,r2,kp,HF,hfu,hol⟩:=hrel;obtain⟨oa,oc,rfl⟩:=aD hown;obtain⟨d0,d1,d2,d3,d4,d5,d6,fz⟩:=r2.cells;by_cases hdone:n<=out.length\/st'.bad=true
  ·have HE:Hid (RES=(out,st')):=by
    show _=_;rw[HF.out];cases f with
    | zero=>rfl
    | succ f=>rw[Rf.oJ,aaf hdone]
   clear HF;have VF:Hid (Kp (·=B) w wr):=HK.out.trans kp;by_cases hln:out.length=n
   ·have Wu:((out.length:Int) != (n:Int))=false:=by simp[hln]
    have HL2:Hid (Rf.listed L ls n st=(out,st')):=by show _=_;rw[HL.out,HE.out,aaf hln]
    have HO:Hid (wr.ownsRow (w.heap.size+1) 3 1 (.slice oa out.length oc) n (vals out)):=by
     have h:=yD hown (show w.heap.size+1<=w1.heap.size from hw1);rw[hln]at h ⊢;exact h
    have K9:Hid (out.length=n):=hln;have hge:(n:Int)<=(out.length:Int):=by omega
    have hnl:¬((out.length:Int)<(n:Int)):=by omega
    clear hown hln;go_wp2
    go_ret
    refine⟨_,rfl,?_,VF.out,fun _=>?_⟩
    ·rw[HL2.out];exact r2
    ·rw[HL2.out];exact⟨HO.out,K9.out⟩
   ·have Wu:((out.length:Int) != (n:Int))=true:=by simp;omega
    have HL2:Hid (Rf.listed L ls n st=(out,{ st' with bad:=true })):=by show _=_;rw[HL.out,HE.out,aae hln]
    have HR:Hid (dk (wr.setCell ⟨B,3,none⟩ (.bool true)) B L ao cap limit { st' with bad:=true } ov kv):=r2.set 3 (.bool true) _ rfl rfl rfl r2.hpos;cases hbd:st'.bad
    ·rw[hbd]at d3;have hge:(n:Int)<=(out.length:Int):=by rw[hbd]at hdone;simp at hdone;omega
     go_wp2
     go_ret
     refine⟨_,rfl,?_,VF.out.set1 _ _,fun h=>?_⟩
     ·rw[HL2.out];exact HR.out
     ·rw[HL2.out]at h;cases h
    ·rw[hbd]at d3;by_cases hge:(n:Int)<=(out.length:Int)
     ·go_wp2
      go_ret
      refine⟨_,rfl,?_,VF.out.set1 _ _,fun h=>?_⟩
      ·rw[HL2.out];exact HR.out
      ·rw[HL2.out]at h;cases h
     ·go_wp2
      go_ret
      refine⟨_,rfl,?_,VF.out.set1 _ _,fun h=>?_⟩
      ·rw[HL2.out];exact HR.out
      ·rw[HL2.out]at h;cases h
  ·have hlt2:out.length<n:=by omega
   have hb':st'.bad=false:=by cases h:st'.bad<;>simp_all
   rw[hb']at d3;obtain⟨f,rfl⟩:∃g,f=g+1:=⟨f-1,by omega⟩
   have B1:=A1.later kp;have B2:=A2.later kp;go_wp2_with fail;refine (se a1 (some ⟨w.heap.size,0,none⟩) c1 n1 n1 B ls cd L ao cap limit st' ov kv _ r2 hl1 hcl (by omega) B1 B2).mono ?_;rintro e w2 ⟨rfl,r3,k3⟩;have wO:=kp.trans k3;have hsr:=Rf.im L ls cd st'
   have cz:Hid (RES=if (Rf.symbol L ls cd st').2.bad=true then ([],(Rf.symbol L ls cd st').2)
    else if (Rf.symbol L ls cd st').1<16 then Rf.oJ L ls cd n f (out++[(Rf.symbol L ls cd st').1]) (Rf.symbol L ls cd st').2
    else if (Rf.symbol L ls cd st').1=16 then
     (if out=[] then ([],{ (Rf.take L (Rf.symbol L ls cd st').2 2).2 with bad:=true }) else Rf.oJ L ls cd n f (out++List.replicate (3+(Rf.take L (Rf.symbol L ls cd st').2 2).1.toNat) (out.getD (out.length-1) 0)) (Rf.take L (Rf.symbol L ls cd st').2 2).2)
    else if (Rf.symbol L ls cd st').1=17 then Rf.oJ L ls cd n f (out++List.replicate (3+(Rf.take L (Rf.symbol L ls cd st').2 3).1.toNat) 0) (Rf.take L (Rf.symbol L ls cd st').2 3).2
    else Rf.oJ L ls cd n f (out++List.replicate (11+(Rf.take L (Rf.symbol L ls cd st').2 7).1.toNat) 0) (Rf.take L (Rf.symbol L ls cd st').2 7).2):=by
    show _=_;rw[HF.out,Rf.oJ,aae hdone]
   have k8:w2.ownsRow w1.heap.size 3 1 (.slice oa out.length oc) out.length (vals out):=mZ hown (fun g hg=>k3.block g (hown.lt g hg).2 (fun e=>by have:=(hown.lt g hg).1;omega));clear r2 kp k3 HF d0 d1 d2 d3 d4 d5 d6 fz B1 B2 hown;generalize Rf.symbol L ls cd st'=SY at *;obtain⟨s,eL⟩:=SY;simp only at r3 hsr cz ⊢;obtain⟨d0,d1,d2,d3,d4,d5,d6,fz⟩:=r3.cells;cases hb3:eL.bad
   ·rw[hb3]at d3 cz;simp only[abl,acA]at cz;have ab4:s<19:=by have:=hsr.2 hb3;omega
    have hs0:=hsr.1;clear hsr;have hlo:out.length<320:=by omega
    by_cases h16:s<16
    ·rw[aaf h16]at cz;have HX:Hid (RES=Rf.oJ L ls cd n f (out++List.replicate 1 s) eL):=cz;clear cz;go_wp2
     go_loopw [8,15] (fun v i wr=>∃k:Nat,k<=1/\i=.int .i64 k/\wr.ownsRow w1.heap.size 3 1 v (out.length+k) (vals (out++List.replicate k s))/\dk wr B L ao cap limit eL ov kv/\Kp (·=B) w1 wr) (fun _ i _=>1-(intOf i).toNat)
     case atStart=>exact⟨0,aaj _,rfl,by simpa using k8,r3,wO⟩
     case round =>
      clear r3 wO k8;obtain⟨k,hk,rfl,hown,r5,j6⟩:=hrel;by_cases Wv:k<1
      ·go_wp2_with (at_builtin;refine aax _ rfl _ _ 24 rfl w1.heap.size 3 i0 (.int .i64 0) 1 8 Tryz.underlying24 hi hz0 hz1 hz2 rfl (by decide) _ _ _ rfl (hown.alloc _) ⟨wr.heap.size,0,none⟩ 1 1 [.int .i64 s] rfl rfl (aa1 _ _ _) (by intro u hu;simp at hu;subst hu;rfl) (by unfold maxLen;omega) (by omega) (by have:=j6.size;simp;omega) ?_;intro v' w6 hown' hgrow _);have iV:=(j6.alloc (.cells #[.int .i64 s] 3)).grown hgrow (fun g hg=>.inr (hown.lt g hg).1)
       have r6:dk w6 B L ao cap limit eL ov kv:=r5.keep (fun g hg=>(hgrow.block g (by have:=r5.lt;simp;omega) (fun e=>by have:=(hown.lt g e.symm).1;omega)).trans (aaM wr _ g (by have:=r5.lt;omega)))
        (fun g hg=>(hgrow.block g (by have:=j6.size;have:=hov g hg;simp;omega) (fun e=>by have:=(hown.lt g e.symm).1;have:=hov g hg;omega)).trans (aaM wr _ g (by have:=j6.size;have:=hov g hg;omega)))
        (fun g hg=>(hgrow.block g (by have:=j6.size;have:=hkv g hg;simp;omega) (fun e=>by have:=(hown.lt g e.symm).1;have:=hkv g hg;omega)).trans (aaM wr _ g (by have:=j6.size;have:=hkv g hg;omega)))
       have jm:w6.ownsRow w1.heap.size 3 1 v' (out.length+(k+1)) (vals (out++List.replicate (k+1) s)):=by rw[m7];exact hown'
       clear hown' hgrow hown r5 j6;go_wp2
       go_roundw
       case rel=>exact⟨k+1,by omega,by go_num,jm,r6,iV⟩
       case measure=>simp[intOf];omega
      ·have hkk:k=1:=by omega
       subst hkk;obtain⟨ll,j5,rfl⟩:=aD hown;have hown2:wr.ownsRow w1.heap.size 3 1 (.slice ll (out.length+(1)) j5) (out++List.replicate (1) s).length (vals (out++List.replicate (1) s)):=by simpa using hown
       clear hown;go_wp2
       go_roundw
       case rel=>exact⟨f,out++List.replicate (1) s,eL,hown2,r5,j6,HX,by simp;omega,by simp;omega⟩
       case measure=>simp[GX];omega
    ·rw[aae h16]at cz;by_cases e16:s=16
     ·rw[aaf e16]at cz;subst e16;go_wp2_with fail;refine (dV 2 B L ao cap limit eL ov kv _ r3 (by omega)).mono ?_;rintro e w3 ⟨rfl,r4,k4⟩;have AG:=wO.trans k4;have htr:=Rf.take_range a9 eL 2;have uA:w3.ownsRow w1.heap.size 3 1 (.slice oa out.length oc) out.length (vals out):=mZ k8 (fun g hg=>k4.block g (k8.lt g hg).2 (fun e=>by have:=(k8.lt g hg).1;omega));generalize Rf.take L eL 2=TK at *;obtain⟨x,aT⟩:=TK;simp only at r4 htr cz ⊢;obtain⟨t,rfl⟩:=aaO htr.1;rw[aa5]at cz;have Nr:(t:Int)<4:=by omega
      clear r3 wO k4 k8 d0 d1 d2 d3 d4 d5 d6 fz htr;obtain⟨d0,d1,d2,d3,d4,d5,d6,fz⟩:=r4.cells;by_cases h0:out=[]
      ·rw[aaf h0]at cz;have h0':((out.length:Int)==0)=true:=by simp[h0]
       have HR:Hid (dk (w3.setCell ⟨B,3,none⟩ (.bool true)) B L ao cap limit { aT with bad:=true } ov kv):=r4.set 3 (.bool true) _ rfl rfl rfl r4.hpos;go_wp2
       go_ret
       have HL2:Rf.listed L ls n st=([],{ aT with bad:=true }):=by rw[HL.out,cz.out,aae (by simp;omega)]
       refine⟨_,rfl,?_,(HK.out.trans AG).set1 _ _,fun h=>?_⟩
       ·rw[HL2];exact HR.out
       ·rw[HL2]at h;cases h
      ·rw[aae h0]at cz;have h0':((out.length:Int)==0)=false:=by simp[h0]
       have hop:0<out.length:=by cases out with|nil=>exact absurd rfl h0|cons a l=>simp
       obtain⟨g,cp,hsl,_⟩:=rT uA hop;simp only[abd,abG]at hsl;obtain⟨rfl,rfl⟩:=hsl;obtain⟨y,hy⟩:∃y:Int,y=out.getD (out.length-1) 0:=⟨_,rfl⟩
       have hcell:w3.cell? ⟨g,out.length-1,none⟩=some (.int .i64 y):=(uA.cellAt (out.length-1) (by omega)).trans (by rw[hy];simp[vals,List.getD,List.getElem?_eq_getElem (show out.length-1<out.length by omega)]);have HX:Hid (RES=Rf.oJ L ls cd n f (out++List.replicate (3+t) y) aT):=by show _=_;rw[hy];exact cz.out
       clear cz hy;go_wp2
       go_loopw [8,15] (fun v i wr=>∃k:Nat,k<=3+t/\i=.int .i64 k/\wr.ownsRow w1.heap.size 3 1 v (out.length+k) (vals (out++List.replicate k y))/\dk wr B L ao cap limit aT ov kv/\Kp (·=B) w1 wr) (fun _ i _=>3+t-(intOf i).toNat)
       case atStart=>exact⟨0,aaj _,rfl,by simpa using uA,r4,AG⟩
       case round =>
        clear r4 AG uA;obtain⟨k,hk,rfl,hown,r5,j6⟩:=hrel;by_cases Wv:k<3+t
        ·go_wp2_with (at_builtin;refine aax _ rfl _ _ 24 rfl w1.heap.size 3 i0 (.int .i64 0) 1 8 Tryz.underlying24 hi hz0 hz1 hz2 rfl (by decide) _ _ _ rfl (hown.alloc _) ⟨wr.heap.size,0,none⟩ 1 1 [.int .i64 y] rfl rfl (aa1 _ _ _) (by intro u hu;simp at hu;subst hu;rfl) (by unfold maxLen;omega) (by omega) (by have:=j6.size;simp;omega) ?_;intro v' w6 hown' hgrow _);have iV:=(j6.alloc (.cells #[.int .i64 y] 3)).grown hgrow (fun g hg=>.inr (hown.lt g hg).1)
         have r6:dk w6 B L ao cap limit aT ov kv:=r5.keep (fun g hg=>(hgrow.block g (by have:=r5.lt;simp;omega) (fun e=>by have:=(hown.lt g e.symm).1;omega)).trans (aaM wr _ g (by have:=r5.lt;omega)))
          (fun g hg=>(hgrow.block g (by have:=j6.size;have:=hov g hg;simp;omega) (fun e=>by have:=(hown.lt g e.symm).1;have:=hov g hg;omega)).trans (aaM wr _ g (by have:=j6.size;have:=hov g hg;omega)))
          (fun g hg=>(hgrow.block g (by have:=j6.size;have:=hkv g hg;simp;omega) (fun e=>by have:=(hown.lt g e.symm).1;have:=hkv g hg;omega)).trans (aaM wr _ g (by have:=j6.size;have:=hkv g hg;omega)))
         have jm:w6.ownsRow w1.heap.size 3 1 v' (out.length+(k+1)) (vals (out++List.replicate (k+1) y)):=by rw[m7];exact hown'
         clear hown' hgrow hown r5 j6;go_wp2
         go_roundw
         case rel=>exact⟨k+1,by omega,by go_num,jm,r6,iV⟩
         case measure=>simp[intOf];omega
        ·have hkk:k=3+t:=by omega
         subst hkk;obtain⟨ll,j5,rfl⟩:=aD hown;have hown2:wr.ownsRow w1.heap.size 3 1 (.slice ll (out.length+(3+t)) j5) (out++List.replicate (3+t) y).length (vals (out++List.replicate (3+t) y)):=by simpa using hown
         clear hown;go_wp2
         go_roundw
         case rel=>exact⟨f,out++List.replicate (3+t) y,aT,hown2,r5,j6,HX,by simp;omega,by simp;omega⟩
         case measure=>simp[GX];omega
     ·rw[aae e16]at cz;by_cases e17:s=17
      ·rw[aaf e17]at cz;subst e17;go_wp2_with fail;refine (dV 3 B L ao cap limit eL ov kv _ r3 (by omega)).mono ?_;rintro e w3 ⟨rfl,r4,k4⟩;have AG:=wO.trans k4;have htr:=Rf.take_range a9 eL 3;have uA:w3.ownsRow w1.heap.size 3 1 (.slice oa out.length oc) out.length (vals out):=mZ k8 (fun g hg=>k4.block g (k8.lt g hg).2 (fun e=>by have:=(k8.lt g hg).1;omega));generalize Rf.take L eL 3=TK at *;obtain⟨x,aT⟩:=TK;simp only at r4 htr cz ⊢;obtain⟨t,rfl⟩:=aaO htr.1;rw[aa5]at cz;have Nr:(t:Int)<8:=by omega
       have HX:Hid (RES=Rf.oJ L ls cd n f (out++List.replicate (3+t) 0) aT):=cz;clear r3 wO k4 k8 d0 d1 d2 d3 d4 d5 d6 fz htr cz;go_wp2
       go_loopw [8,15] (fun v i wr=>∃k:Nat,k<=3+t/\i=.int .i64 k/\wr.ownsRow w1.heap.size 3 1 v (out.length+k) (vals (out++List.replicate k 0))/\dk wr B L ao cap limit aT ov kv/\Kp (·=B) w1 wr) (fun _ i _=>3+t-(intOf i).toNat)
       case atStart=>exact⟨0,aaj _,rfl,by simpa using uA,r4,AG⟩
       case round =>
        clear r4 AG uA;obtain⟨k,hk,rfl,hown,r5,j6⟩:=hrel;by_cases Wv:k<3+t
        ·go_wp2_with (at_builtin;refine aax _ rfl _ _ 24 rfl w1.heap.size 3 i0 (.int .i64 0) 1 8 Tryz.underlying24 hi hz0 hz1 hz2 rfl (by decide) _ _ _ rfl (hown.alloc _) ⟨wr.heap.size,0,none⟩ 1 1 [.int .i64 0] rfl rfl (aa1 _ _ _) (by intro u hu;simp at hu;subst hu;rfl) (by unfold maxLen;omega) (by omega) (by have:=j6.size;simp;omega) ?_;intro v' w6 hown' hgrow _);have iV:=(j6.alloc (.cells #[.int .i64 0] 3)).grown hgrow (fun g hg=>.inr (hown.lt g hg).1)
         have r6:dk w6 B L ao cap limit aT ov kv:=r5.keep (fun g hg=>(hgrow.block g (by have:=r5.lt;simp;omega) (fun e=>by have:=(hown.lt g e.symm).1;omega)).trans (aaM wr _ g (by have:=r5.lt;omega)))
          (fun g hg=>(hgrow.block g (by have:=j6.size;have:=hov g hg;simp;omega) (fun e=>by have:=(hown.lt g e.symm).1;have:=hov g hg;omega)).trans (aaM wr _ g (by have:=j6.size;have:=hov g hg;omega)))
          (fun g hg=>(hgrow.block g (by have:=j6.size;have:=hkv g hg;simp;omega) (fun e=>by have:=(hown.lt g e.symm).1;have:=hkv g hg;omega)).trans (aaM wr _ g (by have:=j6.size;have:=hkv g hg;omega)))
         have jm:w6.ownsRow w1.heap.size 3 1 v' (out.length+(k+1)) (vals (out++List.replicate (k+1) 0)):=by rw[m7];exact hown'
         clear hown' hgrow hown r5 j6;go_wp2
         go_roundw
         case rel=>exact⟨k+1,by omega,by go_num,jm,r6,iV⟩
         case measure=>simp[intOf];omega
        ·have hkk:k=3+t:=by omega
         subst hkk;obtain⟨ll,j5,rfl⟩:=aD hown;have hown2:wr.ownsRow w1.heap.size 3 1 (.slice ll (out.length+(3+t)) j5) (out++List.replicate (3+t) 0).length (vals (out++List.replicate (3+t) 0)):=by simpa using hown
         clear hown;go_wp2
         go_roundw
         case rel=>exact⟨f,out++List.replicate (3+t) 0,aT,hown2,r5,j6,HX,by simp;omega,by simp;omega⟩
         case measure=>simp[GX];omega
      ·rw[aae e17]at cz;have e18:s=18:=by omega
       subst e18;go_wp2_with fail;refine (dV 7 B L ao cap limit eL ov kv _ r3 (by omega)).mono ?_;rintro e w3 ⟨rfl,r4,k4⟩;have AG:=wO.trans k4;have htr:=Rf.take_range a9 eL 7;have uA:w3.ownsRow w1.heap.size 3 1 (.slice oa out.length oc) out.length (vals out):=mZ k8 (fun g hg=>k4.block g (k8.lt g hg).2 (fun e=>by have:=(k8.lt g hg).1;omega));generalize Rf.take L eL 7=TK at *;obtain⟨x,aT⟩:=TK;simp only at r4 htr cz ⊢;obtain⟨t,rfl⟩:=aaO htr.1;rw[aa5]at cz;have Nr:(t:Int)<128:=by omega
       have HX:Hid (RES=Rf.oJ L ls cd n f (out++List.replicate (11+t) 0) aT):=cz;clear r3 wO k4 k8 d0 d1 d2 d3 d4 d5 d6 fz htr cz;go_wp2
       go_loopw [8,15] (fun v i wr=>∃k:Nat,k<=11+t/\i=.int .i64 k/\wr.ownsRow w1.heap.size 3 1 v (out.length+k) (vals (out++List.replicate k 0))/\dk wr B L ao cap limit aT ov kv/\Kp (·=B) w1 wr) (fun _ i _=>11+t-(intOf i).toNat)
       case atStart=>exact⟨0,aaj _,rfl,by simpa using uA,r4,AG⟩
       case round =>
        clear r4 AG uA;obtain⟨k,hk,rfl,hown,r5,j6⟩:=hrel;by_cases Wv:k<11+t
        ·go_wp2_with (at_builtin;refine aax _ rfl _ _ 24 rfl w1.heap.size 3 i0 (.int .i64 0) 1 8 Tryz.underlying24 hi hz0 hz1 hz2 rfl (by decide) _ _ _ rfl (hown.alloc _) ⟨wr.heap.size,0,none⟩ 1 1 [.int .i64 0] rfl rfl (aa1 _ _ _) (by intro u hu;simp at hu;subst hu;rfl) (by unfold maxLen;omega) (by omega) (by have:=j6.size;simp;omega) ?_;intro v' w6 hown' hgrow _);have iV:=(j6.alloc (.cells #[.int .i64 0] 3)).grown hgrow (fun g hg=>.inr (hown.lt g hg).1)
         have r6:dk w6 B L ao cap limit aT ov kv:=r5.keep (fun g hg=>(hgrow.block g (by have:=r5.lt;simp;omega) (fun e=>by have:=(hown.lt g e.symm).1;omega)).trans (aaM wr _ g (by have:=r5.lt;omega)))
          (fun g hg=>(hgrow.block g (by have:=j6.size;have:=hov g hg;simp;omega) (fun e=>by have:=(hown.lt g e.symm).1;have:=hov g hg;omega)).trans (aaM wr _ g (by have:=j6.size;have:=hov g hg;omega)))
          (fun g hg=>(hgrow.block g (by have:=j6.size;have:=hkv g hg;simp;omega) (fun e=>by have:=(hown.lt g e.symm).1;have:=hkv g hg;omega)).trans (aaM wr _ g (by have:=j6.size;have:=hkv g hg;omega)))
         have jm:w6.ownsRow w1.heap.size 3 1 v' (out.length+(k+1)) (vals (out++List.replicate (k+1) 0)):=by rw[m7];exact hown'
         clear hown' hgrow hown r5 j6;go_wp2
         go_roundw
         case rel=>exact⟨k+1,by omega,by go_num,jm,r6,iV⟩
         case measure=>simp[intOf];omega
        ·have hkk:k=11+t:=by omega
         subst hkk;obtain⟨ll,j5,rfl⟩:=aD hown;have hown2:wr.ownsRow w1.heap.size 3 1 (.slice ll (out.length+(11+t)) j5) (out++List.replicate (11+t) 0).length (vals (out++List.replicate (11+t) 0)):=by simpa using hown
         clear hown;go_wp2
         go_roundw
         case rel=>exact⟨f,out++List.replicate (11+t) 0,aT,hown2,r5,j6,HX,by simp;omega,by simp;omega⟩
         case measure=>simp[GX];omega
   ·rw[hb3]at d3 cz;simp only[if_true]at cz;go_wp2
    go_ret
    have HL2:Rf.listed L ls n st=([],{ eL with bad:=true }):=by rw[HL.out,cz.out,aae (by simp;omega)]
    refine⟨_,rfl,?_,HK.out.trans wO,fun h=>?_⟩
    ·rw[HL2,KY eL hb3];exact r3
    ·rw[HL2]at h;cases h
theorem int_eq {a b:Int}(h:a=b):Value.int .i64 a=Value.int .i64 b:=by rw[h]
theorem Ex:∀i:Nat,i<28->8<=i->(4+i%4)*2^(i/4-1)+2^(i/4-1)<=256:=by decide +kernel
theorem A0:∀j:Nat,j<30->4<=j->(2+j%2)*2^(j/2-1)+2^(j/2-1)<=32768:=by decide +kernel
theorem yJ (e:Nat):((2:Int)^e)=((2^e:Nat):Int):=by simp
theorem Ha (a1 a2:Option Addr)(c1 c2 n i B:Nat)(far cd L:List Int)(ao:Option Addr)(cap:Nat)(limit:Int)(st:Rf.St)(ov kv:Value)(w:World)(hr:dk w B L ao cap limit st ov kv)(Hb:i<=28)(hl1:far.length=n)(hl2:cd.length=n)(hn:n<=320)(hA1:Apart w B a1 far)(hA2:Apart w B a2 cd)(hout:Hid (st.out.length<=11000000000))(_hnb:st.bad=false): Calls Tryz.prog 113 #[.pointer (some ⟨B,0,none⟩),.int .i64 ((i:Int)+257),.slice a1 n c1,.slice a2 n c2] w fun e w'=>e=.returned (.tuple #[])/\(∃pN,dk w' B L ao cap limit (Rf.copied L limit i far cd st) pN kv)/\Fr B w w':=by
 obtain⟨i0,hi,hz0,hz1,hz2⟩:=aaX Tryz.info5;obtain⟨c0,c1',c2',c3,c4,c5,c6,fz⟩:=hr.cells;have a9:=hr.hb;have hlt:=hr.lt
 have hinv:Hid ((Rf.lenOf L i st).2.out=st.out):=by
  show _=_;unfold Rf.lenOf;repeat' split
  all_goals first|rfl|exact (Rf.bY L st _).1
 rw[_hnb]at c3
 go_enter Tryz.func113,Tryz.ntmps113
 go_upto_block 0 with fail
 go_cut [9] (fun s9 wc=>∃(N:Nat) (st1:Rf.St),s9=.int .i64 N/\N<=258/\dk wc B L ao cap limit st1 ov kv/\Kp (·=B) w wc/\Hid (Rf.lenOf L i st=(N,st1)))
 case first =>
  rcases (show i=28\/(8<=i/\i≠28)\/i<8 by omega) with h|⟨h,hne⟩|h
  ·have hne':((i:Int)==28)=true:=abs.2 (by omega);have HL:Hid (Rf.lenOf L i st=(258,st)):=by subst h;rfl
   clear h;go_wp2_with fail
   go_meet
   case rel=>exact⟨258,st,rfl,by omega,hr,Kp.refl _ _,HL⟩
  ·have HL:Hid (Rf.lenOf L i st=((4+i%4)*2^(i/4-1)+3+(Rf.take L st (i/4-1)).1.toNat,(Rf.take L st (i/4-1)).2)):=by show _=_;rw[Rf.lenOf,aae hne,aaf h]
   have hne':((i:Int)==28)=false:=aam.2 (by omega);go_wp2_with fail;rw[show ((i:Int)/4-1)=((i/4-1:Nat):Int) by omega];refine (dV (i/4-1) B L ao cap limit st ov kv _ hr (by omega)).mono ?_;rintro e w1 ⟨rfl,r1,k1⟩;have htr:=Rf.take_range a9 st (i/4-1);have hsm:=Ex i (by omega) h;have hp2:1<=2^(i/4-1):=Nat.one_le_two_pow;obtain⟨M,hM⟩:∃M:Nat,M=(4+i%4)*2^(i/4-1):=⟨_,rfl⟩
   have HM:Hid (((4+(i:Int)%4)*2^(i/4-1))=(M:Int)):=by show _=_;rw[hM];simp
   rw[yJ]at htr;rw[<-hM]at HL hsm;generalize Rf.take L st (i/4-1)=TK at *;obtain⟨x,st1⟩:=TK;simp only at r1 htr HL ⊢;obtain⟨t,rfl⟩:=aaO htr.1;rw[aa5]at HL;have hx:M+t<=255:=by omega
   clear hM hsm htr hp2;go_wp2_with fail
   go_meet
   case rel =>
    refine⟨M+3+t,st1,int_eq ?_,by omega,r1,k1,HL⟩;rw[HM.out,abM (M:Int) (by omega),abM ((M:Int)+3) (by omega),abM ((M:Int)+3+t) (by omega)];omega
  ·have HL:Hid (Rf.lenOf L i st=(i+3,st)):=by show _=_;rw[Rf.lenOf,aae (by omega),aae (by omega)]
   have hne':((i:Int)==28)=false:=aam.2 (by omega);go_wp2_with fail
   go_meet
   case rel=>exact⟨i+3,st,by go_num,by omega,hr,Kp.refl _ _,HL⟩
 case rest =>
  obtain⟨N,st1,rfl,hN,r1,k1,HL⟩:=hcut;clear c0 c1' c2' c3 c4 c5 c6 fz;obtain⟨d0,d1,d2,d3,d4,d5,d6,fz⟩:=r1.cells
  have La:Hid (st1.out.length<=11000000000):=by
   have h1:=hinv.out;rw[HL.out]at h1;show _<=_;rw[show st1.out=st.out from h1];exact hout.out
  obtain⟨CP,QZ⟩:∃CP,CP=Rf.copied L limit i far cd st:=⟨_,rfl⟩
  have HQ:Hid (Rf.copied L limit i far cd st=CP):=QZ.symm;unfold Rf.copied at QZ;rw[HL.out]at QZ;simp only at QZ;have HP:Hid (CP=_):=QZ;clear QZ HL hinv hr hout;have A1:=hA1.later k1;have A2:=hA2.later k1;clear hA1 hA2;cases hb1:st1.bad
  ·rw[hb1]at d3;rw[hb1]at HP;simp only[abl,acA]at HP;go_wp2_with fail;refine (se a1 a2 c1 c2 n B far cd L ao cap limit st1 ov kv _ r1 hl1 hl2 hn A1 A2).mono ?_;rintro e w2 ⟨rfl,r2,k2⟩;have m9:=k1.trans k2;have hsr:=Rf.im L far cd st1;have hso:=(Rf.fp L far cd st1).1;have OB:Hid ((Rf.symbol L far cd st1).2.out.length<=11000000000):=by show _<=_;rw[hso];exact La.out
   clear d0 d1 d2 d3 d4 d5 d6 fz r1 k1 k2 A1 A2 La hso;generalize Rf.symbol L far cd st1=SY at *;obtain⟨j,st2⟩:=SY;simp only at r2 hsr HP OB ⊢;obtain⟨d0,d1,d2,d3,d4,d5,d6,fz⟩:=r2.cells;by_cases hbj:st2.bad=true\/29<j
   ·rw[aaf hbj]at HP;have HR:Hid (dk (w2.setCell ⟨B,3,none⟩ (.bool true)) B L ao cap limit { st2 with bad:=true } ov kv):=r2.set 3 (.bool true) _ rfl rfl rfl r2.hpos;cases hb2:st2.bad
    ·rw[hb2]at d3 hbj;have Ww:29<j:=by simpa using hbj
     go_wp2;exact aal (abe rfl _ _ _) rfl ⟨rfl,⟨ov,by rw[HQ.out,HP.out];exact HR.out⟩,Fr.fW (aaI hlt) (m9.set1 _ _)⟩
    ·rw[hb2]at d3;go_wp2;exact aal (abe rfl _ _ _) rfl ⟨rfl,⟨ov,by rw[HQ.out,HP.out];exact HR.out⟩,Fr.fW (aaI hlt) (m9.set1 _ _)⟩
   ·rw[aae hbj]at HP;have hb2:st2.bad=false:=by cases h:st2.bad<;>simp_all
    have Ww:j<=29:=by omega
    rw[hb2]at d3;obtain⟨jn,rfl⟩:=aaO hsr.1;rw[aa5]at HP;clear hbj hsr
    go_upto_if 64 with fail
    go_cut [13] (fun s13 wc=>∃(D:Nat) (eL:Rf.St),s13=.int .i64 D/\(1<=D/\D<=32768)/\dk wc B L ao cap limit eL ov kv/\Kp (·=B) w wc/\Hid (Rf.cg L jn st2=(D,eL)))
    case first =>
     by_cases h4:4<=jn
     ·have HD:Hid (Rf.cg L jn st2=((2+jn%2)*2^(jn/2-1)+1+(Rf.take L st2 (jn/2-1)).1.toNat,(Rf.take L st2 (jn/2-1)).2)):=by show _=_;rw[Rf.cg,aaf h4]
      go_wp2_with fail;rw[show ((jn:Int)/2-1)=((jn/2-1:Nat):Int) by omega];refine (dV (jn/2-1) B L ao cap limit st2 ov kv _ r2 (by omega)).mono ?_;rintro e w3 ⟨rfl,r3,k3⟩;have htr:=Rf.take_range a9 st2 (jn/2-1);have hsm:=A0 jn (by omega) h4;have hp2:1<=2^(jn/2-1):=Nat.one_le_two_pow;obtain⟨M,hM⟩:∃M:Nat,M=(2+jn%2)*2^(jn/2-1):=⟨_,rfl⟩
      have HM:Hid (((2+(jn:Int)%2)*2^(jn/2-1))=(M:Int)):=by show _=_;rw[hM];simp
      rw[yJ]at htr;rw[<-hM]at HD hsm;generalize Rf.take L st2 (jn/2-1)=TK at *;obtain⟨x,eL⟩:=TK;simp only at r3 htr HD ⊢;obtain⟨t,rfl⟩:=aaO htr.1;rw[aa5]at HD;have hx:M+t<=32767:=by omega
      have wO:=m9.trans k3;clear hM hsm htr hp2;go_wp2_with fail
      go_meet
      case rel =>
       refine⟨M+1+t,eL,int_eq ?_,by omega,r3,wO,HD⟩;rw[HM.out,abM (M:Int) (by omega),abM ((M:Int)+1) (by omega),abM ((M:Int)+1+t) (by omega)];omega
     ·have HD:Hid (Rf.cg L jn st2=(jn+1,st2)):=by show _=_;rw[Rf.cg,aae h4]
      go_wp2_with fail
      go_meet
      case rel=>exact⟨jn+1,st2,int_eq (by omega),by omega,r2,m9,HD⟩
    case rest =>
     have hdo:Hid ((Rf.cg L jn st2).2.out=st2.out):=by
      show _=_;unfold Rf.cg;split
      ·exact (Rf.bY L st2 _).1
      ·rfl
     obtain⟨D,eL,rfl,hD,r3,wO,HD⟩:=hcut
     have Ns:Hid (eL.out.length<=11000000000):=by
      have h1:=hdo.out;rw[HD.out]at h1;show _<=_;rw[show eL.out=st2.out from h1];exact OB.out
     rw[HD.out]at HP;simp only at HP;clear d0 d1 d2 d3 d4 d5 d6 fz r2 m9 OB HD hdo;obtain⟨d0,d1,d2,d3,d4,d5,d6,fz⟩:=r3.cells;obtain⟨oa,oc,rfl⟩:=aD r3.ho;by_cases hbd:eL.bad=true\/eL.out.length<D
     ·rw[aaf hbd]at HP;have HR:Hid (dk (wc.setCell ⟨B,3,none⟩ (.bool true)) B L ao cap limit { eL with bad:=true } (.slice oa eL.out.length oc) kv):=r3.set 3 (.bool true) _ rfl rfl rfl r3.hpos;cases hb3:eL.bad
      ·rw[hb3]at d3 hbd;have hDl:eL.out.length<D:=by simpa using hbd
       go_wp2;exact aal (abe rfl _ _ _) rfl ⟨rfl,⟨_,by rw[HQ.out,HP.out];exact HR.out⟩,Fr.fW (aaI hlt) (wO.set1 _ _)⟩
      ·rw[hb3]at d3;go_wp2;exact aal (abe rfl _ _ _) rfl ⟨rfl,⟨_,by rw[HQ.out,HP.out];exact HR.out⟩,Fr.fW (aaI hlt) (wO.set1 _ _)⟩
     ·rw[aae hbd]at HP;have hb3:eL.bad=false:=by cases h:eL.bad<;>simp_all
      have hDl:D<=eL.out.length:=by omega
      rw[hb3]at d3;clear hbd;go_wp2_with fail;refine (AX N B L ao cap limit eL _ kv _ r3 (by omega) (by have:=Ns.out;omega)).mono ?_;rintro e w4 ⟨rfl,r4,k4⟩;have hro:=Rf.iC limit eL N;have AH:Hid ((Rf.room limit eL N).2.out.length<=11000000000/\D<=(Rf.room limit eL N).2.out.length):=by show _/\_;rw[hro.1];exact⟨Ns.out,hDl⟩
      have f4:=Fr.fW (aaI hlt) (wO.trans k4);clear d0 d1 d2 d3 d4 d5 d6 fz r3 wO k4 Ns hDl hro;generalize Rf.room limit eL N=RM at *;obtain⟨ok,aT⟩:=RM;simp only at r4 HP AH ⊢;cases ok
      ·simp only[abl,acA]at HP;go_wp2
       go_loopw [17] (fun i wr=>i=.int .i64 0/\wr=w4) (fun _ _=>0)
       case atStart=>exact⟨rfl,rfl⟩
       case round =>
        obtain⟨rfl,rfl⟩:=hrel;go_wp2
        all_goals go_end0
        all_goals exact⟨rfl,⟨_,by rw[HQ.out,HP.out];exact r4⟩,f4⟩
      ·simp only[if_true]at HP;go_wp2
       go_loopw [17] (fun i wr=>∃(k:Nat) (o:List UInt8) (pN:Value),k<=N/\i=.int .i64 k/\dk wr B L ao cap limit { aT with out:=o } pN kv/\Fr B w wr/\Hid (Rf.Em D (N-k) o=Rf.Em D N aT.out)/\Hid (D<=o.length/\o.length<=11000000000+k)) (fun i _=>N-(intOf i).toNat)
       case atStart=>exact⟨0,aT.out,_,aaj _,rfl,r4,f4,rfl,⟨AH.out.2,AH.out.1⟩⟩
       case round =>
        clear r4 f4 AH;obtain⟨k,o,pN,hk,rfl,r5,f5,HC,CV⟩:=hrel;by_cases hkN:k<N
        ·obtain⟨g,j5,rfl,hBg⟩:=rT r5.ho (show 0<o.length by have:=CV.out;omega);obtain⟨d0,d1,d2,d3,d4,d5,d6,fz⟩:=r5.cells;obtain⟨c,hc⟩:∃c:UInt8,c=o.getD (o.length-D) 0:=⟨_,rfl⟩
         have hcell:wr.cell? ⟨g,o.length-D,none⟩=some (.int .u8 c.toNat):=(r5.ho.cellAt (o.length-D) (by have:=CV.out;show _<o.length*1;omega)).trans (by rw[hc];have:=CV.out;simp[List.getD,List.getElem?_eq_getElem (show o.length-D<o.length by omega)]);have K5:Hid (Rf.Em D (N-(k+1)) (o++[c])=Rf.Em D N aT.out):=by show _=_;rw[<-HC.out,show N-k=(N-(k+1))+1 by omega,Rf.Em,hc]
         have HB:Hid (o.length+1<=maxLen/\(o.length+1)*1<=140737488355328):=by have:=CV.out;show _/\_;unfold maxLen;omega
         have Q8:Hid (D<=(o++[c]).length/\(o++[c]).length<=11000000000+(k+1)):=by have:=CV.out;show _/\_;simp;omega
         have j1:(0:Int)<=(o.length:Int)-(D:Int):=by have:=CV.out;omega
         have j2:(o.length:Int)-(D:Int)<(o.length:Int):=by omega
         have j3:(o.length:Int)<=4611686018427387904:=by have:=CV.out;omega
         have wrp:IntKind.i64.wrap ((o.length:Int)-(D:Int))=((o.length-D:Nat):Int):=by rw[aah _ (by have:=CV.out;omega)];have:=CV.out;omega
         have j4:((o.length-D:Nat):Int)<(o.length:Int):=by have:=CV.out;omega
         have hl5:=r5.lt;have hg5:=(r5.ho.lt g rfl).2;clear hc HC CV;go_wp2
         go_region_law ((refine step_append_lies _ (by rfl) _ _ _ (by rfl) (B+1) 5 i0 _ 1 1 Tryz.underlying107 hi hz0 hz1 hz2 rfl (by omega) (.slice (some ⟨g,0,none⟩) o.length j5) o.length (o.map bG) (by rfl) ((r5.ho.alloc _).drew) ⟨wr.heap.size,0,none⟩ 1 1 [.int .u8 c.toNat] (by rfl) (by rfl) (World.news_of_block (cs:=#[.int .u8 c.toNat]) (t:=5) (fr:=(0,0)) (heap_alloc_new wr _)) (by simp[Value.oneCell']) (by omega) HB.out.1 HB.out.2 (by simp;omega) (wr.heap.size+1) (by simp) ?_;intro gg cp w6 hown' hgrow hat ab8;obtain⟨q1,q2,_⟩:=r5.grown (.cells #[.int .u8 c.toNat] 5) ⟨hgrow.os,hgrow.tape,hgrow.output,hgrow.size,hgrow.block⟩))
         all_goals have R7:=r5.push (.cells #[.int .u8 c.toNat] 5) c hown' ⟨hgrow.os,hgrow.tape,hgrow.output,hgrow.size,hgrow.block⟩
         all_goals clear hown' hgrow r5 hcell d0 d1 d2 d3 d4 d5 d6 fz wrp
         all_goals go_wp2
         all_goals go_roundw
         all_goals first
          | exact⟨k+1,by omega,by omega,o++[c],⟨_,R7.1⟩,f5.trans R7.2,K5,Q8⟩
          | (simp[intOf];omega)
        ·have hkk:k=N:=by omega
         subst hkk;have HE:Hid (o=Rf.Em D k aT.out):=by show _=_;rw[<-HC.out,Nat.sub_self];rfl
         go_wp2
         go_end0
         exact⟨rfl,⟨_,by rw[HQ.out,HP.out,<-HE.out];exact r5⟩,f5⟩
  ·rw[hb1]at d3;rw[hb1]at HP;simp only[if_true]at HP;go_wp2;exact aal (abe rfl _ _ _) rfl ⟨rfl,⟨ov,by rw[HQ.out,HP.out];exact r1⟩,Fr.fW (aaI hlt) k1⟩
end Go.Proofs.YtmfijackgekioaaGreatDoor
