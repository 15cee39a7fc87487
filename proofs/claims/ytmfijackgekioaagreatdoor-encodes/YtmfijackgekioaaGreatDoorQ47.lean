import Derived.Test.YtmfijackgekioaaGreatDoorQ34
import Derived.Test.YtmfijackgekioaaGreatDoorQ46
set_option maxHeartbeats 2000000
set_option maxRecDepth 100000
namespace Go.Proofs.YtmfijackgekioaaGreatDoor
section
open Go.RowKit
theorem Nj (P b:ByteArray)(level:Nat)(W ks:List Int)(w:World)(hl:level<=2)(hP:Rf.Holds P.data.toList W)(Wi:Rf.Whole b.data.toList b.data.toList.length W ks)(hsz:(W.length+7)/8<=b.size+5+5*(b.size/65535))(hks:∀x∈ks,0<=x/\x<=(level:Int))(hb:b.size<=4500000): Calls Tryz.prog 16 #[.string P,.string b,.int .i64 level] w fun e w'=>e=.returned (.bool true)/\Below w.heap.size w w':=by
 have hbl:b.data.toList.length=b.size:=by rw[aaN];rfl
 have Nx:P.data.toList.length=P.size:=by rw[aaN];rfl
 have Ou:P.size=(W.length+7)/8:=by rw[<-Nx];exact (Rf.sB hP).symm
 have CD:=BU P (b.size:Int) w (by omega)
 have he:Rf.inflate (lw P) (b.size:Int)=⟨W.length,false,false,b.data.toList,ks⟩:=by
  have:=Rf.uD Wi hP;rw[hbl]at this;exact this
 rw[he]at CD;have hbb:(⟨b.data.toList.toArray⟩:ByteArray)=b:=by cases b;simp
 simp only[hbb]at CD;have CD:=CD.mono (fun e w' h=>h ⟨trivial,trivial⟩);rw[<-Ou]at CD hsz;have ae3:¬(P.size:Int)>(b.size:Int)+5+5*((b.size:Int)/65535):=by omega
 have HB:Hid (b.size<=4500000/\P.size<=5000000):=⟨hb,by omega⟩
 have Vr:Hid (∀x∈ks,0<=x/\x<=(level:Int)):=hks;clear he Wi hP Ou hsz hbl Nx hks
 go_enter Tryz.func16,Tryz.ntmps16
 go_wp2_with fail;refine CD.mono ?_;rintro e w1 ⟨kv,base,rfl,hown,hb1⟩;clear CD;obtain⟨n,hn⟩:∃n,ks.length=n:=⟨_,rfl⟩
 rw[hn]at hown;obtain⟨ao,cap,rfl⟩:=aD hown;have HO:Hid (w1.ownsRow base 3 1 (.slice ao n cap) n (vals ks)):=hown
 have hnm:(n:Int)<=9223372036854775807:=by
  rcases hown.2 with⟨_,h2⟩|⟨g,c',cur,_,_,_,h3,h4,_⟩
  ·omega
  ·unfold maxLen at h4;omega
 clear hown;go_wp2
 go_loop [11] (fun i=>∃j:Nat,j<=n/\i=.int .i64 j) (fun i=>n-(intOf i).toNat)
 case atStart=>exact⟨0,aaj _,rfl⟩
 case round =>
  obtain⟨j,hj,rfl⟩:=hrel;by_cases hlt:j<n
  ·have Vl:(j:Int)<(n:Int):=by omega
   obtain⟨g,rfl⟩:∃g,ao=some ⟨g,0,none⟩:=by
    rcases HO.out.2 with⟨h1,h2⟩|⟨g,c',cur,h1,_⟩
    ·omega
    ·simp only[abd]at h1;exact⟨g,h1.1⟩
   have hc:=HO.out.cellAt j (by omega)
   have hx:(vals ks)[j]?=some (.int .i64 (ks.getD j 0)):=by
    rw[vals,abk,aai (by omega),aaa,aai (by omega)];rfl
   rw[hx]at hc;have hr:=Vr.out (ks.getD j 0) (by rw[aaa,aai (by omega)];exact aaR _);clear hx;generalize ks.getD j 0=x at *;by_cases h0:level=0
   ·subst h0;obtain rfl:x=0:=by omega
    go_wp2
    go_round
    case rel=>exact⟨j+1,by omega,by go_num⟩
    case measure=>simp[intOf];omega
   ·by_cases h1:level=1
    ·subst h1;have hx2:¬x=2:=by omega
     go_wp2
     go_round
     case rel=>exact⟨j+1,by omega,by go_num⟩
     case measure=>simp[intOf];omega
    ·obtain rfl:level=2:=by omega
     go_wp2
     go_round
     case rel=>exact⟨j+1,by omega,by go_num⟩
     case measure=>simp[intOf];omega
  ·go_wp2
   go_ret
   exact⟨rfl,hb1⟩
end
section
open Go.RowKit Go.Maps
def jC (h:Hd):Nat:=if h.kd=3 then 2 else 1
theorem qy (h:Hd)(aK:List Int)(ds:List ByteArray):(bZ h aK ds).length=jC h+ds.length+1:=by
 unfold bZ jC;split<;>simp<;>omega
theorem Gn (h:Hd)(aK:List Int)(ds:List ByteArray)(i:Nat)(hi:i<ds.length):dg (bZ h aK ds) (jC h+i)=⟨aO aP,ds[i]⟩:=by
 unfold dg bZ jC;rw[aaa];split
 ·rw[show 2+i=i+1+1 by omega,List.getElem?_cons_succ,List.singleton_append,List.getElem?_cons_succ,aaS (by simpa using hi)];simp[hi]
 ·rw[show 1+i=i+1 by omega,List.getElem?_cons_succ,abg,aaS (by simpa using hi)];simp[hi]
theorem Gp (h:Hd)(aK:List Int)(ds:List ByteArray)(h3:h.kd=3):(dg (bZ h aK ds) 1).name=aO bQ:=by
 unfold dg bZ;rw[aaf h3];rfl
theorem Gq (h:Hd)(aK:List Int)(ds:List ByteArray)(ck:Nat)(hd:∀d∈ds,d.size<=ck)(i:Nat)(h1:jC h<=i)(h2:i+1<(bZ h aK ds).length):(dg (bZ h aK ds) i).name=aO aP/\(dg (bZ h aK ds) i).data.size<=ck:=by
 rw[qy]at h2;obtain⟨j,rfl⟩:∃j,i=jC h+j:=⟨i-jC h,by omega⟩
 rw[Gn h aK ds j (by omega)];exact⟨rfl,hd _ (aaR _)⟩
theorem CF {h:Hd}{W H D n:Nat}{kd:Int}{ps:Bool}{aK S:List Int}{T X b:ByteArray}{ds:List ByteArray}{lv fl ck:Nat}(hh:h=⟨W,H,kd,D,ps⟩)(hn:Pm.chan kd D=(n:Int))(f:fk h aK S)(hT:(T.size:Int)=mM h)(hw:Pm.Written (gT h) S (ae T) fl h.ps)(hp:jV T X lv)(hc:Ec X X.size ck ds)(hck:ck<=1048576)(hb:b.data.toList=qY h aK ds): Ob b (bZ h aK ds) ⟨cL h,if h.kd=3 then some (cO aK) else none,X⟩ W H D n kd ps aK S T:=by
 have hr:=f.raw;have hTs:T.size<=4194304:=by omega
 have hne:=wy hc (hp.size (by omega)).2;have hd:∀d∈ds,d.size<=2147483647:=fun d hd=>by have:=(hc.few d hd).2;omega
 obtain⟨h1,h2,_⟩:=Cl hb (by have:=f.few;omega) hd hne;have h3:=uj h aK ds hne;rw[hc.cat,rL]at h3;obtain⟨k1,k2⟩:=FT f.hd;obtain⟨p1,p2⟩:=FV f
 have VB:X.size<=4200000:=by
  obtain⟨P,Wb,ks,rfl,g1,_,g3,_⟩:=hp;rw[gB];have g4:=g1.1;rw[cy]at g4;omega
 have hpf:=f.few;have hbs:=Gl hc (by omega) hb;have hr4:=Pm.cm h.kd h.dp;have hch:=f.hd.ch;have hdp:=Pm.bp _ _ f.hd.ch;have hwd:=f.hd.wd;have hht:=f.hd.ht
 have hc0:jM X (T.size:Int)=0/\nZ X (T.size:Int)=T/\DQ X (T.size:Int):=by
  obtain⟨P,Wb,ks,rfl,g1,g2,g3,_⟩:=hp;exact Kv g1 g2 (by omega) (by omega)
 have hpi:Pm.nJ (gT h) (ae T) h.ps=some S :=
  Pm.xV f.fits (by show 0<(Pm.chan h.kd h.dp).toNat;omega) (by show 0<h.dp.toNat;omega) (by show 0<h.wd.toNat;omega) hw
 have hix:h.kd=3->Pm.fQ S ((aK.length:Int)/3)=true:=fun e=>by
  have hs:=f.YK;unfold Pm.mo at hs;rw[aaf e,aaJ]at hs;exact hs.2
 subst hh;dsimp only at hr4 hch hdp hwd hht;rw[hn]at hr4 hch;have hpo:gT ⟨W,H,kd,D,ps⟩=⟨W,H,n,D⟩:=by unfold gT;dsimp only;rw[hn];simp
 rw[hpo]at hpi
 have hpq:∀q,(if kd=3 then some (cO aK) else none)=some q->q.size<=60000000:=fun q hq=>by
  split at hq
  ·injection hq with hq;rw[<-hq,iU];omega
  ·cases hq
 exact⟨by omega,h1,h2,h3,rfl,by rw[qy];omega,k2,k1,by omega,by omega,hn,by omega,hT.symm,hTs,p2,p1,hpq,aaz VB (by omega),hc0.1,hc0.2.1,hc0.2.2,hpi,hix,by omega⟩
theorem Kz {m:Pm.cD}{S:List Int}{T:Nat->Nat}{fl:Nat}{on:Bool}(h:Pm.Written m S T fl on)(hf:fl≠5)(i:Nat)(hi:i<Pm.pn on)(hC:0<(Pm.ca m on i).C)(j:Nat)(hj:j<(Pm.ca m on i).R):T (Pm.fJ m on i+j*(1+Pm.rowLen (Pm.ca m on i).C m.bits))=fl:=by
 unfold Pm.Written at h;unfold Pm.ca Pm.fJ at *;cases on with
 | true =>
  rw[aaf rfl]at h hC hj ⊢;rw[aaf rfl];exact (h i hi hC (by omega) j hj).said hf
 | false =>
  rw[aae (by decide)]at h hC hj ⊢;rw[aae (by decide)];have h0:i=0:=by simp[Pm.pn]at hi;omega
  subst h0;rw[abz];exact (h j hj).said hf
theorem KA (lv fl ck:Int)(w:World):Calls Tryz.prog 11 #[.agg #[.int .i64 lv,.int .i64 fl,.int .i64 ck]] w fun e w'=>e=.returned (.bool (dy lv fl ck))/\Below w.heap.size w w':=by
 have HK:Hid (_):=ag w (.cells #[.int .i64 lv,.int .i64 fl,.int .i64 ck] 32)
 go_enter Tryz.func11,Tryz.ntmps11
 go_wp2
 all_goals go_ret
 all_goals exact⟨aG (by unfold dy;rw[aa3];simp;try omega),HK.out⟩
theorem Ej {nm:ByteArray}{l:List UInt8}(h:nm=aO l):(nm.toList==l)=true:=by
 rw[h,ab3];simp
theorem QU (L:List Ch)(g cap:Nat)(wd ht kd dp:Int)(ps:Bool)(pv sv:Value)(lv fl ck:Int)(w:World)(hv:xT w g L)(I4:L.length<=6000000)(h2:2<=L.length)(k0:Nat)(hk0:k0=if kd=3 then 2 else 1)(hp:kd=3->(dg L 1).name=aO bQ)(hm:∀i,k0<=i->i+1<L.length->(dg L i).name=aO aP/\((dg L i).data.size:Int)<=ck): Calls Tryz.prog 14 #[.slice (some ⟨g,0,none⟩) L.length cap,img wd ht kd dp ps pv sv,.agg #[.int .i64 lv,.int .i64 fl,.int .i64 ck]] w fun e w'=>e=.returned (.bool true)/\Below w.heap.size w w':=by
 obtain⟨kb,q0,q1⟩:=bO w (.cells #[.int .i64 wd,.int .i64 ht,.int .i64 kd,.int .i64 dp,.bool ps,pv,sv] 30) (.cells #[.int .i64 lv,.int .i64 fl,.int .i64 ck] 32);have hv1:=hv.below kb;obtain⟨W0,hW0⟩:∃W0,W0=(w.alloc (.cells #[.int .i64 wd,.int .i64 ht,.int .i64 kd,.int .i64 dp,.bool ps,pv,sv] 30)).alloc (.cells #[.int .i64 lv,.int .i64 fl,.int .i64 ck] 32):=⟨_,rfl⟩
 obtain⟨x0,x1,x2,x3,x4,x5,x6⟩:=aI q0;obtain⟨y0,y1,y2⟩:=fm q1
 have HL:Hid (∀k,k0<=k->k+1<L.length->∃nm dt,W0.cell? ⟨g,k*2,none⟩=some (.string nm)/\W0.cell? ⟨g,k*2+1,none⟩=some (.string dt)/\(nm.toList==[73,68,65,84])=true/\(dt.size:Int)<=ck):=fun k h1 h3=>by
  rw[hW0];exact⟨_,_,(hv1.at_ k (by omega)).1,(hv1.at_ k (by omega)).2,Ej (hm k h1 h3).1,(hm k h1 h3).2⟩
 have HY:Hid (W0.cell? ⟨w.heap.size+1,2,none⟩=some (.int .i64 ck)/\Below w.heap.size w W0):=by rw[hW0];exact⟨y2,kb⟩
 have hn2:¬(L.length:Int)<2:=by omega
 by_cases k3:kd=3
 ·rw[aaf k3]at hk0;have YF:(kd==3)=true:=abs.2 k3;obtain⟨nm,c1,hne⟩:∃nm,((w.alloc (.cells #[.int .i64 wd,.int .i64 ht,.int .i64 kd,.int .i64 dp,.bool ps,pv,sv] 30)).alloc (.cells #[.int .i64 lv,.int .i64 fl,.int .i64 ck] 32)).cell? ⟨g,2,none⟩=some (.string nm)/\(nm.toList==[80,76,84,69])=true:=⟨_,(hv1.at_ 1 (by omega)).1,Ej (hp k3)⟩
  have h1L:(1:Int)<(L.length:Int):=by omega
  clear k3 hp hm hv hv1 kb q0 q1;subst hk0
  go_enter Tryz.func14,Tryz.ntmps14
  go_wp2;rw[<-hW0];clear hW0 c1 x0 x1 x2 x3 x4 x5 x6 y0 y1 y2 hne
  go_loopw [8] (fun ix wr=>∃k m:Nat,2<=k/\k<=L.length/\ix=.int .i64 k/\wr=W0.drewN m) (fun ix _=>L.length-(intOf ix).toNat)
  case atStart=>exact⟨2,0,aad _,h2,rfl,rfl⟩
  case round =>
   obtain⟨k,m,hk,hkl,rfl,hwr⟩:=hrel;by_cases hlt:k+1<L.length
   ·have hlt':(k:Int)+1<(L.length:Int):=by omega
    have hlt2:(k:Int)<(L.length:Int):=by omega
    obtain⟨nm,dt,c1,c2,hne,hle⟩:=HL.out k hk hlt;have hS:wr.drew.cell? ⟨g,k*2,none⟩=some (.string nm)/\wr.drew.cell? ⟨g,k*2+1,none⟩=some (.string dt)/\wr.drew.cell? ⟨w.heap.size+1,2,none⟩=some (.int .i64 ck):=by rw[hwr];exact⟨c1,c2,HY.out.1⟩
    have hgt:¬(dt.size:Int)>ck:=by omega
    have GI:Hid (_):=hwr;clear hwr c1 c2 hle;go_wp2;refine aE (fun u=>u.cell? ⟨g,k*2,none⟩=some (.string nm)/\u.cell? ⟨g,k*2+1,none⟩=some (.string dt)/\u.cell? ⟨w.heap.size+1,2,none⟩=some (.int .i64 ck)) 99 ?_;refine am [0,1,2,3,4,5,6,7,8,9,10,11,12,13,14,15,16] ?_
    iterate 17 refine au hS ?_
    refine aj ?_;refine ar ?_;go_wp2
    go_roundw
    case rel=>exact⟨k+1,m+1,by omega,by omega,by go_num,by rw[GI.out];simp⟩
    case measure=>simp[intOf];omega
   ·have hnlt:¬(k:Int)+1<(L.length:Int):=by omega
    have HF:Hid (Below w.heap.size w wr):=by rw[hwr];exact aap HY.out.2 m
    clear hwr;go_wp2
    go_ret
    exact⟨rfl,HF.out⟩
 ·rw[aae k3]at hk0;have YF:(kd==3)=false:=aam.2 k3;clear k3 hp hm hv hv1 kb q0 q1;subst hk0
  go_enter Tryz.func14,Tryz.ntmps14
  go_wp2;rw[<-hW0];clear hW0 x0 x1 x2 x3 x4 x5 x6 y0 y1 y2
  go_loopw [8] (fun ix wr=>∃k m:Nat,1<=k/\k<=L.length/\ix=.int .i64 k/\wr=W0.drewN m) (fun ix _=>L.length-(intOf ix).toNat)
  case atStart=>exact⟨1,0,aad _,by omega,rfl,rfl⟩
  case round =>
   obtain⟨k,m,hk,hkl,rfl,hwr⟩:=hrel;by_cases hlt:k+1<L.length
   ·have hlt':(k:Int)+1<(L.length:Int):=by omega
    have hlt2:(k:Int)<(L.length:Int):=by omega
    obtain⟨nm,dt,c1,c2,hne,hle⟩:=HL.out k hk hlt;have hS:wr.drew.cell? ⟨g,k*2,none⟩=some (.string nm)/\wr.drew.cell? ⟨g,k*2+1,none⟩=some (.string dt)/\wr.drew.cell? ⟨w.heap.size+1,2,none⟩=some (.int .i64 ck):=by rw[hwr];exact⟨c1,c2,HY.out.1⟩
    have hgt:¬(dt.size:Int)>ck:=by omega
    have GI:Hid (_):=hwr;clear hwr c1 c2 hle;go_wp2;refine aE (fun u=>u.cell? ⟨g,k*2,none⟩=some (.string nm)/\u.cell? ⟨g,k*2+1,none⟩=some (.string dt)/\u.cell? ⟨w.heap.size+1,2,none⟩=some (.int .i64 ck)) 99 ?_;refine am [0,1,2,3,4,5,6,7,8,9,10,11,12,13,14,15,16] ?_
    iterate 17 refine au hS ?_
    refine aj ?_;refine ar ?_;go_wp2
    go_roundw
    case rel=>exact⟨k+1,m+1,by omega,by omega,by go_num,by rw[GI.out];simp⟩
    case measure=>simp[intOf];omega
   ·have hnlt:¬(k:Int)+1<(L.length:Int):=by omega
    have HF:Hid (Below w.heap.size w wr):=by rw[hwr];exact aap HY.out.2 m
    clear hwr;go_wp2
    go_ret
    exact⟨rfl,HF.out⟩
end
end Go.Proofs.YtmfijackgekioaaGreatDoor
