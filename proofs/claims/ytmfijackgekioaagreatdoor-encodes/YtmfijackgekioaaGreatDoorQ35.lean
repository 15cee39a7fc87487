import Derived.Test.YtmfijackgekioaaGreatDoorQ25
set_option maxHeartbeats 2000000
set_option maxRecDepth 100000
namespace Go.Proofs.YtmfijackgekioaaGreatDoor
open Go.RowKit
theorem Qm (wd ht kd dp:Int)(ps:Bool)(pa:Option Addr)(pc:Nat)(pz:List Int)(sa:Option Addr)(sc:Nat)(sz:List Int)(w:World)(tt:TypeId)(fr:Nat×Nat)(hl:tM w pa pz sa sz tt fr): Calls Tryz.prog 10 #[img wd ht kd dp ps (.slice pa pz.length pc) (.slice sa sz.length sc)] w fun e w'=>e=.returned (.int .i64 (Pm.check wd ht kd dp ps pz sz))/\Below w.heap.size w w':=by
 by_cases hch:Pm.chan kd dp=0
 ·have hch':(Pm.chan kd dp==0)=true:=abs.2 hch
  go_enter Tryz.func10,Tryz.ntmps10
  go_wp2_with (go_at_call 30;refine (qf _ _ _).mono ?_;rintro e w' ⟨rfl,rfl⟩)
  go_ret
  exact⟨aC (by rw[Pm.check,aaf hch]),(aak _ _).alloc (aad _) _⟩
 ·have hch':(Pm.chan kd dp==0)=false:=aam.2 hch;have hd:=Pm.bp kd dp hch;have hcr:=Pm.cm kd dp
  go_enter Tryz.func10,Tryz.ntmps10
  go_wp2_with fail;refine (qf _ _ _).mono ?_;rintro e w' ⟨rfl,rfl⟩;go_wp2_with fail;refine (xK _ _).mono ?_;rintro e w' ⟨rfl,rfl⟩;go_wp2_with fail;refine (xK _ _).mono ?_;rintro e w' ⟨rfl,rfl⟩;cases s1:Pm.et wd
  ·go_wp2_with fail
   go_ret
   exact⟨aC (by rw[Pm.check,aae hch,aaf (by simp[s1])]),(aak _ _).alloc (aad _) _⟩
  ·cases s2:Pm.et ht
   ·go_wp2_with fail
    go_ret
    exact⟨aC (by rw[Pm.check,aae hch,aaf (by simp[s2])]),(aak _ _).alloc (aad _) _⟩
   ·have hwd:=(Pm.dQ wd).1 s1;have hht:=(Pm.dQ ht).1 s2;have HS:Hid (Pm.et wd=true/\Pm.et ht=true):=⟨s1,s2⟩
    clear s1 s2;obtain⟨W,rfl⟩:=aaO (a:=wd) (by omega);obtain⟨H,rfl⟩:=aaO (a:=ht) (by omega);have l1:=hl.later ((aak _ w).alloc (aad _) (.cells #[.int .i64 W,.int .i64 H,.int .i64 kd,.int .i64 dp,.bool ps,.slice pa pz.length pc,.slice sa sz.length sc] 30));go_wp2_with fail;refine (N0 W H kd dp ps _ (by omega) (by omega) hd).mono ?_;rintro e w1 ⟨rfl,hb1⟩;rw[Pm.Dv W H (by omega)];have l2:=l1.later hb1;obtain⟨hc1,hf1⟩:=qg hb1;by_cases hr:4194304<Pm.raw W H (Pm.chan kd dp*dp) ps
    ·go_wp2_with fail
     go_ret
     exact⟨aC (by rw[Pm.check,aae hch,aae (by simp[HS.out]),aaf hr]),((aak _ _).alloc (aad _) _).trans (hb1.mono (by simp))⟩
    ·go_wp2_with fail;refine (BN W H kd dp ps pa pc pz _ _ hd l2.hpm l2.hp l2.hpa).mono ?_;rintro e w2 ⟨rfl,hb2⟩;have l3:=l2.later hb2;have hb2':=hb1.trans (hb2.mono hb1.size);obtain⟨hc2,hf2⟩:=qg hb2';clear hc1 hf1 hb1 hb2 l1 l2;have HB:Hid (Below w.heap.size w w2):=((aak _ _).alloc (aad _) _).trans (hb2'.mono (by simp));cases s3:Pm.iN kd (Pm.two dp) pz
     ·go_wp2_with fail
      go_ret
      exact⟨aC (by rw[Pm.check,aae hch,aae (by simp[HS.out]),aae (acs.2 hr),aaf s3]),HB.out⟩
     ·have H3:Hid (Pm.iN kd (Pm.two dp) pz=true):=s3;clear s3 hb2';have hl1:=l3.hpm;have hl2:=l3.hsm;unfold maxLen at hl1 hl2;have ha1:=Pm.Tt W H hwd hht;have ha2:=Pm.NV ((W:Int)*H) (Pm.chan kd dp) (by omega) hcr;by_cases c1:(sz.length:Int)=(W:Int)*H*Pm.chan kd dp
      ·have c1':((sz.length:Int) != (W:Int)*H*Pm.chan kd dp)=false:=by simp[c1]
       have HC:Hid ((sz.length:Int)=(W:Int)*H*Pm.chan kd dp):=c1;clear c1;have hw:=mE dp hd;have htr:=Pm.gk dp hd;have hc3:∀o,w2.cell? ⟨w.heap.size,o,none⟩=(w.alloc (.cells #[.int .i64 W,.int .i64 H,.int .i64 kd,.int .i64 dp,.bool ps,.slice pa pz.length pc,.slice sa sz.length sc] 30)).cell? ⟨w.heap.size,o,none⟩:=fun o=>hc2 _ o (by simp);clear hc2 hf2;by_cases hk:kd=3
       ·have hk':(kd==3)=true:=abs.2 hk;have HK:Hid (kd=3):=hk
        have hE:(pz.length:Int)/3<=Pm.two dp:=by
         have h:=H3.out;rw[Pm.iN,aaf hk]at h;simp at h;exact h.1.2
        clear hk;go_wp2
        go_loop [8] (fun i=>∃k:Nat,k<=sz.length/\i=.int .i64 k/\Hid (Pm.fQ (sz.take k) ((pz.length:Int)/3)=true)) (fun i=>sz.length-(intOf i).toNat)
        case atStart=>exact⟨0,aaj _,rfl,rfl⟩
        case round =>
         obtain⟨k,hkl,rfl,HA⟩:=hrel;by_cases hlt:k<sz.length
         ·obtain⟨b,off,rfl,hcl⟩:=l3.hs k hlt;obtain⟨x,hx⟩:∃x:Int,x=sz[k]:=⟨_,rfl⟩
          rw[<-hx]at hcl;have HX:Hid (x=sz[k]):=hx;clear hx;by_cases h1:x<0
          ·go_wp2
           go_ret
           exact⟨aC (by rw[Pm.check,aae hch,aae (by simp[HS.out]),aae (acs.2 hr),aae (by simp[H3.out]),aaf (by rw[Pm.mo,aaf HK.out,Pm.iw sz k hlt _ (by rw[<-HX.out];omega)];simp)]),HB.out⟩
          ·by_cases h2:Pm.two dp<=x
           ·go_wp2
            go_ret
            exact⟨aC (by rw[Pm.check,aae hch,aae (by simp[HS.out]),aae (acs.2 hr),aae (by simp[H3.out]),aaf (by rw[Pm.mo,aaf HK.out,Pm.iw sz k hlt _ (by rw[<-HX.out];omega)];simp)]),HB.out⟩
           ·by_cases h3:(pz.length:Int)/3<=x
            ·go_wp2
             go_ret
             exact⟨aC (by rw[Pm.check,aae hch,aae (by simp[HS.out]),aae (acs.2 hr),aae (by simp[H3.out]),aaf (by rw[Pm.mo,aaf HK.out,Pm.iw sz k hlt _ (by rw[<-HX.out];omega)];simp)]),HB.out⟩
            ·go_wp2
             go_round
             case rel=>exact⟨k+1,by omega,by go_num,by show _=_;rw[Pm.nt sz k hlt,HA.out,<-HX.out];simp;omega⟩
             case measure=>simp[intOf];omega
         ·go_wp2
          go_ret
          have h:=HA.out;rw[aav (by omega)]at h;exact⟨aC (by rw[Pm.check,aae hch,aae (by simp[HS.out]),aae (acs.2 hr),aae (by simp[H3.out]),aae (by rw[Pm.mo,aaf HK.out,h,HC.out];simp)]),HB.out⟩
       ·have hk':(kd==3)=false:=aam.2 hk;go_wp2
        go_loop [8] (fun i=>∃k:Nat,k<=sz.length/\i=.int .i64 k/\Hid (Pm.fQ (sz.take k) (Pm.two dp)=true)) (fun i=>sz.length-(intOf i).toNat)
        case atStart=>exact⟨0,aaj _,rfl,rfl⟩
        case round =>
         obtain⟨k,hkl,rfl,HA⟩:=hrel;by_cases hlt:k<sz.length
         ·obtain⟨b,off,rfl,hcl⟩:=l3.hs k hlt;obtain⟨x,hx⟩:∃x:Int,x=sz[k]:=⟨_,rfl⟩
          rw[<-hx]at hcl;have HX:Hid (x=sz[k]):=hx;clear hx;by_cases h1:x<0
          ·go_wp2
           go_ret
           exact⟨aC (by rw[Pm.check,aae hch,aae (by simp[HS.out]),aae (acs.2 hr),aae (by simp[H3.out]),aaf (by rw[Pm.mo,aae hk,Pm.iw sz k hlt _ (by rw[<-HX.out];omega)];simp)]),HB.out⟩
          ·by_cases h2:Pm.two dp<=x
           ·go_wp2
            go_ret
            exact⟨aC (by rw[Pm.check,aae hch,aae (by simp[HS.out]),aae (acs.2 hr),aae (by simp[H3.out]),aaf (by rw[Pm.mo,aae hk,Pm.iw sz k hlt _ (by rw[<-HX.out];omega)];simp)]),HB.out⟩
           ·go_wp2
            go_round
            case rel=>exact⟨k+1,by omega,by go_num,by show _=_;rw[Pm.nt sz k hlt,HA.out,<-HX.out];simp;omega⟩
            case measure=>simp[intOf];omega
         ·go_wp2
          go_ret
          have h:=HA.out;rw[aav (by omega)]at h;exact⟨aC (by rw[Pm.check,aae hch,aae (by simp[HS.out]),aae (acs.2 hr),aae (by simp[H3.out]),aae (by rw[Pm.mo,aae hk,h,HC.out];simp)]),HB.out⟩
      ·have c1':((sz.length:Int) != (W:Int)*H*Pm.chan kd dp)=true:=by simp[c1]
       have HC:Hid (¬(sz.length:Int)=(W:Int)*H*Pm.chan kd dp):=c1;clear c1;go_wp2
       go_ret
       exact⟨aC (by rw[Pm.check,aae hch,aae (by simp[HS.out]),aae (acs.2 hr),aae (by simp[H3.out]),aaf (by have:=HC.out;simp[Pm.mo,this])]),HB.out⟩
theorem rk {P:Program}(w:World)(dT sT ty elem:TypeId)(hu:P.underlying dT=some (.slice elem))(hsz:(P.info? elem).map (·.size)=some 1)(dp sp:Option Addr)(dLen dCap sLen sCap:Nat)(g off:Nat)(cur:List Value)(t:TypeId)(hg:w.heap[g]?=some (.cells cur.toArray t (0,0)))(cs:List Value)(hn:cs.length=Nat.min sLen dLen)(hpos:0<cs.length->dp=some ⟨g,off,none⟩/\∃ad,sp=some ad/\∀j v,cs[j]?=some v->w.cell? (ad.add j)=some v)(hfit:off+cs.length<=cur.length)(h1:∀v∈cs,v.oneCell'=true)(B:Nat)(w0:World)(hb:Below B w0 w)(hBg:B<=g): ∃w',(Builtin.copy_ #[dT,sT] ty #[.slice dp dLen dCap,.slice sp sLen sCap]).run P w=.ok (goInt cs.length) w'/\w'.heap[g]?=some (.cells (splice cur off cs).toArray t (0,0))/\Below B w0 w':=by
 by_cases h0:cs.length=0
 ·obtain rfl:cs=[]:=aau h0;exact⟨w,run_copy_none (P:=P) w dT sT ty elem dp sp dLen dCap sLen sCap hu hsz (by simpa using hn.symm),by simpa[splice]using hg,hb⟩
 ·obtain⟨rfl,ad,rfl,hsrc⟩:=hpos (by omega);exact⟨_,run_copy_row (P:=P) w dT sT ty elem g off dLen dCap ad sLen sCap cur.toArray t cs hu hsz hg hn hsrc (by simpa using hfit) h1,by simpa[splice]using setRow_heap w g _ _ t _ hg,below_setRow hb hBg _⟩
theorem Uz:(Tryz.prog.info? 3).map (·.size)=some 1:=by kernel_rfl
theorem FJ (n:Nat)(hn:n<=17592186044416)(Z:List Value)(hZ:Z=List.replicate (n+2) (.int .i64 0))(u:World): (Instr.makeSlice 24 (.int .i64 ((n:Int)+2)) (.int .i64 ((n:Int)+2))).run Tryz.prog u = .ok (.slice (some ⟨u.heap.size,0,none⟩) (n+2) (n+2)) (u.alloc (.cells Z.toArray 3)):=by
 obtain⟨i0,hi,hz0,hz1,hz2⟩:=aaX Tryz.info3;have h:=run_make (P:=Tryz.prog) u 24 3 i0 (.int .i64 0) Tryz.underlying24 hi hz0 .i64 .i64 ((n:Int)+2) ((n:Int)+2) (by omega) (abj _) (by rw[hz2];omega) (by omega);have e:((n:Int)+2).toNat=n+2:=by omega
 rw[e]at h
 have e2:(madeCells #[Value.int .i64 0] (n+2))=Z.toArray:=by
  rw[hZ,<-ab7]
 simpa[hz1,Value.cells,e2]using h
theorem Cc (xs:List Value)(n:Nat)(hx:xs.length=n)(Z:List Value)(hZ:Z=List.replicate (n+2) (.int .i64 0)):splice Z 0 xs=xs++[.int .i64 0,.int .i64 0]:=by
 subst hZ hx;simp[splice]
theorem JH (xs:List Value)(n:Nat)(hx:xs.length=n)(a b u:Value):((xs++[a,b]).toArray).setIfInBounds n u=(xs++[u,b]).toArray:=by
 subst hx;simp
theorem JI (xs:List Value)(n:Nat)(hx:xs.length=n)(a b u:Value):((xs++[a,b]).toArray).setIfInBounds (n+1) u=(xs++[a,u]).toArray:=by
 subst hx;simp
theorem wh (ao:Option Addr)(cap:Nat)(zs:List Int)(n:Nat)(w:World)(hn0:zs.length=n)(hn:n<=17592186044416)(hint:Ints w ao zs)(ha:∀a,ao=some a->zs≠[]->a.block<w.heap.size): Calls Tryz.prog 25 #[.slice ao n cap] w fun e w'=>e=.returned (.slice (some ⟨w.heap.size,0,none⟩) n (n+2))/\w'.heap[w.heap.size]?=some (.cells (vals zs++[Value.int .i64 77,Value.int .i64 77]).toArray 3 (0,0))/\Below w.heap.size w w':=by
 obtain⟨Z,hZ⟩:∃Z:List Value,Z=List.replicate (n+2) (.int .i64 0):=⟨_,rfl⟩
 obtain⟨X,hX⟩:∃X:List Value,X=vals zs:=⟨_,rfl⟩
 have GA:X.length=n:=by rw[hX,<-hn0];simp
 have SR:Z.length=n+2:=by rw[hZ];simp
 have hmk:=FJ n hn Z hZ;have hsp:=Cc X n GA Z hZ;have HSP:Hid (splice Z 0 X=X++[Value.int .i64 0,Value.int .i64 0]):=hsp
 have hpos:0<X.length->(some ⟨w.heap.size,0,none⟩:Option Addr)=some ⟨w.heap.size,0,none⟩/\∃ad,ao=some ad/\∀j v,X[j]?=some v->(w.alloc (.cells Z.toArray 3)).cell? (ad.add j)=some v:=by
  intro h0;refine⟨rfl,?_⟩;obtain⟨b,off,rfl,_⟩:=hint 0 (by rw[GA]at h0;omega);refine⟨_,rfl,?_⟩;intro j v hv;subst hX;rw[abk,acm]at hv;obtain⟨z,hz,rfl⟩:=hv;obtain⟨hj,rfl⟩:=List.getElem?_eq_some_iff.1 hz;obtain⟨b',off',e,hc⟩:=hint j hj;simp only[abH,Addr.mk.injEq,and_true]at e;obtain⟨rfl,rfl⟩:=e;have hb:b<w.heap.size:=ha ⟨b,off,none⟩ rfl (ne_of_lt hj);have ea:(⟨b,off,none⟩:Addr).add j=⟨b,off+j,none⟩:=by unfold Addr.add;split<;>simp_all
  rw[ea];exact (aaT (aaM w _ b hb)).trans hc
 have h1:∀v∈X,v.oneCell'=true:=by subst hX;exact ints_oneCell _ _
 have HX:Hid (X=vals zs):=hX;clear hX hsp hZ hint ha;obtain⟨w2,hcp,hg2,hb2⟩:=rk (P:=Tryz.prog) (w.alloc (.cells Z.toArray 3)) 24 24 3 3 Tryz.underlying24 Uz (some ⟨w.heap.size,0,none⟩) ao (n+2) (n+2) n cap w.heap.size 0 Z 3 (ak w _) X (by rw[GA];exact (Nat.min_eq_left (by omega)).symm) hpos (by omega) h1 w.heap.size w ((aak _ _).alloc (aad _) _) (aad _);clear hpos;rw[HSP.out]at hg2;rw[GA]at hcp;have VY:Hid (w2.heap[w.heap.size]?=some (.cells (X++[Value.int .i64 0,Value.int .i64 0]).toArray 3 (0,0))):=hg2;clear hg2
 go_enter Tryz.func25,Tryz.ntmps25
 go_wp2
 go_loopw [4] (fun i wr=>∃k:Nat,k<=2/\i=.int .i64 k/\Hid (wr.heap[w.heap.size]?=some (.cells (X++[Value.int .i64 (if 0<k then 77 else 0),Value.int .i64 (if 1<k then 77 else 0)]).toArray 3 (0,0)))/\Below w.heap.size w wr) (fun i _=>2-(intOf i).toNat)
 case atStart=>exact⟨0,aaj _,rfl,VY,hb2⟩
 case round =>
  clear hcp hb2;obtain⟨k,hk,rfl,HG,hb⟩:=hrel;have h3:k=0\/k=1\/k=2:=by omega
  rcases h3 with rfl|rfl|rfl
  ·have hg:=HG.out;have c1:wr.cell? ⟨w.heap.size,n,none⟩=some (.int .i64 0):=(aan _ _ _ _ _ _ hg).trans (by simp[<-GA]);have f1:wr.frozen? ⟨w.heap.size,n,none⟩=false:=aaE wr _ _ _ _ hg
   have HN:Hid ((wr.setCell ⟨w.heap.size,n,none⟩ (.int .i64 77)).heap[w.heap.size]?=some (.cells (X++[Value.int .i64 77,Value.int .i64 0]).toArray 3 (0,0))/\Below w.heap.size w (wr.setCell ⟨w.heap.size,n,none⟩ (.int .i64 77))) :=
    ⟨by rw[aat _ _ _ _ _ _ hg,JH X n GA];rfl,hb.setCell (aad _) _⟩
   clear hg;go_wp2
   go_roundw
   case rel=>exact⟨1,by omega,rfl,HN.out.1,HN.out.2⟩
   case measure=>simp[intOf]
  ·have hg:=HG.out;have c1:wr.cell? ⟨w.heap.size,n+1,none⟩=some (.int .i64 0):=(aan _ _ _ _ _ _ hg).trans (by simp[<-GA]);have f1:wr.frozen? ⟨w.heap.size,n+1,none⟩=false:=aaE wr _ _ _ _ hg
   have HN:Hid ((wr.setCell ⟨w.heap.size,n+1,none⟩ (.int .i64 77)).heap[w.heap.size]?=some (.cells (X++[Value.int .i64 77,Value.int .i64 77]).toArray 3 (0,0))/\Below w.heap.size w (wr.setCell ⟨w.heap.size,n+1,none⟩ (.int .i64 77))) :=
    ⟨by rw[aat _ _ _ _ _ _ hg,JI X n GA];rfl,hb.setCell (aad _) _⟩
   clear hg;go_wp2
   go_roundw
   case rel=>exact⟨2,by omega,rfl,HN.out.1,HN.out.2⟩
   case measure=>simp[intOf]
  ·go_wp2
   go_ret
   exact⟨rfl,by rw[<-HX.out];exact HG.out,hb⟩
theorem Ae {w:World}{g:Nat}{zs:List Int}(hg:w.heap[g]?=some (.cells (vals zs++[Value.int .i64 77,Value.int .i64 77]).toArray 3 (0,0)))(j:Nat)(hj:j<zs.length):w.cell? ⟨g,j,none⟩=some (.int .i64 zs[j]) :=
 (aan _ _ _ _ _ _ hg).trans (by simp[List.getElem?_append,hj])
theorem Cd {w:World}{g:Nat}{zs:List Int}(hg:w.heap[g]?=some (.cells (vals zs++[Value.int .i64 77,Value.int .i64 77]).toArray 3 (0,0)))(j:Nat)(h1:zs.length<=j)(h2:j<zs.length+2):w.cell? ⟨g,j,none⟩=some (.int .i64 77) :=
 (aan _ _ _ _ _ _ hg).trans (by
  have:j=zs.length\/j=zs.length+1:=by omega
  rcases this with rfl|rfl<;>simp)
theorem JJ (g:Nat)(ao:Option Addr)(cap:Nat)(zs:List Int)(n:Nat)(w:World)(hn0:zs.length=n)(hn:n<=17592186044416)(hg:w.heap[g]?=some (.cells (vals zs++[Value.int .i64 77,Value.int .i64 77]).toArray 3 (0,0)))(hint:Ints w ao zs)(ha:∀a,ao=some a->zs≠[]->a.block<w.heap.size): Calls Tryz.prog 29 #[.slice (some ⟨g,0,none⟩) n (n+2),.slice ao n cap] w fun e w'=>e=.returned (.bool true)/\Below w.heap.size w w':=by
 have HG:Hid (w.heap[g]?=some (.cells (vals zs++[Value.int .i64 77,Value.int .i64 77]).toArray 3 (0,0))):=hg;have lg:=aab hg;clear hg
 go_enter Tryz.func29,Tryz.ntmps29
 go_wp2
 go_loopw [6] (fun i wr=>∃k:Nat,k<=n+2/\i=.int .i64 k/\Below w.heap.size w wr) (fun i _=>n+2-(intOf i).toNat)
 case atStart=>exact⟨0,aaj _,rfl,aak _ _⟩
 case round =>
  obtain⟨k,hk,rfl,hb⟩:=hrel;by_cases h1:k<n
  ·obtain⟨b,off,rfl,hc⟩:=hint k (by omega);have hg:=HG.out;have c1:wr.cell? ⟨g,k,none⟩=some (.int .i64 zs[k]):=(hb.cell lg).trans (Ae hg k (by omega));have c2:wr.cell? ⟨b,off+k,none⟩=some (.int .i64 zs[k]):=(hb.cell (p:=⟨b,off+k,none⟩) (ha ⟨b,off,none⟩ rfl (ne_of_lt (hn0▸h1)))).trans hc;generalize zs[k]=x at c1 c2;clear hc hg hint ha;have i1:(k:Int)<(n:Int):=by omega
   have i2:(k:Int)<(n:Int)+2:=by omega
   have i3:((n:Int)<=(k:Int))=False:=by simp;omega
   have i4:decide ((n:Int)<=(k:Int))=false:=by simp;omega
   go_wp2
   go_quiet (fail)
   go_wp2
   go_roundw
   case rel=>exact⟨k+1,by omega,by go_num,aap hb _⟩
   case measure=>simp[intOf];omega
  ·by_cases h2:k<n+2
   ·have hg:=HG.out;have c1:wr.cell? ⟨g,k,none⟩=some (.int .i64 77):=(hb.cell lg).trans (Cd hg k (by omega) (by omega));clear hg hint ha;have i1:(n:Int)<=(k:Int):=by omega
    have i2:(k:Int)<(n:Int)+2:=by omega
    have i4:decide ((k:Int)<(n:Int))=false:=by simp;omega
    go_wp2
    go_quiet (fail)
    go_wp2
    go_roundw
    case rel=>exact⟨k+1,by omega,by go_num,aap hb _⟩
    case measure=>simp[intOf];omega
   ·go_wp2
    go_ret
    exact⟨rfl,hb⟩
def fT (w:World)(g:Nat)(zs:List Int):Prop:=w.heap[g]?=some (.cells (vals zs++[Value.int .i64 77,Value.int .i64 77]).toArray 3 (0,0))
theorem fT.ints {w:World}{g:Nat}{zs:List Int}(h:fT w g zs):Ints w (some ⟨g,0,none⟩) zs :=
 fun j hj=>⟨g,0,rfl,by rw[aaF];exact Ae h j hj⟩
theorem fT.later {w w':World}{g B:Nat}{zs:List Int}(h:fT w g zs)(hb:Below B w w')(hg:g<B):fT w' g zs:=(hb.block g hg).trans h
theorem fT.set {w:World}{g:Nat}{zs:List Int}(h:fT w g zs)(p:Addr)(hp:g≠p.block)(u:Value):fT (w.setCell p u) g zs:=(aag w p u g hp).trans h
theorem MI (wd ht kd dp:Int)(ps:Bool)(pa:Option Addr)(pc:Nat)(pz:List Int)(sa:Option Addr)(sc:Nat)(sz:List Int)(w:World)(tt:TypeId)(fr:Nat×Nat)(hl:tM w pa pz sa sz tt fr)(h1:pz.length<=17592186044416)(h2:sz.length<=17592186044416): Calls Tryz.prog 7 #[img wd ht kd dp ps (.slice pa pz.length pc) (.slice sa sz.length sc)] w fun e w'=>∃g1 g2,e=.returned (img wd ht kd dp ps (.slice (some ⟨g1,0,none⟩) pz.length (pz.length+2)) (.slice (some ⟨g2,0,none⟩) sz.length (sz.length+2))) /\ fT w' g1 pz/\fT w' g2 sz/\Below w.heap.size w w':=by
 go_enter Tryz.func7,Tryz.ntmps7
 have l1:=(hl.later ((aak _ w).alloc (aad _) (.cells #[.int .i64 wd,.int .i64 ht,.int .i64 kd,.int .i64 dp,.bool ps,.slice pa pz.length pc,.slice sa sz.length sc] 30))).later ((aak _ _).alloc (aad _) (.cells #[.int .i64 0,.int .i64 0,.int .i64 0,.int .i64 0,.bool false,.slice none 0 0,.slice none 0 0] 30));go_wp2_with fail;refine (wh pa pc pz pz.length _ rfl h1 l1.hp l1.hpa).mono ?_;rintro e w1 ⟨rfl,q1,b1⟩;have F1:fT w1 _ pz:=q1;clear q1;obtain⟨c1,f1⟩:=qg b1;have hz1:w.heap.size+2<w1.heap.size:=by have:=aab F1;simpa using this
 have hz2:w.heap.size<w1.heap.size:=by omega
 have hz3:w.heap.size+1<w1.heap.size:=by omega
 have l2:=l1.later b1
 have hbw:Below w.heap.size w (w1.setCell ⟨w.heap.size,5,none⟩ (.slice (some ⟨w.heap.size+1+1,0,none⟩) pz.length (pz.length+2))) :=
  ((((aak _ w).alloc (aad _) _).alloc (by simp) _).trans (b1.mono (by simp;omega))).setCell (aad _) _
 have F1':fT (w1.setCell ⟨w.heap.size,5,none⟩ (.slice (some ⟨w.heap.size+1+1,0,none⟩) pz.length (pz.length+2))) (w.heap.size+1+1) pz :=
  fT.set (by simpa using F1) _ (by simp;omega) _
 go_wp2_with fail;refine (wh sa sc sz sz.length _ rfl h2 (hl.hs.below hbw hl.hsa) (fun a e e2=>aar (hl.hsa a e e2) hbw.size)).mono ?_;rintro e w2 ⟨rfl,q2,b2⟩;have F2:fT w2 _ sz:=q2;clear q2;have YG:=F1'.later b2 (by simp;omega);have hbw2:=hbw.trans (b2.mono hbw.size)
 have k1:w1.heap[w.heap.size]?=some (.cells #[.int .i64 wd,.int .i64 ht,.int .i64 kd,.int .i64 dp,.bool ps,.slice pa pz.length pc,.slice sa sz.length sc] 30 (0,0)) :=
  (b1.block _ (by simp;omega)).trans (aw (ak w _) _)
 have k2:w2.heap[w.heap.size]?=some (.cells #[.int .i64 wd,.int .i64 ht,.int .i64 kd,.int .i64 dp,.bool ps,.slice (some ⟨w.heap.size+1+1,0,none⟩) pz.length (pz.length+2),.slice sa sz.length sc] 30 (0,0)) :=
  (b2.block _ (by simp;omega)).trans ((aat w1 _ 5 _ _ _ k1).trans rfl)
 have k3:w2.heap[w.heap.size+1]?=some (.cells #[.int .i64 0,.int .i64 0,.int .i64 0,.int .i64 0,.bool false,.slice none 0 0,.slice none 0 0] 30 (0,0)) :=
  (b2.block _ (by simp;omega)).trans ((aag w1 _ _ _ (by simp)).trans ((b1.block _ (by simp)).trans (by have:=ak (w.alloc (.cells #[.int .i64 wd,.int .i64 ht,.int .i64 kd,.int .i64 dp,.bool ps,.slice pa pz.length pc,.slice sa sz.length sc] 30)) (.cells #[.int .i64 0,.int .i64 0,.int .i64 0,.int .i64 0,.bool false,.slice none 0 0,.slice none 0 0] 30);rw[aaC]at this;exact this)))
 have d:∀i,w2.cell? ⟨w.heap.size,i,none⟩=(#[.int .i64 wd,.int .i64 ht,.int .i64 kd,.int .i64 dp,.bool ps,.slice (some ⟨w.heap.size+1+1,0,none⟩) pz.length (pz.length+2),.slice sa sz.length sc]:Array Value)[i]?:=fun i=>aan _ _ _ _ _ _ k2;have df:∀i,w2.frozen? ⟨w.heap.size,i,none⟩=false:=fun i=>aaE w2 _ i _ _ k2;have e:∀i,w2.cell? ⟨w.heap.size+1,i,none⟩=(#[.int .i64 0,.int .i64 0,.int .i64 0,.int .i64 0,.bool false,.slice none 0 0,.slice none 0 0]:Array Value)[i]?:=fun i=>aan _ _ _ _ _ _ k3;have ef:∀i,w2.frozen? ⟨w.heap.size+1,i,none⟩=false:=fun i=>aaE w2 _ i _ _ k3;have hy:=aab F2;simp only[aaY]at hy F2;clear l1 l2 hl b1 b2 F1 F1' hbw c1 f1;have K2:Hid (w2.heap[w.heap.size]?=_):=k2;clear k1 k2 k3;go_wp2;refine aal (v:=img wd ht kd dp ps (.slice (some ⟨w.heap.size+1+1,0,none⟩) pz.length (pz.length+2)) (.slice (some ⟨w1.heap.size,0,none⟩) sz.length (sz.length+2))) (by simp[results,Tryz.results7,go_sem,e]) rfl ⟨_,_,rfl,?_,?_,?_⟩
 ·iterate 8 refine fT.set ?_ _ (by simp;try omega) _
  exact YG
 ·iterate 8 refine fT.set ?_ _ (by simp;try omega) _
  exact F2
 ·iterate 8 refine Below.setCell ?_ (by simp) _
  exact hbw2
theorem Qn {w:World}(o1 o2:Obj):Below w.heap.size w ((w.alloc o1).alloc o2):=((aak _ w).alloc (aad _) o1).alloc (by simp) o2
theorem Qo (wd ht kd dp:Int)(ps:Bool)(pa:Option Addr)(pc:Nat)(pz:List Int)(sa:Option Addr)(sc:Nat)(sz:List Int)(g1 g2:Nat)(w:World)(tt:TypeId)(fr:Nat×Nat)(hl:tM w pa pz sa sz tt fr)(h1:pz.length<=17592186044416)(h2:sz.length<=17592186044416)(F1:fT w g1 pz)(F2:fT w g2 sz): Calls Tryz.prog 9 #[img wd ht kd dp ps (.slice (some ⟨g1,0,none⟩) pz.length (pz.length+2)) (.slice (some ⟨g2,0,none⟩) sz.length (sz.length+2)),img wd ht kd dp ps (.slice pa pz.length pc) (.slice sa sz.length sc)] w fun e w'=>e=.returned (.bool true)/\Below w.heap.size w w':=by
 have hb:=Qn (w:=w) (.cells #[.int .i64 wd,.int .i64 ht,.int .i64 kd,.int .i64 dp,.bool ps,.slice (some ⟨g1,0,none⟩) pz.length (pz.length+2),.slice (some ⟨g2,0,none⟩) sz.length (sz.length+2)] 30) (.cells #[.int .i64 wd,.int .i64 ht,.int .i64 kd,.int .i64 dp,.bool ps,.slice pa pz.length pc,.slice sa sz.length sc] 30);have l1:=hl.later hb;have G1:=F1.later hb (aab F1);have G2:=F2.later hb (aab F2)
 go_enter Tryz.func9,Tryz.ntmps9
 go_wp2_with fail;refine (JJ g1 pa pc pz pz.length _ rfl h1 G1 l1.hp l1.hpa).mono ?_;rintro e w1 ⟨rfl,b1⟩;have l2:=l1.later b1;have G2':=G2.later b1 (aab G2);obtain⟨c1,f1⟩:=qg b1;go_wp2_with fail;refine (JJ g2 sa sc sz sz.length _ rfl h2 G2' l2.hs l2.hsa).mono ?_;rintro e w2 ⟨rfl,b2⟩;go_wp2
 go_ret
 exact⟨rfl,(hb.trans (b1.mono hb.size)).trans (b2.mono (aaz hb.size b1.size))⟩
end Go.Proofs.YtmfijackgekioaaGreatDoor
