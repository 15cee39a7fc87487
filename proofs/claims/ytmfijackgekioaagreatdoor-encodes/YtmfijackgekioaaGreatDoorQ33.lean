import Derived.Test.YtmfijackgekioaaGreatDoorQ32
set_option maxHeartbeats 4000000
set_option maxRecDepth 100000
namespace Go.Proofs.YtmfijackgekioaaGreatDoor
open Go.RowKit Go.Maps
def N9 (W H n D fl:Nat)(ps:Bool)(T:ByteArray):Prop:=fl≠5->∀i,i<Pm.pn ps->0<(Pm.ca ⟨W,H,n,D⟩ ps i).C->∀j,j<(Pm.ca ⟨W,H,n,D⟩ ps i).R->ae T (Pm.fJ ⟨W,H,n,D⟩ ps i+j*(1+Pm.rowLen (Pm.ca ⟨W,H,n,D⟩ ps i).C (n*D)))=fl
theorem FI {w w':World}{base e n:Nat}{v:Value}{xs:List Value}(h:w.ownsRow base e 1 v n xs)(k:Below w.heap.size w w'):w'.ownsRow base e 1 v n xs:=by
 refine⟨h.1,?_⟩;rcases h.2 with h2|⟨g,cap,cur,a,b,c,d⟩
 ·exact .inl h2
 ·exact .inr ⟨g,cap,cur,a,b,(k.block g (aab c)).trans c,d⟩
structure uc (fl B:Nat) (w:World) (v:Value) (q:Nat) (zs:List Int):Prop where
 own:w.ownsRow B 3 1 v zs.length (vals zs)
 few:zs.length<=q
 said:fl≠5->∀y∈zs,y=(fl:Int)
theorem uc.same {fl B:Nat}{w w':World}{v:Value}{q:Nat}{zs:List Int}(h:uc fl B w v q zs)(k:Below w.heap.size w w'):uc fl B w' v q zs:=⟨FI h.own k,h.few,h.said⟩
theorem JD (W H n D fl:Nat)(kd:Int)(ps:Bool)(pv sv:Value)(T:ByteArray)(w:World)(hol:Pm.raw W H ((n*D:Nat):Int) ps=(T.size:Int))(hT:T.size<=5000000)(hch:Pm.chan kd D=(n:Int))(hn:1<=n/\n<=4)(hW:1<=W/\W<=5000)(hH:1<=H/\H<=5000)(hsd:N9 W H n D fl ps T): Calls Tryz.prog 15 #[img W H kd D ps pv sv,.string T] w fun e w'=>∃ao cap zs,e=.returned (.slice ao zs.length cap)/\(Ints w' ao zs/\(∀a,ao=some a->zs≠[]->a.block<w'.heap.size)/\zs.length<=5000000/\(fl≠5->∀y∈zs,y=(fl:Int)))/\Below w.heap.size w w':=by
 obtain⟨i0,hi0,hz0,hz1,hz2⟩:=aaX Tryz.info3;have hcs:=fun u=>qf kd D u;rw[hch]at hcs;have hdp:=nD kd D (by rw[hch];omega);have Jy:=fun u=>tN ps u;have k0:=ag w (.cells (aH W H kd D ps pv sv) 30);have q0:=ak w (.cells (aH W H kd D ps pv sv) 30);obtain⟨x0,x1,x2,x3,x4,x5,x6⟩:=aI q0;have HQ:Hid (_/\_):=⟨k0,q0⟩
 have HR:Hid (_):=hol;have HSD:Hid (_):=hsd;clear hol hsd k0 q0
 go_enter Tryz.func15,Tryz.ntmps15
 go_wp2_with fail;refine (Jy _).mono ?_;rintro e w1 ⟨rfl,hb1,hs1,hc1⟩;have m1:=(hb1.block w.heap.size (aab HQ.out.2)).trans HQ.out.2;have Jz:=HQ.out.1.trans (hb1.mono HQ.out.1.size);simp only[aaC]at hb1 hs1 hc1;have HW1:Hid (_/\_):=⟨Jz,m1⟩
 have hnp:Pm.pn ps<=7:=by cases ps<;>decide
 obtain⟨np,BZ⟩:∃np,np=Pm.pn ps:=⟨_,rfl⟩
 rw[<-BZ]at hc1 hnp ⊢;have FF:Hid (np=Pm.pn ps):=BZ;have Rc:Hid (_):=hc1;clear HQ hb1 Jy BZ hc1 Jz m1 x0 x1 x2 x3 x4 x5 x6;go_wp2
 go_loopw [5,6,8] (fun ov kv ix wr=>∃(i q:Nat) (zs:List Int),i<=np/\ix=.int .i64 i/\kv=.int .i64 q/\Hid (q=Pm.fJ ⟨W,H,n,D⟩ ps i)/\Hid (uc fl w1.heap.size wr ov q zs)/\Below w1.heap.size w1 wr) (fun _ _ ix _=>np-(intOf ix).toNat)
 case atStart =>
  exact⟨0,0,[],aaj _,rfl,rfl,by show _=_;unfold Pm.fJ;split;rfl;rw[abz],⟨aba _ _ _ _,aaj _,fun _ y hy=>by cases hy⟩,aak _ _⟩
 case round =>
  obtain⟨i,o,zs,hi,rfl,rfl,HO,AO,hbl⟩:=hrel;obtain⟨oa,oc,rfl⟩:=aD AO.out.own;by_cases hlt:i<np
  ·have hlt':(i:Int)<(np:Int):=by omega
   have hsz:=hbl.size;have mr:=(hbl.block w.heap.size (by omega)).trans HW1.out.2;have cl:wr.cell? ⟨w.heap.size+1,i,none⟩=some (.int .i64 (Pm.pq ps i)):=(hbl.cell (p:=⟨w.heap.size+1,i,none⟩) hs1).trans (Rc.out i hlt);obtain⟨m0,m1,m2,m3,m4,m5,m6⟩:=aI mr;have hpt:=fun u=>zO W H (Pm.pq ps i) u hW hH;have Ug:Hid (_):=mr;obtain⟨pq,hpq⟩:∃pq,pq=Pm.pq ps i:=⟨_,rfl⟩
   rw[<-hpq]at cl hpt;have N5:Hid (pq=Pm.pq ps i):=hpq;clear mr hpq;go_wp2;have hS:wr.drew.cell? ⟨w.heap.size+1,i,none⟩=some (.int .i64 pq)/\wr.drew.cell? ⟨w.heap.size,0,none⟩=some (.int .i64 (W:Nat))/\wr.drew.cell? ⟨w.heap.size,1,none⟩=some (.int .i64 (H:Nat)):=⟨cl,m0,m1⟩
   refine aE (fun u=>u.cell? ⟨w.heap.size+1,i,none⟩=some (.int .i64 pq)/\u.cell? ⟨w.heap.size,0,none⟩=some (.int .i64 (W:Nat))/\u.cell? ⟨w.heap.size,1,none⟩=some (.int .i64 (H:Nat))) 99 ?_;refine am [0,1,2,3,4,5,6,7] ?_
   iterate 8 refine au hS ?_
   refine aj ?_;refine ai 8 fun K hK=>?_;go_simp;refine (hpt _).mono ?_;rintro e w2 ⟨NZ,cp1,KQ,cp2,rfl,b2⟩;have b2':Below wr.heap.size wr w2:=(aak _ wr).drew.trans b2;have hS2:w2.cell? ⟨w.heap.size+1,i,none⟩=some (.int .i64 pq)/\w2.cell? ⟨w.heap.size,0,none⟩=some (.int .i64 (W:Nat))/\w2.cell? ⟨w.heap.size,1,none⟩=some (.int .i64 (H:Nat)):=⟨(b2'.cell (p:=⟨w.heap.size+1,i,none⟩) (by dsimp only;omega)).trans cl,(b2'.cell (p:=⟨w.heap.size,0,none⟩) (by dsimp only;omega)).trans m0,(b2'.cell (p:=⟨w.heap.size,1,none⟩) (by dsimp only;omega)).trans m1⟩
   refine hK _ _ (fun _=>hS2) ?_;clear hK K hpt hS cl m0 m1 m2 m3 m4 m5 m6;have JA:Hid (_):=b2';clear b2 b2';refine am [9,10,11,12,13] ?_
   iterate 5 refine au hS2 ?_
   refine aj ?_;refine ar ?_;have Yt:=Pm.vQ pq (min 8 H) W;have hnR:=Pm.vR pq (min 8 W) H;have FG:=fun (hp:0<Pm.nC pq (min 8 H) W)=>N4 W H n D ps i (by rw[<-FF.out];exact hlt) (by rw[<-N5.out];exact hp);rw[<-N5.out]at FG
   have FH:Hid (Pm.fJ ⟨W,H,n,D⟩ ps (i+1)=o+if 0<Pm.nC pq (min 8 H) W then (Pm.ca ⟨W,H,n,D⟩ ps i).R*(1+Pm.rowLen (Pm.ca ⟨W,H,n,D⟩ ps i).C (n*D)) else 0):=by
    show _=_;rw[Pm.qc ⟨W,H,n,D⟩ ps i (by rw[<-FF.out];exact hlt) hW.1,<-N5.out,<-HO.out];rfl
   have RB:Hid (Pm.fJ ⟨W,H,n,D⟩ ps (i+1)<=T.size):=by
    show _<=_;have h1:=Pm.qd ⟨W,H,n,D⟩ ps hW.1 (i+1) (np-(i+1)) (by rw[<-FF.out];omega);rw[show i+1+(np-(i+1))=np by omega,FF.out]at h1;have h2:=Pm.tK ⟨W,H,n,D⟩ ps;have h3:Pm.raw W H ((Pm.cD.bits ⟨W,H,n,D⟩:Nat):Int) ps=(T.size:Int):=HR.out;rw[h3]at h2;omega
   have Uu:Hid (fl≠5->0<(Pm.ca ⟨W,H,n,D⟩ ps i).C->∀j,j<(Pm.ca ⟨W,H,n,D⟩ ps i).R->ae T (o+j*(1+Pm.rowLen (Pm.ca ⟨W,H,n,D⟩ ps i).C (n*D)))=fl):=fun h5 hc j hj=>by
    rw[HO.out];exact HSD.out h5 i (by rw[<-FF.out];exact hlt) hc j hj
   generalize hPe:Pm.ca ⟨W,H,n,D⟩ ps i=P at *;have b2:=JA.out;have Im:=b2.size;have m2:=(b2.block w.heap.size (by omega)).trans Ug.out;obtain⟨y0,y1,y2,y3,y4,y5,y6⟩:=aI m2;have cz:Hid (uc fl w1.heap.size w2 (.slice oa zs.length oc) o zs):=AO.out.same b2;have Qk:=hbl.trans (b2.mono hsz);obtain⟨C,hC⟩:∃C,C=Pm.nC pq (min 8 H) W:=⟨_,rfl⟩
   obtain⟨R,hR⟩:∃R,R=Pm.nR pq (min 8 W) H:=⟨_,rfl⟩
   rw[<-hC]at Yt FH FG ⊢;rw[<-hR]at hnR FG ⊢;obtain⟨cn,hcn⟩:∃cn,cn=C*n:=⟨_,rfl⟩
   have ecn:(C:Int)*(n:Int)=(cn:Int):=by rw[hcn];push_cast;rfl
   have Qb:cn<=20000:=by
    rw[hcn];have:C*n<=5000*4:=aaA (by omega) hn.2;omega
   have wcn:IntKind.i64.wrap (cn:Int)=(cn:Int):=aah _ (by omega);obtain⟨cd,hcd⟩:∃cd,cd=cn*D:=⟨_,rfl⟩
   have ecd:(cn:Int)*(D:Int)=(cd:Int):=by rw[hcd];push_cast;rfl
   have Yu:cd<=320000:=by
    rw[hcd];have:cn*D<=20000*16:=aaA Qb (by omega);omega
   have wcd:IntKind.i64.wrap (cd:Int)=(cd:Int):=aah _ (by omega);have wc7:IntKind.i64.wrap ((cd:Int)+7)=(cd:Int)+7:=aah _ (by omega);obtain⟨size,hsize⟩:∃size,size=(cd+7)/8:=⟨_,rfl⟩
   have Qc:((cd:Int)+7)/8=(size:Int):=by omega
   have etd:((cd:Int)+7).tdiv 8=(size:Int):=by rw[Int.tdiv_eq_ediv_of_nonneg (by omega)];omega
   have wsz:IntKind.i64.wrap (size:Int)=(size:Int):=aah _ (by omega);have PV:size<=40001:=by omega
   have hrl:Pm.rowLen C (n*D)=size:=by
    unfold Pm.rowLen;rw[hsize,hcd,hcn,aa0]
   have Ca:Hid (cn=C*n/\cd=cn*D/\size=(cd+7)/8):=⟨hcn,hcd,hsize⟩
   clear JA Ug AO m2 b2 hS2 hcn hcd hsize hsz hbl HO hC hR;go_wp2;have uI:w2.drew.cell? ⟨w.heap.size,2,none⟩=some (.int .i64 kd)/\w2.drew.cell? ⟨w.heap.size,3,none⟩=some (.int .i64 (D:Nat)):=⟨y2,y3⟩
   refine aE (fun u=>u.cell? ⟨w.heap.size,2,none⟩=some (.int .i64 kd)/\u.cell? ⟨w.heap.size,3,none⟩=some (.int .i64 (D:Nat))) 99 ?_;refine am [0,1,2,3,4,5,8,9] ?_
   iterate 8 refine au uI ?_
   refine aj ?_;refine ai 6 fun K hK=>?_;go_simp;refine (hcs _).mono ?_;rintro e w' ⟨rfl,rfl⟩;refine hK _ _ (fun _=>uI) ?_;clear hK K;refine am [7,10,11,12,13] ?_
   iterate 5 refine au uI ?_
   refine aj ?_;refine ar ?_;clear uI y0 y1 y2 y3 y4 y5 y6 ecn wcn ecd wcd wc7 Qc etd;by_cases hC0:C=0
   ·have hs0:size=0:=by
     have h0:cd=0:=by rw[Ca.out.2.1,Ca.out.1,hC0,abz,abz]
     have:=Ca.out.2.2;omega
    have HOX:Hid (o=Pm.fJ ⟨W,H,n,D⟩ ps (i+1)):=by show _=_;rw[FH.out,aae (by omega)];rfl
    subst hs0;clear FH RB FG Ca hrl hC0;go_wp2
    go_loopw [5,6,12] (fun ov kv jx wr=>ov=.slice oa zs.length oc/\kv=.int .i64 (o:Nat)/\jx=.int .i64 0/\wr=w2.drew) (fun _ _ _ _=>0)
    case atStart=>exact⟨rfl,rfl,rfl,rfl⟩
    case round =>
     obtain⟨rfl,rfl,rfl,rfl⟩:=hrel;rcases Nat.eq_zero_or_pos R with hR0|hR0
     ·subst hR0;go_wp2
      go_roundw
      case rel=>exact⟨i+1,o,zs,by omega,by go_num,rfl,HOX.out,cz.out.same ((aak _ w2).drew),Qk.drew⟩
      case measure=>simp[intOf];omega
     ·have hRp:(0:Int)<(R:Int):=by omega
      go_wp2
      go_roundw
      case rel=>exact⟨i+1,o,zs,by omega,by go_num,rfl,HOX.out,cz.out.same ((aak _ w2).drew),Qk.drew⟩
      case measure=>simp[intOf];omega
   ·have N6:0<C:=by omega
    have Yv:1<=size:=by
     have h1:1*1<=cn:=by rw[Ca.out.1];exact aaA N6 hn.1
     have h2:1*1<=cd:=by rw[Ca.out.2.1];exact aaA h1 (by omega)
     have:=Ca.out.2.2;omega
    have hsp:(0:Int)<(size:Int):=by omega
    have PK:=FG N6;rw[hrl]at PK;rw[aaf N6]at FH
    have JB:Hid (o+R*(1+size)<=T.size/\o+R*(1+size)=Pm.fJ ⟨W,H,n,D⟩ ps (i+1)):=by
     have h1:=FH.out;rw[PK.c,PK.r,hrl]at h1;have h2:=RB.out;rw[h1]at h2;exact⟨h2,h1.symm⟩
    have HSB:Hid (fl≠5->∀j,j<R->ae T (o+j*(1+size))=fl):=fun h5 j hj=>by
     have h:=Uu.out h5 (by rw[PK.c];exact N6) j (by rw[PK.r];exact hj);rw[PK.c,hrl]at h;exact h
    clear FH RB FG Ca hrl hC0 PK Uu;go_wp2
    go_loopw [5,6,12] (fun ov kv jx wr=>∃(j q:Nat) (zs:List Int),j<=R/\jx=.int .i64 j/\kv=.int .i64 q/\Hid (q=o+j*(1+size))/\Hid (uc fl w1.heap.size wr ov q zs)/\Below w1.heap.size w1 wr) (fun _ _ jx _=>R-(intOf jx).toNat)
    case atStart=>exact⟨0,o,zs,aaj _,rfl,rfl,by show _=_;rw[abz,abQ],cz.out.same ((aak _ w2).drew),Qk.drew⟩
    case round =>
     obtain⟨j,q,zs,hj,rfl,rfl,HQ,AO,hbl⟩:=hrel;have hown:=AO.out.own;obtain⟨oa,oc,rfl⟩:=aD hown;by_cases ub:j<R
     ·have N7:(j:Int)<(R:Int):=by omega
      have hqs:q+1+size<=T.size:=by
       have h1:=JB.out.1;have h2:(j+1)*(1+size)<=R*(1+size):=aaU _ ub;rw[abR]at h2;have:=HQ.out;omega
      have Yr:q<T.size:=by omega
      have hqi:(q:Int)<(T.size:Int):=by omega
      have g0:=aY T q Yr;have HSC:Hid (fl≠5->ae T q=fl):=fun h5=>by rw[HQ.out];exact HSB.out h5 j ub
      have aaP:=aZ T q;generalize ae T q=f at *;have wfl:IntKind.i64.wrap (f:Int)=(f:Int):=aah _ (by omega);have Ql:=AO.out.few;have aec:=hbl.size;go_wp2_with (at_builtin;refine aax _ rfl _ _ 24 rfl w1.heap.size 3 i0 (.int .i64 0) 1 8 Tryz.underlying24 hi0 hz0 hz1 hz2 rfl (by decide) _ _ _ rfl (hown.alloc _) ⟨wr.heap.size,0,none⟩ 1 1 [_] rfl rfl (aa1 _ _ _) (by intro u hu;simp at hu;subst hu;rfl) (by unfold maxLen;omega) (by omega) (by have:=hbl.size;simp;omega) ?_;intro v' w3 hown' hgrow _)
      have R2:Hid (uc fl w1.heap.size w3 v' (q+1+size) (zs++[(f:Int)])/\Below w1.heap.size w1 w3):=by
       refine⟨⟨?_,?_,fun h5 y hy=>?_⟩,(hbl.alloc (by have:=hbl.size;omega) _).grown hgrow (by have:=hbl.size;simp;omega) (fun b hb=>(hown.lt b hb).1)⟩
       ·simpa[vals]using hown'
       ·rw[aac,abb];omega
       ·rcases aa8.1 hy with hy|hy
        ·exact AO.out.said h5 y hy
        ·rw[abf.1 hy,HSC.out h5]
      have YC:Hid (q+1+size=o+(j+1)*(1+size)):=by
       show _=_;rw[HQ.out,abR];omega
      clear hown' hgrow hown hbl
      (try go_wp2)
      go_roundw
      case rel=>exact⟨j+1,q+1+size,zs++[(f:Int)],by omega,by go_num,by go_num,YC.out,R2.out.1,R2.out.2⟩
      case measure=>simp[intOf];omega
     ·have hjR:j=R:=by omega
      have YC:Hid (q=Pm.fJ ⟨W,H,n,D⟩ ps (i+1)):=by show _=_;rw[HQ.out,hjR];exact JB.out.2
      have hnlt:¬(j:Int)<(R:Int):=by omega
      clear hown hjR;go_wp2
      go_roundw
      case rel=>exact⟨i+1,q,zs,by omega,by go_num,rfl,YC.out,AO.out,hbl⟩
      case measure=>simp[intOf];omega
  ·have hnlt:¬(i:Int)<(np:Int):=by omega
   have hoe:o<=T.size:=by
    have h1:=HO.out;have h2:=Pm.tK ⟨W,H,n,D⟩ ps;have h3:Pm.raw W H ((Pm.cD.bits ⟨W,H,n,D⟩:Nat):Int) ps=(T.size:Int):=HR.out;rw[h3]at h2;rw[show i=Pm.pn ps by rw[<-FF.out];omega]at h1;omega
   have Ql:=AO.out.few;obtain⟨ao,cap,e1,hin,hl,hab⟩:=qj AO.out.own;injection e1 with e1 _ e2;subst e1 e2;have HE:Hid (Ints wr oa zs/\(∀a,oa=some a->zs≠[]->a.block<wr.heap.size)/\zs.length<=5000000/\(fl≠5->∀y∈zs,y=(fl:Int))):=⟨hin,fun a ea hne=>(hab a ea hne).2,by omega,AO.out.said⟩
   have HB:Hid (_):=HW1.out.1.trans (hbl.mono HW1.out.1.size);clear hin hl hab;go_wp2
   go_ret
   exact⟨oa,oc,zs,rfl,HE.out,HB.out⟩
end Go.Proofs.YtmfijackgekioaaGreatDoor
