import Derived.Test.YtmfijackgekioaaGreatDoorQ22
import Derived.Maps.AppendAt
set_option maxHeartbeats 8000000
set_option maxRecDepth 100000
namespace Go.Proofs.YtmfijackgekioaaGreatDoor
open Go.RowKit Go.Maps
def More (T:List UInt8)(per p most l:Nat):Prop:=per<=p->per<=32768->∀m,m<=most->3<=m->(∀k,k<m->T.getD (p+k) 0=T.getD (p+k-per) 0)->m<=l
def jj (T:List UInt8)(per p most l d:Nat):Prop:=kC T p most l d/\More T per p most l
theorem nG (F M G en per N end_:Nat)(T:ByteArray)(w:World)(h:Fd w F M G en per T N)(hNe:N<=end_)(he:end_<=T.size)(hT:T.size<=4500000)(gz:0<T.size->1<=per)(I3:per<=4500000): Calls Tryz.prog 204 #[.pointer (some ⟨F,0,none⟩),.int .i64 N,.int .i64 end_] w fun e w'=>∃l d:Nat,e=.returned (.agg #[.int .i64 l,.int .i64 d])/\jj T.data.toList per N (min (end_-N) 258) l d/\Below w.heap.size w w':=by
 have HH:Hid (Fd w F M G en per T N):=h;have HT:Hid (N<=end_/\end_<=T.size/\T.size<=4500000):=⟨hNe,he,hT⟩
 have Ap:Hid (0<T.size->1<=per):=gz;obtain⟨x,w1⟩:∃x,IntKind.i64.wrap ((end_:Int)-(N:Int))=x:=⟨_,rfl⟩
 have hxe:x=((end_-N:Nat):Int):=by rw[<-w1];exact (aah _ (by omega)).trans (by omega)
 obtain⟨m,hm⟩:∃m,min (end_-N) 258=m:=⟨_,rfl⟩
 have HM:Hid (min (end_-N) 258=m):=hm;have hmi:min x 258=(m:Int):=by omega
 obtain⟨mn,hmn⟩:∃mn,min (N:Int) 32768=mn:=⟨_,rfl⟩
 have UV:Hid (mn=min (N:Int) 32768):=hmn.symm;obtain⟨pi,hpi⟩:∃pi,IntKind.i64.wrap ((N:Int)-32768)=pi:=⟨_,rfl⟩
 have hpe:pi=(N:Int)-32768:=by rw[<-hpi];exact aah _ (by omega)
 obtain⟨mx,hmx⟩:∃mx,max pi 0=mx:=⟨_,rfl⟩
 have Rv:Hid (mx=max ((N:Int)-32768) 0):=by show _=_;rw[<-hmx,hpe]
 have MC:Hid (per<=N->IntKind.i64.wrap ((N:Int)-(per:Int))=((N-per:Nat):Int)):=fun hh=>(aah _ (by omega)).trans (by omega);rw[hm];have hcall:=Mk;clear h hNe he hT hm hxe hpe gz I3;by_cases hm3:(m:Int)<3
 ·obtain⟨k0,_⟩:=sg w (.cells #[.pointer (some ⟨F,0,none⟩)] 212) (.cells #[.int .i64 (N:Nat)] 3) (.cells #[.int .i64 1,.int .i64 0] 216) (.cells #[.int .i64 1,.int .i64 0] 216) (.cells #[.int .i64 (m:Nat)] 3)
  go_enter Tryz.func204,Tryz.ntmps204
  go_wp2;refine aal (v:=.agg #[.int .i64 ((1:Nat):Int),.int .i64 ((0:Nat):Int)]) ?_ rfl ⟨1,0,rfl,⟨.inl ⟨rfl,rfl⟩,fun _ _ x h1 h2=>by omega⟩,k0⟩;simp[results,Tryz.results204,go_sem]
 ·obtain⟨k0,q0,q1,q2,q3,q4⟩:=sg w (.cells #[.pointer (some ⟨F,0,none⟩)] 212) (.cells #[.int .i64 (N:Nat)] 3) (.cells #[.int .i64 0,.int .i64 0] 216) (.cells #[.int .i64 1,.int .i64 0] 216) (.cells #[.int .i64 (m:Nat)] 3)
  go_enter Tryz.func204,Tryz.ntmps204
  go_wp2_with fail;generalize Pz:(((((w.alloc (.cells #[.pointer (some ⟨F,0,none⟩)] 212)).alloc (.cells #[.int .i64 (N:Nat)] 3)).alloc (.cells #[.int .i64 0,.int .i64 0] 216)).alloc (.cells #[.int .i64 1,.int .i64 0] 216)).alloc (.cells #[.int .i64 (m:Nat)] 3))=wa at *;have V8:ij wa (w.heap.size) (w.heap.size+1) (w.heap.size+1+1+1+1) (w.heap.size+1+1+1) F N m 1 0:=⟨q0,q1,q4,q3,by omega,by omega,by omega⟩
  have YO:Fd wa F M G en per T N:=HH.out.below k0;have rq:Hid (kC T.data.toList N m 1 0):=.inl ⟨rfl,rfl⟩;have cf0:=V8.f.cell;have cf1:=YO.box.cells.2.2.2;have cf2:=V8.p.cell;have UW:Hid (Fd wa F M G en per T N):=YO;have UX:Hid (wa.heap[w.heap.size+1+1]?=some (.cells #[.int .i64 0,.int .i64 0] 216 (0,0))):=q2;clear q0 q1 q2 q3 q4 YO Pz
  go_quiet (fail)
  have rr:Hid (Fd (wa.drewN nq) F M G en per T N):=UW.out.kept (fun j _=>rfl);have yt:ij (wa.drewN nq) (w.heap.size) (w.heap.size+1) (w.heap.size+1+1+1+1) (w.heap.size+1+1+1) F N m 1 0:=V8.drewN nq;have Qy:Hid ((wa.drewN nq).heap[w.heap.size+1+1]?=some (.cells #[.int .i64 0,.int .i64 0] 216 (0,0))):=UX.out;have Qz:Below w.heap.size w (wa.drewN nq):=aap k0 nq;generalize wa.drewN nq=u at *;clear cf0 cf1 cf2 UW UX V8 k0;obtain⟨l,d,yt,rq⟩:∃l d:Nat,ij u (w.heap.size) (w.heap.size+1) (w.heap.size+1+1+1+1) (w.heap.size+1+1+1) F N m l d/\Hid (kC T.data.toList N m l d):=⟨1,0,yt,rq⟩
  by_cases hpn:(per:Int)<=mn
  ·have hpw:IntKind.i64.wrap ((N:Int)-(per:Int))=((N-per:Nat):Int):=MC.out (by have:=UV.out;omega);have Aq:=BI (w.heap.size) (w.heap.size+1) (w.heap.size+1+1+1+1) (w.heap.size+1+1+1) F M en per N m l d (N-per) (some ⟨G,0,none⟩) T u.drew (yt.drewN 1) rr.out.box HT.out.2.2 (by have:=HT.out;have:=HM.out;have:=Ap.out (by omega);have:=UV.out;omega) (by have:=UV.out;omega) (by have:=HT.out;have:=HM.out;omega) rq.out;have hS:u.drew.cell? ⟨w.heap.size,0,none⟩=some (.pointer (some ⟨F,0,none⟩))/\u.drew.cell? ⟨F,3,none⟩=some (.int .i64 (per:Nat))/\u.drew.cell? ⟨w.heap.size+1,0,none⟩=some (.int .i64 (N:Nat)):=⟨yt.f.cell,rr.out.box.cells.2.2.2,yt.p.cell⟩
   have XP:=rr.out.lt;have TRv:ij u.drew (w.heap.size) (w.heap.size+1) (w.heap.size+1+1+1+1) (w.heap.size+1+1+1) F N m l d:=yt.drewN 1;have FDv:Fd u.drew F M G en per T N:=rr.out.kept (fun j _=>rfl);have YP:u.drew.heap[w.heap.size+1+1]?=some (.cells #[.int .i64 0,.int .i64 0] 216 (0,0)):=Qy.out;have V9:Below w.heap.size w u.drew:=Qz.drew;clear yt rr Qy Qz rq;have V4:Hid (N-per+per=N):=by show _=_;have:=UV.out;omega
   generalize N-per=bb at *;go_wp2_with fail;refine aE (fun u=>u.cell? ⟨w.heap.size,0,none⟩=some (.pointer (some ⟨F,0,none⟩))/\u.cell? ⟨F,3,none⟩=some (.int .i64 (per:Nat))/\u.cell? ⟨w.heap.size+1,0,none⟩=some (.int .i64 (N:Nat))) 999 ?_;generalize u.drew=v at *;refine am [0,1,2,3,4,5,6] ?_
   iterate 7 (refine ay hS ?_;try simp only[Act.put])
   refine aj ?_;refine ai 7 fun K hK=>?_;go_simp;refine Aq.mono ?_;rintro e u ⟨rfl,l,d,hbo,yt,hmo,kp⟩;have UY:=HH.out.lt;have YQ:Fd u F M G en per T N:=FDv.kept (fun j hj=>kp.block j (by have:=V9.size;rcases hj with rfl|rfl|rfl<;>omega) (fun e=>by rcases hj with rfl|rfl|rfl<;>omega));have rr:Hid (Fd u F M G en per T N):=YQ;have rq:Hid (jj T.data.toList per N m l d):=⟨hbo,fun h1 h2 x h3 h4 h5=>hmo.2 x h3 h4 (fun k hk=>by rw[h5 k hk,show N+k-per=bb+k by have:=V4.out;omega])⟩
   clear hmo V4;have Qy:Hid (u.heap[w.heap.size+1+1]?=some (.cells #[.int .i64 0,.int .i64 0] 216 (0,0))):=(kp.block _ (aab YP) (by omega)).trans YP;have Qz:Below w.heap.size w u:=V9.trans (kp.below V9.size (fun k _ e=>by omega));refine hK _ _ (fun _=>⟨yt.f.cell,YQ.box.cells.2.2.2,yt.p.cell⟩) ?_;clear hK K YQ hbo FDv YP V9 kp Aq hS TRv;refine ar ?_;have qp:=rr.out;obtain⟨D,q,hM,hq,hk⟩:=qp.map;obtain⟨e0,e1,e2,e3⟩:=qp.box.cells;have t0:=yt.f.cell;have t1:=yt.p.cell;have JZ:=HT.out;have hxm:=HM.out;have ve:=fun n=>dP F M en per (some ⟨G,0,none⟩) T N (u.drewN n) qp.box (by omega) JZ.2.2;have hkey:=tr (lj T N) (gY T N)
   obtain⟨cv,hb,hcv,hlk⟩:∃(cv:Int) (hb:Bool),(hb=true->0<=cv/\cv<(N:Int)/\(N:Int)<=cv+32768)/\∀n,(Instr.lookup 235 (.map (some M)) (.int .u32 (lj T N:Nat)) true).run Tryz.prog (u.drewN n)=.ok (.tuple #[.int .i64 cv,.bool hb]) (u.drewN n):=by
    obtain⟨cv,_,hat,_⟩:=hM.lookup_int bq Tryz.underlying235 Tryz.underlying3 (iF u) hkey;refine⟨cv,Maps.has D (kW (lj T N)),fun hh=>?_,fun n=>?_⟩
    ·obtain⟨v,hv1,hv2,hv3,_⟩:=hk.val _ (gY T N) hh;rw[hv1]at hat;simp only[abw,abA,abG]at hat;omega
    ·obtain⟨v,ps,hrun,hv⟩:=World.ownsMap.look_ok (w:=u.drewN n) hM bq Tryz.underlying235 (iF _) (plainElem_int Tryz.underlying3 (by decide)) hkey;obtain⟨c,rfl,hc,hwc⟩:=plainElem_int_inv Tryz.underlying3 hv;rw[hat]at hc;simp only[Prod.mk.injEq,abw,abA,abG]at hc;rw[hrun,hc.1]
   clear JZ hxm hM hq hk qp hkey;generalize lj T N=kx at *;have UZ:Hid (hb=true->0<=cv/\cv<(N:Int)/\(N:Int)<=cv+32768):=hcv;clear hcv;go_wp2_with fail
   go_quiet ((go_at_call 226;exact sh (ve _)))
   have U0:Hid (ij (u.drewN nq) (w.heap.size) (w.heap.size+1) (w.heap.size+1+1+1+1) (w.heap.size+1+1+1) F N m l d):=yt.drewN nq;have U1:Hid (Fd (u.drewN nq) F M G en per T N):=rr.out.kept (fun j _=>rfl);have U2:Hid ((u.drewN nq).heap[w.heap.size+1+1]?=some (.cells #[.int .i64 0,.int .i64 0] 216 (0,0))):=Qy.out;have U3:Below w.heap.size w (u.drewN nq):=aap Qz nq;generalize u.drewN nq=uq at *;clear hlk ve e0 e1 e2 e3 t0 t1 yt rr Qy Qz;go_wp2
   go_loopw [10,11,12] (fun bv YR lv wr=>∃(b:Int) (ok:Bool) (lf l d:Nat),bv=.int .i64 b/\YR=.bool ok/\lv=.int .i64 lf/\lf<=48/\Hid (ok=true->0<=b/\b<(N:Int)/\(N:Int)<=b+32768)/\Hid (ij wr (w.heap.size) (w.heap.size+1) (w.heap.size+1+1+1+1) (w.heap.size+1+1+1) F N m l d)/\Hid (jj T.data.toList per N m l d)/\Hid (Fd wr F M G en per T N)/\Hid (wr.heap[w.heap.size+1+1]?=some (.cells #[.int .i64 0,.int .i64 0] 216 (0,0)))/\Below w.heap.size w wr) (fun _ _ lv _=>(intOf lv).toNat)
   case atStart=>exact⟨cv,hb,48,l,d,rfl,rfl,rfl,aad _,UZ,U0,rq,U1,U2,U3⟩
   case round =>
    clear U0 rq U1 U2 U3 UZ;obtain⟨b,ok,lf,l,d,rfl,rfl,rfl,hlf,QA,uR,rq,Cn,qr,hbl⟩:=hrel;cases ok
    ·obtain⟨z0,z1,zf,zl⟩:=aQ (uR.out).b;obtain⟨r0,r1,rf,rl⟩:=aQ qr.out;clear Cn uR;go_wp2;refine aal (v:=.agg #[.int .i64 (l:Nat),.int .i64 (d:Nat)]) ?_ rfl ⟨l,d,rfl,rq.out,(hbl.setCell (p:=⟨w.heap.size+1+1,0,none⟩) (by dsimp only;omega) _).setCell (p:=⟨w.heap.size+1+1,1,none⟩) (by dsimp only;omega) _⟩;simp[results,Tryz.results204,go_sem,r0,r1]
    ·by_cases hl0:0<lf
     ·obtain⟨z0,z1,zf,zl⟩:=aQ (uR.out).b;have m0:=uR.out.m.cell;have MX:(lf:Int)>0:=by omega
      by_cases hlm:l<m
      ·obtain⟨b,rfl⟩:∃b':Nat,b=(b':Int):=⟨b.toNat,by have:=QA.out rfl;omega⟩
       have QB:(l:Int)<(m:Int):=by omega
       have hbv:=QA.out rfl;have JZ:=HT.out;have hxm:=HM.out;have Aq:=BI (w.heap.size) (w.heap.size+1) (w.heap.size+1+1+1+1) (w.heap.size+1+1+1) F M en per N m l d b (some ⟨G,0,none⟩) T wr uR.out Cn.out.box JZ.2.2 (by omega) (by omega) (by omega) rq.out.1;obtain⟨r,hr⟩:∃r,b%32768=r:=⟨_,rfl⟩
       have Tr:(b:Int).tmod 32768=(r:Int):=by rw[Int.tmod_eq_emod_of_nonneg (by omega)];omega
       have YS:r<en:=by have:=Cn.out.sz;omega
       have Om:Hid (∀x:Int,(x<(N:Int)\/x=0)->mx<=x->0<=x/\x<(N:Int)/\(N:Int)<=x+32768):=fun x h1 h2=>by have:=Rv.out;omega
       clear JZ hxm hr hbv;go_wp2_with fail;refine Aq.mono ?_;rintro e w2 ⟨rfl,l2,d2,xZ,MY,sL,m9⟩;have UY:=HH.out.lt;have Co:=Cn.out.kept (w':=w2) (fun j hj=>m9.block j (by have:=hbl.size;rcases hj with rfl|rfl|rfl<;>omega) (fun e=>by rcases hj with rfl|rfl|rfl<;>omega));have J0:w2.heap[w.heap.size+1+1]?=some (.cells #[.int .i64 0,.int .i64 0] 216 (0,0)):=(m9.block _ (aab qr.out) (by omega)).trans qr.out;have RF:Below w.heap.size w w2:=hbl.trans (m9.below hbl.size (fun k _ e=>by omega));obtain⟨f0,f1,f2,f3⟩:=Co.box.cells;obtain⟨es,J5,QC,J6⟩:=Co.Tq;have ce:=J5.at_ r (by omega);have J7:=J6 r;have t0:=MY.f.cell;have t1:=MY.p.cell;have QD:Hid (ij w2 (w.heap.size) (w.heap.size+1) (w.heap.size+1+1+1+1) (w.heap.size+1+1+1) F N m l2 d2):=MY;have qp:Hid (Fd w2 F M G en per T N):=Co;have QE:Hid (jj T.data.toList per N m l2 d2):=⟨xZ,fun h1 h2 x h3 h4 h5=>aaz (rq.out.2 h1 h2 x h3 h4 h5) sL.1⟩
       clear sL;have J8:Hid (w2.heap[w.heap.size+1+1]?=some (.cells #[.int .i64 0,.int .i64 0] 216 (0,0))):=J0;have On:=Om.out (es.getD r 0) J7.2;have JV:Hid (mx<=es.getD r 0->0<=es.getD r 0/\es.getD r 0<(N:Int)/\(N:Int)<=es.getD r 0+32768):=On;have U4:(r:Int)<(en:Int):=by omega
       generalize es.getD r 0=xe at *;clear z0 z1 zf zl m0 Aq MY Co xZ J0 m9 J5 QC J6 QA uR rq Cn qr hbl Om On J7;go_wp2
       go_roundw
       case rel=>exact⟨xe,_,lf-1,l2,d2,rfl,rfl,by go_num,by omega,fun hh=>JV.out (by simpa using hh),QD,QE,qp,J8,RF⟩
       case measure=>simp[intOf];omega
      ·have QB:¬(l:Int)<(m:Int):=by omega
       obtain⟨z0,z1,zf,zl⟩:=aQ (uR.out).b;obtain⟨r0,r1,rf,rl⟩:=aQ qr.out;clear Cn uR;go_wp2;refine aal (v:=.agg #[.int .i64 (l:Nat),.int .i64 (d:Nat)]) ?_ rfl ⟨l,d,rfl,rq.out,(hbl.setCell (p:=⟨w.heap.size+1+1,0,none⟩) (by dsimp only;omega) _).setCell (p:=⟨w.heap.size+1+1,1,none⟩) (by dsimp only;omega) _⟩;simp[results,Tryz.results204,go_sem,r0,r1]
     ·have MX:¬(lf:Int)>0:=by omega
      obtain⟨z0,z1,zf,zl⟩:=aQ (uR.out).b;obtain⟨r0,r1,rf,rl⟩:=aQ qr.out;clear Cn uR;go_wp2;refine aal (v:=.agg #[.int .i64 (l:Nat),.int .i64 (d:Nat)]) ?_ rfl ⟨l,d,rfl,rq.out,(hbl.setCell (p:=⟨w.heap.size+1+1,0,none⟩) (by dsimp only;omega) _).setCell (p:=⟨w.heap.size+1+1,1,none⟩) (by dsimp only;omega) _⟩;simp[results,Tryz.results204,go_sem,r0,r1]
  ·have rq:Hid (jj T.data.toList per N m l d):=⟨rq.out,fun h1 h2=>absurd (show (per:Int)<=mn by have:=UV.out;omega) hpn⟩
   have qp:=rr.out;obtain⟨D,q,hM,hq,hk⟩:=qp.map;obtain⟨e0,e1,e2,e3⟩:=qp.box.cells;have t0:=yt.f.cell;have t1:=yt.p.cell;have JZ:=HT.out;have hxm:=HM.out;have ve:=fun n=>dP F M en per (some ⟨G,0,none⟩) T N (u.drewN n) qp.box (by omega) JZ.2.2;have hkey:=tr (lj T N) (gY T N)
   obtain⟨cv,hb,hcv,hlk⟩:∃(cv:Int) (hb:Bool),(hb=true->0<=cv/\cv<(N:Int)/\(N:Int)<=cv+32768)/\∀n,(Instr.lookup 235 (.map (some M)) (.int .u32 (lj T N:Nat)) true).run Tryz.prog (u.drewN n)=.ok (.tuple #[.int .i64 cv,.bool hb]) (u.drewN n):=by
    obtain⟨cv,_,hat,_⟩:=hM.lookup_int bq Tryz.underlying235 Tryz.underlying3 (iF u) hkey;refine⟨cv,Maps.has D (kW (lj T N)),fun hh=>?_,fun n=>?_⟩
    ·obtain⟨v,hv1,hv2,hv3,_⟩:=hk.val _ (gY T N) hh;rw[hv1]at hat;simp only[abw,abA,abG]at hat;omega
    ·obtain⟨v,ps,hrun,hv⟩:=World.ownsMap.look_ok (w:=u.drewN n) hM bq Tryz.underlying235 (iF _) (plainElem_int Tryz.underlying3 (by decide)) hkey;obtain⟨c,rfl,hc,hwc⟩:=plainElem_int_inv Tryz.underlying3 hv;rw[hat]at hc;simp only[Prod.mk.injEq,abw,abA,abG]at hc;rw[hrun,hc.1]
   clear JZ hxm hM hq hk qp hkey;generalize lj T N=kx at *;have UZ:Hid (hb=true->0<=cv/\cv<(N:Int)/\(N:Int)<=cv+32768):=hcv;clear hcv;go_wp2_with fail
   go_quiet ((go_at_call 226;exact sh (ve _)))
   have U0:Hid (ij (u.drewN nq) (w.heap.size) (w.heap.size+1) (w.heap.size+1+1+1+1) (w.heap.size+1+1+1) F N m l d):=yt.drewN nq;have U1:Hid (Fd (u.drewN nq) F M G en per T N):=rr.out.kept (fun j _=>rfl);have U2:Hid ((u.drewN nq).heap[w.heap.size+1+1]?=some (.cells #[.int .i64 0,.int .i64 0] 216 (0,0))):=Qy.out;have U3:Below w.heap.size w (u.drewN nq):=aap Qz nq;generalize u.drewN nq=uq at *;clear hlk ve e0 e1 e2 e3 t0 t1 yt rr Qy Qz;go_wp2
   go_loopw [10,11,12] (fun bv YR lv wr=>∃(b:Int) (ok:Bool) (lf l d:Nat),bv=.int .i64 b/\YR=.bool ok/\lv=.int .i64 lf/\lf<=48/\Hid (ok=true->0<=b/\b<(N:Int)/\(N:Int)<=b+32768)/\Hid (ij wr (w.heap.size) (w.heap.size+1) (w.heap.size+1+1+1+1) (w.heap.size+1+1+1) F N m l d)/\Hid (jj T.data.toList per N m l d)/\Hid (Fd wr F M G en per T N)/\Hid (wr.heap[w.heap.size+1+1]?=some (.cells #[.int .i64 0,.int .i64 0] 216 (0,0)))/\Below w.heap.size w wr) (fun _ _ lv _=>(intOf lv).toNat)
   case atStart=>exact⟨cv,hb,48,l,d,rfl,rfl,rfl,aad _,UZ,U0,rq,U1,U2,U3⟩
   case round =>
    clear U0 rq U1 U2 U3 UZ;obtain⟨b,ok,lf,l,d,rfl,rfl,rfl,hlf,QA,uR,rq,Cn,qr,hbl⟩:=hrel;cases ok
    ·obtain⟨z0,z1,zf,zl⟩:=aQ (uR.out).b;obtain⟨r0,r1,rf,rl⟩:=aQ qr.out;clear Cn uR;go_wp2;refine aal (v:=.agg #[.int .i64 (l:Nat),.int .i64 (d:Nat)]) ?_ rfl ⟨l,d,rfl,rq.out,(hbl.setCell (p:=⟨w.heap.size+1+1,0,none⟩) (by dsimp only;omega) _).setCell (p:=⟨w.heap.size+1+1,1,none⟩) (by dsimp only;omega) _⟩;simp[results,Tryz.results204,go_sem,r0,r1]
    ·by_cases hl0:0<lf
     ·obtain⟨z0,z1,zf,zl⟩:=aQ (uR.out).b;have m0:=uR.out.m.cell;have MX:(lf:Int)>0:=by omega
      by_cases hlm:l<m
      ·obtain⟨b,rfl⟩:∃b':Nat,b=(b':Int):=⟨b.toNat,by have:=QA.out rfl;omega⟩
       have QB:(l:Int)<(m:Int):=by omega
       have hbv:=QA.out rfl;have JZ:=HT.out;have hxm:=HM.out;have Aq:=BI (w.heap.size) (w.heap.size+1) (w.heap.size+1+1+1+1) (w.heap.size+1+1+1) F M en per N m l d b (some ⟨G,0,none⟩) T wr uR.out Cn.out.box JZ.2.2 (by omega) (by omega) (by omega) rq.out.1;obtain⟨r,hr⟩:∃r,b%32768=r:=⟨_,rfl⟩
       have Tr:(b:Int).tmod 32768=(r:Int):=by rw[Int.tmod_eq_emod_of_nonneg (by omega)];omega
       have YS:r<en:=by have:=Cn.out.sz;omega
       have Om:Hid (∀x:Int,(x<(N:Int)\/x=0)->mx<=x->0<=x/\x<(N:Int)/\(N:Int)<=x+32768):=fun x h1 h2=>by have:=Rv.out;omega
       clear JZ hxm hr hbv;go_wp2_with fail;refine Aq.mono ?_;rintro e w2 ⟨rfl,l2,d2,xZ,MY,sL,m9⟩;have UY:=HH.out.lt;have Co:=Cn.out.kept (w':=w2) (fun j hj=>m9.block j (by have:=hbl.size;rcases hj with rfl|rfl|rfl<;>omega) (fun e=>by rcases hj with rfl|rfl|rfl<;>omega));have J0:w2.heap[w.heap.size+1+1]?=some (.cells #[.int .i64 0,.int .i64 0] 216 (0,0)):=(m9.block _ (aab qr.out) (by omega)).trans qr.out;have RF:Below w.heap.size w w2:=hbl.trans (m9.below hbl.size (fun k _ e=>by omega));obtain⟨f0,f1,f2,f3⟩:=Co.box.cells;obtain⟨es,J5,QC,J6⟩:=Co.Tq;have ce:=J5.at_ r (by omega);have J7:=J6 r;have t0:=MY.f.cell;have t1:=MY.p.cell;have QD:Hid (ij w2 (w.heap.size) (w.heap.size+1) (w.heap.size+1+1+1+1) (w.heap.size+1+1+1) F N m l2 d2):=MY;have qp:Hid (Fd w2 F M G en per T N):=Co;have QE:Hid (jj T.data.toList per N m l2 d2):=⟨xZ,fun h1 h2 x h3 h4 h5=>aaz (rq.out.2 h1 h2 x h3 h4 h5) sL.1⟩
       clear sL;have J8:Hid (w2.heap[w.heap.size+1+1]?=some (.cells #[.int .i64 0,.int .i64 0] 216 (0,0))):=J0;have On:=Om.out (es.getD r 0) J7.2;have JV:Hid (mx<=es.getD r 0->0<=es.getD r 0/\es.getD r 0<(N:Int)/\(N:Int)<=es.getD r 0+32768):=On;have U4:(r:Int)<(en:Int):=by omega
       generalize es.getD r 0=xe at *;clear z0 z1 zf zl m0 Aq MY Co xZ J0 m9 J5 QC J6 QA uR rq Cn qr hbl Om On J7;go_wp2
       go_roundw
       case rel=>exact⟨xe,_,lf-1,l2,d2,rfl,rfl,by go_num,by omega,fun hh=>JV.out (by simpa using hh),QD,QE,qp,J8,RF⟩
       case measure=>simp[intOf];omega
      ·have QB:¬(l:Int)<(m:Int):=by omega
       obtain⟨z0,z1,zf,zl⟩:=aQ (uR.out).b;obtain⟨r0,r1,rf,rl⟩:=aQ qr.out;clear Cn uR;go_wp2;refine aal (v:=.agg #[.int .i64 (l:Nat),.int .i64 (d:Nat)]) ?_ rfl ⟨l,d,rfl,rq.out,(hbl.setCell (p:=⟨w.heap.size+1+1,0,none⟩) (by dsimp only;omega) _).setCell (p:=⟨w.heap.size+1+1,1,none⟩) (by dsimp only;omega) _⟩;simp[results,Tryz.results204,go_sem,r0,r1]
     ·have MX:¬(lf:Int)>0:=by omega
      obtain⟨z0,z1,zf,zl⟩:=aQ (uR.out).b;obtain⟨r0,r1,rf,rl⟩:=aQ qr.out;clear Cn uR;go_wp2;refine aal (v:=.agg #[.int .i64 (l:Nat),.int .i64 (d:Nat)]) ?_ rfl ⟨l,d,rfl,rq.out,(hbl.setCell (p:=⟨w.heap.size+1+1,0,none⟩) (by dsimp only;omega) _).setCell (p:=⟨w.heap.size+1+1,1,none⟩) (by dsimp only;omega) _⟩;simp[results,Tryz.results204,go_sem,r0,r1]
theorem Tryz.infoStep:(Tryz.prog.info? 216).map (fun i=>(i.zero,i.size,i.bytes))=some (some (.agg #[.int .i64 0,.int .i64 0]),2,16):=by kernel_rfl
def gG (S:List (Nat×Nat)):List Value:=S.flatMap fun s=>[.int .i64 (s.1:Nat),.int .i64 (s.2:Nat)]
theorem Ar (S:List (Nat×Nat))(s:Nat×Nat):gG (S++[s])=gG S++[.int .i64 (s.1:Nat),.int .i64 (s.2:Nat)]:=by simp[gG]
structure x7 (w:World) (Xs:Nat) (S:List (Nat×Nat)) (sv:Value):Prop where
 box:bM w Xs sv 186
 own:w.ownsRow (Xs+1) 216 2 sv S.length (gG S)
theorem x7.kept {w w':World}{Xs:Nat}{S:List (Nat×Nat)}{sv:Value}(h:x7 w Xs S sv)(k:∀j,j=Xs\/sv.ownBlock=some j->w'.heap[j]?=w.heap[j]?):x7 w' Xs S sv :=
 ⟨(k _ (.inl rfl)).trans h.box,bK h.own (fun g hg=>k g (.inr hg))⟩
theorem x7.lt {w:World}{Xs:Nat}{S:List (Nat×Nat)}{sv:Value}(h:x7 w Xs S sv)(g:Nat)(hg:sv.ownBlock=some g):Xs+1<=g/\g<w.heap.size:=h.own.lt g hg
theorem x7.below {w w':World}{Xs:Nat}{S:List (Nat×Nat)}{sv:Value}(h:x7 w Xs S sv)(k:Below w.heap.size w w'):x7 w' Xs S sv :=
 h.kept (fun j hj=>k.block j (by rcases hj with rfl|hj;exact aab h.box;exact (h.lt j hj).2))
theorem yb (Xs l d:Nat)(S:List (Nat×Nat))(sv:Value)(w:World)(h:x7 w Xs S sv)(hS:S.length<=100000): Calls Tryz.prog 181 #[.agg #[.int .i64 (l:Nat),.int .i64 (d:Nat)],.pointer (some ⟨Xs,0,none⟩)] w fun e w'=>e=.returned (.tuple #[])/\∃FY,x7 w' Xs (S++[(l,d)]) FY/\(FY.ownBlock=sv.ownBlock\/∃g,FY.ownBlock=some g/\w.heap.size<=g)/\Kp (fun k=>k=Xs\/sv.ownBlock=some k) w w':=by
 obtain⟨i0,hi,hz0,hz1,hz2⟩:=aaX Tryz.infoStep;have hlx:=aab h.box;obtain⟨k0,q0,q1⟩:=bO w (.cells #[.int .i64 (l:Nat),.int .i64 (d:Nat)] 216) (.cells #[.int .i64 (l:Nat),.int .i64 (d:Nat)] 216);have h2:=h.below k0;have hsz2:((w.alloc (.cells #[.int .i64 (l:Nat),.int .i64 (d:Nat)] 216)).alloc (.cells #[.int .i64 (l:Nat),.int .i64 (d:Nat)] 216)).heap.size=w.heap.size+1+1:=by simp
 obtain⟨v',w',hr,ho',hg',_,hat⟩:=run_append_own_at (P:=Tryz.prog) ((w.alloc (.cells #[.int .i64 (l:Nat),.int .i64 (d:Nat)] 216)).alloc (.cells #[.int .i64 (l:Nat),.int .i64 (d:Nat)] 216)) (Xs+1) 186 186 216 i0 _ 2 16 Tryz.underlying186 hi hz0 hz1 hz2 rfl (by decide) sv S.length (gG S) h2.own ⟨w.heap.size+1,0,none⟩ 1 1 [.int .i64 (l:Nat),.int .i64 (d:Nat)] rfl (fun j u hj=>by
   rw[fX,aaF,d8 q1];simpa using hj) (fun u hu=>by
   simp only[ab0,abC,or_false]at hu
   rcases hu with rfl|rfl<;>rfl) (by unfold maxLen;omega) (by omega) (by omega)
 rw[hsz2]at hat
 have hsl:x7 (w'.setCell ⟨Xs,0,none⟩ v') Xs (S++[(l,d)]) v':=by
  have hbx:w'.heap[Xs]?=some (.cells #[sv] 186 (0,0)):=(hg'.block Xs (aab h2.box) (fun e=>by have:=(h2.lt Xs e.symm).1;omega)).trans h2.box;refine⟨one_set hbx v',bK (by rw[aac,Ar];exact ho') (fun g hg=>aag _ ⟨Xs,0,none⟩ _ g (fun e=>by have:=(ho'.lt g hg).1;dsimp only at e;omega))⟩
 have hkp:Kp (fun k=>k=Xs\/sv.ownBlock=some k) w (w'.setCell ⟨Xs,0,none⟩ v'):=by
  refine (Kp.grown (Kp.aJ k0) hg' (fun k hk=>.inl (.inr hk))).setCell (p:=⟨Xs,0,none⟩) (.inl (.inl rfl)) _
 have hbx:w'.heap[Xs]?=some (.cells #[sv] 186 (0,0)):=(hg'.block Xs (aab h2.box) (fun e=>by have:=(h2.lt Xs e.symm).1;omega)).trans h2.box;obtain⟨x0,x1,x2⟩:=one_cell hbx;have c0:=h.box.cell;have HH:Hid (_/\_/\_):=⟨hsl,hkp,hat⟩
 obtain⟨oa,oc,rfl⟩:=aU h.own;obtain⟨ll,j5,rfl⟩:=aU ho';clear h2 hsl hkp ho' hg' hat hbx k0 q0 q1 h hsz2
 go_enter Tryz.func181,Tryz.ntmps181
 go_wp2_with (at_builtin;refine aa6 _ rfl _ _ _ _ rfl _ _ rfl rfl _ _ hr ?_)
 go_end0
 obtain⟨a,b,c⟩:=HH.out;refine⟨rfl,_,a,?_,b⟩;rcases c with c|c
 ·exact .inl c
 ·exact .inr ⟨_,c,by omega⟩
theorem QF (args:Array Value)(w:World):(callFunc 181 args).run Tryz.prog w=.ok (.enter 181 args) w:=by kernel_rfl
theorem wx (T:List UInt8):∀(S:List (Nat×Nat)) (p q:Nat) (s:Nat×Nat),Rf.Fits T p S q->Rf.r8 T q s->Rf.Fits T p (S++[s]) (q+s.1)
 | [],p,q,s,h,hs=>by
  have h:p=q:=h;subst h;exact⟨hs,rfl⟩
 | x::r,p,q,s,h,hs=>⟨h.1,wx T r (p+x.1) q s h.2 hs⟩
theorem FZ {T:List UInt8}{p e l d:Nat}(h:kC T p (min (e-p) 258) l d)(hp:p<e)(he:e<=T.length):Rf.r8 T p (l,d)/\p+l<=e/\1<=l/\l<=258:=by
 rcases h with⟨rfl,rfl⟩|⟨a,b,c,g,k,q⟩
 ·exact⟨.inl ⟨rfl,rfl,by omega⟩,by omega,by omega,by omega⟩
 ·exact⟨.inr ⟨a,by omega,c,g,k,by omega,q⟩,by omega,by omega,by omega⟩
end Go.Proofs.YtmfijackgekioaaGreatDoor
