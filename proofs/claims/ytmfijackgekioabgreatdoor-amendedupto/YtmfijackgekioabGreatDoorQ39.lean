import Derived.Test.YtmfijackgekioabGreatDoorQ25
import Derived.Maps.AppendAt
set_option maxHeartbeats 8000000
set_option maxRecDepth 100000
namespace Go.Proofs.YtmfijackgekioabGreatDoor
open Go.RowKit Go.Maps
def More (T:List UInt8)(per p most l:Nat):Prop:=per<=p->per<=32768->∀m,m<=most->3<=m->(∀k,k<m->T.getD (p+k) 0=T.getD (p+k-per) 0)->m<=l
def jM (T:List UInt8)(per p most l d:Nat):Prop:=lE T p most l d/\More T per p most l
theorem n8 (F M G en per N end_:Nat)(T:ByteArray)(w:World)(h:Fd w F M G en per T N)(hNe:N<=end_)(he:end_<=T.size)(hT:T.size<=4500000)(ia:0<T.size->1<=per)(KR:per<=4500000): Calls Tryz.prog 159 #[.pointer (some ⟨F,0,none⟩),.int .i64 N,.int .i64 end_] w fun e w'=>∃l d:Nat,e=.returned (.agg #[.int .i64 l,.int .i64 d])/\jM T.data.toList per N (min (end_-N) 258) l d/\Below w.heap.size w w':=by
 have HH:Hid (Fd w F M G en per T N):=h;have HT:Hid (N<=end_/\end_<=T.size/\T.size<=4500000):=⟨hNe,he,hT⟩
 have Bt:Hid (0<T.size->1<=per):=ia;obtain⟨x,w1⟩:∃x,IntKind.i64.wrap ((end_:Int)-(N:Int))=x:=⟨_,rfl⟩
 have hxe:x=((end_-N:Nat):Int):=by rw[<-w1];exact (aao _ (by omega)).trans (by omega)
 obtain⟨m,hm⟩:∃m,min (end_-N) 258=m:=⟨_,rfl⟩
 have HM:Hid (min (end_-N) 258=m):=hm;have hmi:min x 258=(m:Int):=by omega
 obtain⟨mn,hmn⟩:∃mn,min (N:Int) 32768=mn:=⟨_,rfl⟩
 have XB:Hid (mn=min (N:Int) 32768):=hmn.symm;obtain⟨pi,hpi⟩:∃pi,IntKind.i64.wrap ((N:Int)-32768)=pi:=⟨_,rfl⟩
 have hpe:pi=(N:Int)-32768:=by rw[<-hpi];exact aao _ (by omega)
 obtain⟨mx,hmx⟩:∃mx,max pi 0=mx:=⟨_,rfl⟩
 have Uy:Hid (mx=max ((N:Int)-32768) 0):=by show _=_;rw[<-hmx,hpe]
 have HPN:Hid (per<=N->IntKind.i64.wrap ((N:Int)-(per:Int))=((N-per:Nat):Int)):=fun hh=>(aao _ (by omega)).trans (by omega);rw[hm];have hcall:=Om;clear h hNe he hT hm hxe hpe ia KR;by_cases hm3:(m:Int)<3
 ·obtain⟨k0,_⟩:=kW w (.cells #[.pointer (some ⟨F,0,none⟩)] 183) (.cells #[.int .i64 (N:Nat)] 3) (.cells #[.int .i64 1,.int .i64 0] 187) (.cells #[.int .i64 1,.int .i64 0] 187) (.cells #[.int .i64 (m:Nat)] 3)
  go_enter Tryz.func159,Tryz.ntmps159
  go_wp2;refine aaF (v:=.agg #[.int .i64 ((1:Nat):Int),.int .i64 ((0:Nat):Int)]) ?_ rfl ⟨1,0,rfl,⟨.inl ⟨rfl,rfl⟩,fun _ _ x h1 h2=>by omega⟩,k0⟩;simp[results,Tryz.results159,go_sem]
 ·obtain⟨k0,q0,q1,q2,q3,q4⟩:=kW w (.cells #[.pointer (some ⟨F,0,none⟩)] 183) (.cells #[.int .i64 (N:Nat)] 3) (.cells #[.int .i64 0,.int .i64 0] 187) (.cells #[.int .i64 1,.int .i64 0] 187) (.cells #[.int .i64 (m:Nat)] 3)
  go_enter Tryz.func159,Tryz.ntmps159
  go_wp2_with fail;generalize Sq:(((((w.alloc (.cells #[.pointer (some ⟨F,0,none⟩)] 183)).alloc (.cells #[.int .i64 (N:Nat)] 3)).alloc (.cells #[.int .i64 0,.int .i64 0] 187)).alloc (.cells #[.int .i64 1,.int .i64 0] 187)).alloc (.cells #[.int .i64 (m:Nat)] 3))=wa at *;have Zh:iN wa (w.heap.size) (w.heap.size+1) (w.heap.size+1+1+1+1) (w.heap.size+1+1+1) F N m 1 0:=⟨q0,q1,q4,q3,by omega,by omega,by omega⟩
  have FD0:Fd wa F M G en per T N:=HH.out.below k0;have sk:Hid (lE T.data.toList N m 1 0):=.inl ⟨rfl,rfl⟩;have cf0:=Zh.f.cell;have cf1:=FD0.box.cells.2.2.2;have cf2:=Zh.p.cell;have XC:Hid (Fd wa F M G en per T N):=FD0;have XD:Hid (wa.heap[w.heap.size+1+1]?=some (.cells #[.int .i64 0,.int .i64 0] 187 (0,0))):=q2;clear q0 q1 q2 q3 q4 FD0 Sq
  go_quiet (fail)
  have sq:Hid (Fd (wa.drewN nq) F M G en per T N):=XC.out.kept (fun j _=>rfl);have zt:iN (wa.drewN nq) (w.heap.size) (w.heap.size+1) (w.heap.size+1+1+1+1) (w.heap.size+1+1+1) F N m 1 0:=Zh.drewN nq;have Tv:Hid ((wa.drewN nq).heap[w.heap.size+1+1]?=some (.cells #[.int .i64 0,.int .i64 0] 187 (0,0))):=XD.out;have Tw:Below w.heap.size w (wa.drewN nq):=aaD k0 nq;generalize wa.drewN nq=u at *;clear cf0 cf1 cf2 XC XD Zh k0;obtain⟨l,d,zt,sk⟩:∃l d:Nat,iN u (w.heap.size) (w.heap.size+1) (w.heap.size+1+1+1+1) (w.heap.size+1+1+1) F N m l d/\Hid (lE T.data.toList N m l d):=⟨1,0,zt,sk⟩
  by_cases hpn:(per:Int)<=mn
  ·have hpw:IntKind.i64.wrap ((N:Int)-(per:Int))=((N-per:Nat):Int):=HPN.out (by have:=XB.out;omega);have Bu:=Dq (w.heap.size) (w.heap.size+1) (w.heap.size+1+1+1+1) (w.heap.size+1+1+1) F M en per N m l d (N-per) (some ⟨G,0,none⟩) T u.drew (zt.drewN 1) sq.out.box HT.out.2.2 (by have:=HT.out;have:=HM.out;have:=Bt.out (by omega);have:=XB.out;omega) (by have:=XB.out;omega) (by have:=HT.out;have:=HM.out;omega) sk.out;have hS:u.drew.cell? ⟨w.heap.size,0,none⟩=some (.pointer (some ⟨F,0,none⟩))/\u.drew.cell? ⟨F,3,none⟩=some (.int .i64 (per:Nat))/\u.drew.cell? ⟨w.heap.size+1,0,none⟩=some (.int .i64 (N:Nat)):=⟨zt.f.cell,sq.out.box.cells.2.2.2,zt.p.cell⟩
   have hlF:=sq.out.lt;have TRv:iN u.drew (w.heap.size) (w.heap.size+1) (w.heap.size+1+1+1+1) (w.heap.size+1+1+1) F N m l d:=zt.drewN 1;have FDv:Fd u.drew F M G en per T N:=sq.out.kept (fun j _=>rfl);have REv:u.drew.heap[w.heap.size+1+1]?=some (.cells #[.int .i64 0,.int .i64 0] 187 (0,0)):=Tv.out;have Zi:Below w.heap.size w u.drew:=Tw.drew;clear zt sq Tv Tw sk;have UA:Hid (N-per+per=N):=by show _=_;have:=XB.out;omega
   generalize N-per=bb at *;go_wp2_with fail;refine ax (fun u=>u.cell? ⟨w.heap.size,0,none⟩=some (.pointer (some ⟨F,0,none⟩))/\u.cell? ⟨F,3,none⟩=some (.int .i64 (per:Nat))/\u.cell? ⟨w.heap.size+1,0,none⟩=some (.int .i64 (N:Nat))) 999 ?_;generalize u.drew=v at *;refine ap [0,1,2,3,4,5,6] ?_
   iterate 7 (refine au hS ?_;try simp only[Act.put])
   refine aj ?_;refine ag 7 fun K hK=>?_;go_simp;refine Bu.mono ?_;rintro e u ⟨rfl,l,d,hbo,zt,hmo,kp⟩;have XE:=HH.out.lt;have fdu:Fd u F M G en per T N:=FDv.kept (fun j hj=>kp.block j (by have:=Zi.size;rcases hj with rfl|rfl|rfl<;>omega) (fun e=>by rcases hj with rfl|rfl|rfl<;>omega));have sq:Hid (Fd u F M G en per T N):=fdu;have sk:Hid (jM T.data.toList per N m l d):=⟨hbo,fun h1 h2 x h3 h4 h5=>hmo.2 x h3 h4 (fun k hk=>by rw[h5 k hk,show N+k-per=bb+k by have:=UA.out;omega])⟩
   clear hmo UA;have Tv:Hid (u.heap[w.heap.size+1+1]?=some (.cells #[.int .i64 0,.int .i64 0] 187 (0,0))):=(kp.block _ (aaa REv) (by omega)).trans REv;have Tw:Below w.heap.size w u:=Zi.trans (kp.below Zi.size (fun k _ e=>by omega));refine hK _ _ (fun _=>⟨zt.f.cell,fdu.box.cells.2.2.2,zt.p.cell⟩) ?_;clear hK K fdu hbo FDv REv Zi kp Bu hS TRv;refine am ?_;have qU:=sq.out;obtain⟨D,q,hM,hq,hk⟩:=qU.map;obtain⟨e0,e1,e2,e3⟩:=qU.box.cells;have t0:=zt.f.cell;have t1:=zt.p.cell;have L7:=HT.out;have hxm:=HM.out;have Eu:=fun n=>et F M en per (some ⟨G,0,none⟩) T N (u.drewN n) qU.box (by omega) L7.2.2;have hkey:=uj (mB T N) (iI T N)
   obtain⟨cv,hb,hcv,hlk⟩:∃(cv:Int) (hb:Bool),(hb=true->0<=cv/\cv<(N:Int)/\(N:Int)<=cv+32768)/\∀n,(Instr.lookup 198 (.map (some M)) (.int .u32 (mB T N:Nat)) true).run Tryz.prog (u.drewN n)=.ok (.tuple #[.int .i64 cv,.bool hb]) (u.drewN n):=by
    obtain⟨cv,_,hat,_⟩:=hM.lookup_int bV Tryz.underlying198 Tryz.underlying3 (im u) hkey;refine⟨cv,Maps.has D (mq (mB T N)),fun hh=>?_,fun n=>?_⟩
    ·obtain⟨v,hv1,hv2,hv3,_⟩:=hk.val _ (iI T N) hh;rw[hv1]at hat;simp only[ab3,ab7,acm]at hat;omega
    ·obtain⟨v,ps,hrun,hv⟩:=World.ownsMap.look_ok (w:=u.drewN n) hM bV Tryz.underlying198 (im _) (ac2 Tryz.underlying3 (by decide)) hkey;obtain⟨c,rfl,hc,hwc⟩:=plainElem_int_inv Tryz.underlying3 hv;rw[hat]at hc;simp only[Prod.mk.injEq,ab3,ab7,acm]at hc;rw[hrun,hc.1]
   clear L7 hxm hM hq hk qU hkey;generalize mB T N=kx at *;have XG:Hid (hb=true->0<=cv/\cv<(N:Int)/\(N:Int)<=cv+32768):=hcv;clear hcv;go_wp2_with fail
   go_quiet ((go_at_call 179;exact s8 (Eu _)))
   have XH:Hid (iN (u.drewN nq) (w.heap.size) (w.heap.size+1) (w.heap.size+1+1+1+1) (w.heap.size+1+1+1) F N m l d):=zt.drewN nq;have XI:Hid (Fd (u.drewN nq) F M G en per T N):=sq.out.kept (fun j _=>rfl);have XJ:Hid ((u.drewN nq).heap[w.heap.size+1+1]?=some (.cells #[.int .i64 0,.int .i64 0] 187 (0,0))):=Tv.out;have XK:Below w.heap.size w (u.drewN nq):=aaD Tw nq;generalize u.drewN nq=uq at *;clear hlk Eu e0 e1 e2 e3 t0 t1 zt sq Tv Tw;go_wp2
   go_loopw [10,11,12] (fun bv okv lv wr=>∃(b:Int) (ok:Bool) (lf l d:Nat),bv=.int .i64 b/\okv=.bool ok/\lv=.int .i64 lf/\lf<=48/\Hid (ok=true->0<=b/\b<(N:Int)/\(N:Int)<=b+32768)/\Hid (iN wr (w.heap.size) (w.heap.size+1) (w.heap.size+1+1+1+1) (w.heap.size+1+1+1) F N m l d)/\Hid (jM T.data.toList per N m l d)/\Hid (Fd wr F M G en per T N)/\Hid (wr.heap[w.heap.size+1+1]?=some (.cells #[.int .i64 0,.int .i64 0] 187 (0,0)))/\Below w.heap.size w wr) (fun _ _ lv _=>(intOf lv).toNat)
   case atStart=>exact⟨cv,hb,48,l,d,rfl,rfl,rfl,aah _,XG,XH,sk,XI,XJ,XK⟩
   case round =>
    clear XH sk XI XJ XK XG;obtain⟨b,ok,lf,l,d,rfl,rfl,rfl,hlf,Tx,vM,sk,D6,qV,hbl⟩:=hrel;cases ok
    ·obtain⟨z0,z1,zf,zl⟩:=aN (vM.out).b;obtain⟨r0,r1,rf,rl⟩:=aN qV.out;clear D6 vM;go_wp2;refine aaF (v:=.agg #[.int .i64 (l:Nat),.int .i64 (d:Nat)]) ?_ rfl ⟨l,d,rfl,sk.out,(hbl.setCell (p:=⟨w.heap.size+1+1,0,none⟩) (by dsimp only;omega) _).setCell (p:=⟨w.heap.size+1+1,1,none⟩) (by dsimp only;omega) _⟩;simp[results,Tryz.results159,go_sem,r0,r1]
    ·by_cases hl0:0<lf
     ·obtain⟨z0,z1,zf,zl⟩:=aN (vM.out).b;have m0:=vM.out.m.cell;have OV:(lf:Int)>0:=by omega
      by_cases hlm:l<m
      ·obtain⟨b,rfl⟩:∃b':Nat,b=(b':Int):=⟨b.toNat,by have:=Tx.out rfl;omega⟩
       have Tz:(l:Int)<(m:Int):=by omega
       have hbv:=Tx.out rfl;have L7:=HT.out;have hxm:=HM.out;have Bu:=Dq (w.heap.size) (w.heap.size+1) (w.heap.size+1+1+1+1) (w.heap.size+1+1+1) F M en per N m l d b (some ⟨G,0,none⟩) T wr vM.out D6.out.box L7.2.2 (by omega) (by omega) (by omega) sk.out.1;obtain⟨r,hr⟩:∃r,b%32768=r:=⟨_,rfl⟩
       have Wl:(b:Int).tmod 32768=(r:Int):=by rw[acD (by omega)];omega
       have abL:r<en:=by have:=D6.out.sz;omega
       have XL:Hid (∀x:Int,(x<(N:Int)\/x=0)->mx<=x->0<=x/\x<(N:Int)/\(N:Int)<=x+32768):=fun x h1 h2=>by have:=Uy.out;omega
       clear L7 hxm hr hbv;go_wp2_with fail;refine Bu.mono ?_;rintro e w2 ⟨rfl,l2,d2,ze,OX,tM,uZ⟩;have XE:=HH.out.lt;have D7:=D6.out.kept (w':=w2) (fun j hj=>uZ.block j (by have:=hbl.size;rcases hj with rfl|rfl|rfl<;>omega) (fun e=>by rcases hj with rfl|rfl|rfl<;>omega));have L8:w2.heap[w.heap.size+1+1]?=some (.cells #[.int .i64 0,.int .i64 0] 187 (0,0)):=(uZ.block _ (aaa qV.out) (by omega)).trans qV.out;have UL:Below w.heap.size w w2:=hbl.trans (uZ.below hbl.size (fun k _ e=>by omega));obtain⟨f0,f1,f2,f3⟩:=D7.box.cells;obtain⟨es,L9,TA,Ma⟩:=D7.Wk;have ce:=L9.at_ r (by omega);have Mc:=Ma r;have t0:=OX.f.cell;have t1:=OX.p.cell;have TC:Hid (iN w2 (w.heap.size) (w.heap.size+1) (w.heap.size+1+1+1+1) (w.heap.size+1+1+1) F N m l2 d2):=OX;have qU:Hid (Fd w2 F M G en per T N):=D7;have TD:Hid (jM T.data.toList per N m l2 d2):=⟨ze,fun h1 h2 x h3 h4 h5=>abe (sk.out.2 h1 h2 x h3 h4 h5) tM.1⟩
       clear tM;have Md:Hid (w2.heap[w.heap.size+1+1]?=some (.cells #[.int .i64 0,.int .i64 0] 187 (0,0))):=L8;have BP:=XL.out (es.getD r 0) Mc.2;have Ft:Hid (mx<=es.getD r 0->0<=es.getD r 0/\es.getD r 0<(N:Int)/\(N:Int)<=es.getD r 0+32768):=BP;have XM:(r:Int)<(en:Int):=by omega
       generalize es.getD r 0=xe at *;clear z0 z1 zf zl m0 Bu OX D7 ze L8 uZ L9 TA Ma Tx vM sk D6 qV hbl XL BP Mc;go_wp2
       go_roundw
       case rel=>exact⟨xe,_,lf-1,l2,d2,rfl,rfl,by go_num,by omega,fun hh=>Ft.out (by simpa using hh),TC,TD,qU,Md,UL⟩
       case measure=>simp[intOf];omega
      ·have Tz:¬(l:Int)<(m:Int):=by omega
       obtain⟨z0,z1,zf,zl⟩:=aN (vM.out).b;obtain⟨r0,r1,rf,rl⟩:=aN qV.out;clear D6 vM;go_wp2;refine aaF (v:=.agg #[.int .i64 (l:Nat),.int .i64 (d:Nat)]) ?_ rfl ⟨l,d,rfl,sk.out,(hbl.setCell (p:=⟨w.heap.size+1+1,0,none⟩) (by dsimp only;omega) _).setCell (p:=⟨w.heap.size+1+1,1,none⟩) (by dsimp only;omega) _⟩;simp[results,Tryz.results159,go_sem,r0,r1]
     ·have OV:¬(lf:Int)>0:=by omega
      obtain⟨z0,z1,zf,zl⟩:=aN (vM.out).b;obtain⟨r0,r1,rf,rl⟩:=aN qV.out;clear D6 vM;go_wp2;refine aaF (v:=.agg #[.int .i64 (l:Nat),.int .i64 (d:Nat)]) ?_ rfl ⟨l,d,rfl,sk.out,(hbl.setCell (p:=⟨w.heap.size+1+1,0,none⟩) (by dsimp only;omega) _).setCell (p:=⟨w.heap.size+1+1,1,none⟩) (by dsimp only;omega) _⟩;simp[results,Tryz.results159,go_sem,r0,r1]
  ·have sk:Hid (jM T.data.toList per N m l d):=⟨sk.out,fun h1 h2=>absurd (show (per:Int)<=mn by have:=XB.out;omega) hpn⟩
   have qU:=sq.out;obtain⟨D,q,hM,hq,hk⟩:=qU.map;obtain⟨e0,e1,e2,e3⟩:=qU.box.cells;have t0:=zt.f.cell;have t1:=zt.p.cell;have L7:=HT.out;have hxm:=HM.out;have Eu:=fun n=>et F M en per (some ⟨G,0,none⟩) T N (u.drewN n) qU.box (by omega) L7.2.2;have hkey:=uj (mB T N) (iI T N)
   obtain⟨cv,hb,hcv,hlk⟩:∃(cv:Int) (hb:Bool),(hb=true->0<=cv/\cv<(N:Int)/\(N:Int)<=cv+32768)/\∀n,(Instr.lookup 198 (.map (some M)) (.int .u32 (mB T N:Nat)) true).run Tryz.prog (u.drewN n)=.ok (.tuple #[.int .i64 cv,.bool hb]) (u.drewN n):=by
    obtain⟨cv,_,hat,_⟩:=hM.lookup_int bV Tryz.underlying198 Tryz.underlying3 (im u) hkey;refine⟨cv,Maps.has D (mq (mB T N)),fun hh=>?_,fun n=>?_⟩
    ·obtain⟨v,hv1,hv2,hv3,_⟩:=hk.val _ (iI T N) hh;rw[hv1]at hat;simp only[ab3,ab7,acm]at hat;omega
    ·obtain⟨v,ps,hrun,hv⟩:=World.ownsMap.look_ok (w:=u.drewN n) hM bV Tryz.underlying198 (im _) (ac2 Tryz.underlying3 (by decide)) hkey;obtain⟨c,rfl,hc,hwc⟩:=plainElem_int_inv Tryz.underlying3 hv;rw[hat]at hc;simp only[Prod.mk.injEq,ab3,ab7,acm]at hc;rw[hrun,hc.1]
   clear L7 hxm hM hq hk qU hkey;generalize mB T N=kx at *;have XG:Hid (hb=true->0<=cv/\cv<(N:Int)/\(N:Int)<=cv+32768):=hcv;clear hcv;go_wp2_with fail
   go_quiet ((go_at_call 179;exact s8 (Eu _)))
   have XH:Hid (iN (u.drewN nq) (w.heap.size) (w.heap.size+1) (w.heap.size+1+1+1+1) (w.heap.size+1+1+1) F N m l d):=zt.drewN nq;have XI:Hid (Fd (u.drewN nq) F M G en per T N):=sq.out.kept (fun j _=>rfl);have XJ:Hid ((u.drewN nq).heap[w.heap.size+1+1]?=some (.cells #[.int .i64 0,.int .i64 0] 187 (0,0))):=Tv.out;have XK:Below w.heap.size w (u.drewN nq):=aaD Tw nq;generalize u.drewN nq=uq at *;clear hlk Eu e0 e1 e2 e3 t0 t1 zt sq Tv Tw;go_wp2
   go_loopw [10,11,12] (fun bv okv lv wr=>∃(b:Int) (ok:Bool) (lf l d:Nat),bv=.int .i64 b/\okv=.bool ok/\lv=.int .i64 lf/\lf<=48/\Hid (ok=true->0<=b/\b<(N:Int)/\(N:Int)<=b+32768)/\Hid (iN wr (w.heap.size) (w.heap.size+1) (w.heap.size+1+1+1+1) (w.heap.size+1+1+1) F N m l d)/\Hid (jM T.data.toList per N m l d)/\Hid (Fd wr F M G en per T N)/\Hid (wr.heap[w.heap.size+1+1]?=some (.cells #[.int .i64 0,.int .i64 0] 187 (0,0)))/\Below w.heap.size w wr) (fun _ _ lv _=>(intOf lv).toNat)
   case atStart=>exact⟨cv,hb,48,l,d,rfl,rfl,rfl,aah _,XG,XH,sk,XI,XJ,XK⟩
   case round =>
    clear XH sk XI XJ XK XG;obtain⟨b,ok,lf,l,d,rfl,rfl,rfl,hlf,Tx,vM,sk,D6,qV,hbl⟩:=hrel;cases ok
    ·obtain⟨z0,z1,zf,zl⟩:=aN (vM.out).b;obtain⟨r0,r1,rf,rl⟩:=aN qV.out;clear D6 vM;go_wp2;refine aaF (v:=.agg #[.int .i64 (l:Nat),.int .i64 (d:Nat)]) ?_ rfl ⟨l,d,rfl,sk.out,(hbl.setCell (p:=⟨w.heap.size+1+1,0,none⟩) (by dsimp only;omega) _).setCell (p:=⟨w.heap.size+1+1,1,none⟩) (by dsimp only;omega) _⟩;simp[results,Tryz.results159,go_sem,r0,r1]
    ·by_cases hl0:0<lf
     ·obtain⟨z0,z1,zf,zl⟩:=aN (vM.out).b;have m0:=vM.out.m.cell;have OV:(lf:Int)>0:=by omega
      by_cases hlm:l<m
      ·obtain⟨b,rfl⟩:∃b':Nat,b=(b':Int):=⟨b.toNat,by have:=Tx.out rfl;omega⟩
       have Tz:(l:Int)<(m:Int):=by omega
       have hbv:=Tx.out rfl;have L7:=HT.out;have hxm:=HM.out;have Bu:=Dq (w.heap.size) (w.heap.size+1) (w.heap.size+1+1+1+1) (w.heap.size+1+1+1) F M en per N m l d b (some ⟨G,0,none⟩) T wr vM.out D6.out.box L7.2.2 (by omega) (by omega) (by omega) sk.out.1;obtain⟨r,hr⟩:∃r,b%32768=r:=⟨_,rfl⟩
       have Wl:(b:Int).tmod 32768=(r:Int):=by rw[acD (by omega)];omega
       have abL:r<en:=by have:=D6.out.sz;omega
       have XL:Hid (∀x:Int,(x<(N:Int)\/x=0)->mx<=x->0<=x/\x<(N:Int)/\(N:Int)<=x+32768):=fun x h1 h2=>by have:=Uy.out;omega
       clear L7 hxm hr hbv;go_wp2_with fail;refine Bu.mono ?_;rintro e w2 ⟨rfl,l2,d2,ze,OX,tM,uZ⟩;have XE:=HH.out.lt;have D7:=D6.out.kept (w':=w2) (fun j hj=>uZ.block j (by have:=hbl.size;rcases hj with rfl|rfl|rfl<;>omega) (fun e=>by rcases hj with rfl|rfl|rfl<;>omega));have L8:w2.heap[w.heap.size+1+1]?=some (.cells #[.int .i64 0,.int .i64 0] 187 (0,0)):=(uZ.block _ (aaa qV.out) (by omega)).trans qV.out;have UL:Below w.heap.size w w2:=hbl.trans (uZ.below hbl.size (fun k _ e=>by omega));obtain⟨f0,f1,f2,f3⟩:=D7.box.cells;obtain⟨es,L9,TA,Ma⟩:=D7.Wk;have ce:=L9.at_ r (by omega);have Mc:=Ma r;have t0:=OX.f.cell;have t1:=OX.p.cell;have TC:Hid (iN w2 (w.heap.size) (w.heap.size+1) (w.heap.size+1+1+1+1) (w.heap.size+1+1+1) F N m l2 d2):=OX;have qU:Hid (Fd w2 F M G en per T N):=D7;have TD:Hid (jM T.data.toList per N m l2 d2):=⟨ze,fun h1 h2 x h3 h4 h5=>abe (sk.out.2 h1 h2 x h3 h4 h5) tM.1⟩
       clear tM;have Md:Hid (w2.heap[w.heap.size+1+1]?=some (.cells #[.int .i64 0,.int .i64 0] 187 (0,0))):=L8;have BP:=XL.out (es.getD r 0) Mc.2;have Ft:Hid (mx<=es.getD r 0->0<=es.getD r 0/\es.getD r 0<(N:Int)/\(N:Int)<=es.getD r 0+32768):=BP;have XM:(r:Int)<(en:Int):=by omega
       generalize es.getD r 0=xe at *;clear z0 z1 zf zl m0 Bu OX D7 ze L8 uZ L9 TA Ma Tx vM sk D6 qV hbl XL BP Mc;go_wp2
       go_roundw
       case rel=>exact⟨xe,_,lf-1,l2,d2,rfl,rfl,by go_num,by omega,fun hh=>Ft.out (by simpa using hh),TC,TD,qU,Md,UL⟩
       case measure=>simp[intOf];omega
      ·have Tz:¬(l:Int)<(m:Int):=by omega
       obtain⟨z0,z1,zf,zl⟩:=aN (vM.out).b;obtain⟨r0,r1,rf,rl⟩:=aN qV.out;clear D6 vM;go_wp2;refine aaF (v:=.agg #[.int .i64 (l:Nat),.int .i64 (d:Nat)]) ?_ rfl ⟨l,d,rfl,sk.out,(hbl.setCell (p:=⟨w.heap.size+1+1,0,none⟩) (by dsimp only;omega) _).setCell (p:=⟨w.heap.size+1+1,1,none⟩) (by dsimp only;omega) _⟩;simp[results,Tryz.results159,go_sem,r0,r1]
     ·have OV:¬(lf:Int)>0:=by omega
      obtain⟨z0,z1,zf,zl⟩:=aN (vM.out).b;obtain⟨r0,r1,rf,rl⟩:=aN qV.out;clear D6 vM;go_wp2;refine aaF (v:=.agg #[.int .i64 (l:Nat),.int .i64 (d:Nat)]) ?_ rfl ⟨l,d,rfl,sk.out,(hbl.setCell (p:=⟨w.heap.size+1+1,0,none⟩) (by dsimp only;omega) _).setCell (p:=⟨w.heap.size+1+1,1,none⟩) (by dsimp only;omega) _⟩;simp[results,Tryz.results159,go_sem,r0,r1]
theorem Tryz.infoStep:(Tryz.prog.info? 187).map (fun i=>(i.zero,i.size,i.bytes))=some (some (.agg #[.int .i64 0,.int .i64 0]),2,16):=by kernel_rfl
def ig (S:List (Nat×Nat)):List Value:=S.flatMap fun s=>[.int .i64 (s.1:Nat),.int .i64 (s.2:Nat)]
theorem Bv (S:List (Nat×Nat))(s:Nat×Nat):ig (S++[s])=ig S++[.int .i64 (s.1:Nat),.int .i64 (s.2:Nat)]:=by simp[ig]
structure zg (w:World) (Xs:Nat) (S:List (Nat×Nat)) (sv:Value):Prop where
 box:bG w Xs sv 161
 own:w.ownsRow (Xs+1) 187 2 sv S.length (ig S)
theorem zg.kept {w w':World}{Xs:Nat}{S:List (Nat×Nat)}{sv:Value}(h:zg w Xs S sv)(k:∀j,j=Xs\/sv.ownBlock=some j->w'.heap[j]?=w.heap[j]?):zg w' Xs S sv :=
 ⟨(k _ (.inl rfl)).trans h.box,aJ h.own (fun g hg=>k g (.inr hg))⟩
theorem zg.lt {w:World}{Xs:Nat}{S:List (Nat×Nat)}{sv:Value}(h:zg w Xs S sv)(g:Nat)(hg:sv.ownBlock=some g):Xs+1<=g/\g<w.heap.size:=h.own.lt g hg
theorem zg.below {w w':World}{Xs:Nat}{S:List (Nat×Nat)}{sv:Value}(h:zg w Xs S sv)(k:Below w.heap.size w w'):zg w' Xs S sv :=
 h.kept (fun j hj=>k.block j (by rcases hj with rfl|hj;exact aaa h.box;exact (h.lt j hj).2))
theorem zh (Xs l d:Nat)(S:List (Nat×Nat))(sv:Value)(w:World)(h:zg w Xs S sv)(hS:S.length<=100000): Calls Tryz.prog 146 #[.agg #[.int .i64 (l:Nat),.int .i64 (d:Nat)],.pointer (some ⟨Xs,0,none⟩)] w fun e w'=>e=.returned (.tuple #[])/\∃Ik,zg w' Xs (S++[(l,d)]) Ik/\(Ik.ownBlock=sv.ownBlock\/∃g,Ik.ownBlock=some g/\w.heap.size<=g)/\Kp (fun k=>k=Xs\/sv.ownBlock=some k) w w':=by
 obtain⟨i0,hi,hz0,hz1,hz2⟩:=abu Tryz.infoStep;have hlx:=aaa h.box;obtain⟨k0,q0,q1⟩:=bH w (.cells #[.int .i64 (l:Nat),.int .i64 (d:Nat)] 187) (.cells #[.int .i64 (l:Nat),.int .i64 (d:Nat)] 187);have h2:=h.below k0;have hsz2:((w.alloc (.cells #[.int .i64 (l:Nat),.int .i64 (d:Nat)] 187)).alloc (.cells #[.int .i64 (l:Nat),.int .i64 (d:Nat)] 187)).heap.size=w.heap.size+1+1:=by simp
 obtain⟨v',w',hr,ho',hg',_,hat⟩:=run_append_own_at (P:=Tryz.prog) ((w.alloc (.cells #[.int .i64 (l:Nat),.int .i64 (d:Nat)] 187)).alloc (.cells #[.int .i64 (l:Nat),.int .i64 (d:Nat)] 187)) (Xs+1) 161 161 187 i0 _ 2 16 Tryz.underlying161 hi hz0 hz1 hz2 rfl (by decide) sv S.length (ig S) h2.own ⟨w.heap.size+1,0,none⟩ 1 1 [.int .i64 (l:Nat),.int .i64 (d:Nat)] rfl (fun j u hj=>by
   rw[eJ,aaO,aR q1];simpa using hj) (fun u hu=>by
   simp only[ab9,abw,or_false]at hu
   rcases hu with rfl|rfl<;>rfl) (by unfold maxLen;omega) (by omega) (by omega)
 rw[hsz2]at hat
 have hsl:zg (w'.setCell ⟨Xs,0,none⟩ v') Xs (S++[(l,d)]) v':=by
  have hbx:w'.heap[Xs]?=some (.cells #[sv] 161 (0,0)):=(hg'.block Xs (aaa h2.box) (fun e=>by have:=(h2.lt Xs e.symm).1;omega)).trans h2.box;refine⟨one_set hbx v',aJ (by rw[aac,Bv];exact ho') (fun g hg=>aak _ ⟨Xs,0,none⟩ _ g (fun e=>by have:=(ho'.lt g hg).1;dsimp only at e;omega))⟩
 have hkp:Kp (fun k=>k=Xs\/sv.ownBlock=some k) w (w'.setCell ⟨Xs,0,none⟩ v'):=by
  refine (Kp.grown (Kp.aF k0) hg' (fun k hk=>.inl (.inr hk))).setCell (p:=⟨Xs,0,none⟩) (.inl (.inl rfl)) _
 have hbx:w'.heap[Xs]?=some (.cells #[sv] 161 (0,0)):=(hg'.block Xs (aaa h2.box) (fun e=>by have:=(h2.lt Xs e.symm).1;omega)).trans h2.box;obtain⟨x0,x1,x2⟩:=one_cell hbx;have c0:=h.box.cell;have HH:Hid (_/\_/\_):=⟨hsl,hkp,hat⟩
 obtain⟨oa,oc,rfl⟩:=aV h.own;obtain⟨rU,ol,rfl⟩:=aV ho';clear h2 hsl hkp ho' hg' hat hbx k0 q0 q1 h hsz2
 go_enter Tryz.func146,Tryz.ntmps146
 go_wp2_with (at_builtin;refine aaX _ rfl _ _ _ _ rfl _ _ rfl rfl _ _ hr ?_)
 go_end0
 obtain⟨a,b,c⟩:=HH.out;refine⟨rfl,_,a,?_,b⟩;rcases c with c|c
 ·exact .inl c
 ·exact .inr ⟨_,c,by omega⟩
theorem TE (args:Array Value)(w:World):(callFunc 146 args).run Tryz.prog w=.ok (.enter 146 args) w:=by kernel_rfl
theorem xD (T:List UInt8):∀(S:List (Nat×Nat)) (p q:Nat) (s:Nat×Nat),Rf.Fits T p S q->Rf.tw T q s->Rf.Fits T p (S++[s]) (q+s.1)
 | [],p,q,s,h,hs=>by
  have h:p=q:=h;subst h;exact⟨hs,rfl⟩
 | x::r,p,q,s,h,hs=>⟨h.1,xD T r (p+x.1) q s h.2 hs⟩
theorem Il {T:List UInt8}{p e l d:Nat}(h:lE T p (min (e-p) 258) l d)(hp:p<e)(he:e<=T.length):Rf.tw T p (l,d)/\p+l<=e/\1<=l/\l<=258:=by
 rcases h with⟨rfl,rfl⟩|⟨a,b,c,g,k,q⟩
 ·exact⟨.inl ⟨rfl,rfl,by omega⟩,by omega,by omega,by omega⟩
 ·exact⟨.inr ⟨a,by omega,c,g,k,by omega,q⟩,by omega,by omega,by omega⟩
end Go.Proofs.YtmfijackgekioabGreatDoor
