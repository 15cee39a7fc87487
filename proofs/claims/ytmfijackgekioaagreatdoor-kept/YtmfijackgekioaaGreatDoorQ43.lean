import Derived.Test.YtmfijackgekioaaGreatDoorQ27
import Derived.Maps.AppendAt
set_option maxHeartbeats 8000000
set_option maxRecDepth 100000
namespace Go.Proofs.YtmfijackgekioaaGreatDoor
open Go.RowKit Go.Maps
def More (T:List UInt8)(per p most l:Nat):Prop:=per<=p->per<=32768->∀m,m<=most->3<=m->(∀k,k<m->T.getD (p+k) 0=T.getD (p+k-per) 0)->m<=l
def jE (T:List UInt8)(per p most l d:Nat):Prop:=k8 T p most l d/\More T per p most l
theorem nP (F M G en per N end_:Nat)(T:ByteArray)(w:World)(h:Fd w F M G en per T N)(hNe:N<=end_)(he:end_<=T.size)(hT:T.size<=4500000)(gU:0<T.size->1<=per)(Kg:per<=4500000): Calls Tryz.prog 204 #[.pointer (some ⟨F,0,none⟩),.int .i64 N,.int .i64 end_] w fun e w'=>∃l d:Nat,e=.returned (.agg #[.int .i64 l,.int .i64 d])/\jE T.data.toList per N (min (end_-N) 258) l d/\Below w.heap.size w w':=by
 have HH:Hid (Fd w F M G en per T N):=h;have HT:Hid (N<=end_/\end_<=T.size/\T.size<=4500000):=⟨hNe,he,hT⟩
 have AZ:Hid (0<T.size->1<=per):=gU;obtain⟨x,w1⟩:∃x,IntKind.i64.wrap ((end_:Int)-(N:Int))=x:=⟨_,rfl⟩
 have hxe:x=((end_-N:Nat):Int):=by rw[<-w1];exact (IntWalk.i64_in _ (by omega)).trans (by omega)
 obtain⟨m,hm⟩:∃m,min (end_-N) 258=m:=⟨_,rfl⟩
 have HM:Hid (min (end_-N) 258=m):=hm;have hmi:min x 258=(m:Int):=by omega
 obtain⟨mn,hmn⟩:∃mn,min (N:Int) 32768=mn:=⟨_,rfl⟩
 have W0:Hid (mn=min (N:Int) 32768):=hmn.symm;obtain⟨pi,hpi⟩:∃pi,IntKind.i64.wrap ((N:Int)-32768)=pi:=⟨_,rfl⟩
 have hpe:pi=(N:Int)-32768:=by rw[<-hpi];exact IntWalk.i64_in _ (by omega)
 obtain⟨mx,hmx⟩:∃mx,max pi 0=mx:=⟨_,rfl⟩
 have T8:Hid (mx=max ((N:Int)-32768) 0):=by show _=_;rw[<-hmx,hpe]
 have HPN:Hid (per<=N->IntKind.i64.wrap ((N:Int)-(per:Int))=((N-per:Nat):Int)):=fun hh=>(IntWalk.i64_in _ (by omega)).trans (by omega);rw[hm];have hcall:=NR;clear h hNe he hT hm hxe hpe gU Kg;by_cases hm3:(m:Int)<3
 ·obtain⟨k0,_⟩:=kH w (.cells #[.pointer (some ⟨F,0,none⟩)] 212) (.cells #[.int .i64 (N:Nat)] 3) (.cells #[.int .i64 1,.int .i64 0] 216) (.cells #[.int .i64 1,.int .i64 0] 216) (.cells #[.int .i64 (m:Nat)] 3)
  go_enter Tryz.func204,Tryz.ntmps204
  go_wp2;refine bodyPost_ret (v:=.agg #[.int .i64 ((1:Nat):Int),.int .i64 ((0:Nat):Int)]) ?_ rfl ⟨1,0,rfl,⟨.inl ⟨rfl,rfl⟩,fun _ _ x h1 h2=>by omega⟩,k0⟩;simp[results,Tryz.results204,go_sem]
 ·obtain⟨k0,q0,q1,q2,q3,q4⟩:=kH w (.cells #[.pointer (some ⟨F,0,none⟩)] 212) (.cells #[.int .i64 (N:Nat)] 3) (.cells #[.int .i64 0,.int .i64 0] 216) (.cells #[.int .i64 1,.int .i64 0] 216) (.cells #[.int .i64 (m:Nat)] 3)
  go_enter Tryz.func204,Tryz.ntmps204
  go_wp2_with fail;generalize RM:(((((w.alloc (.cells #[.pointer (some ⟨F,0,none⟩)] 212)).alloc (.cells #[.int .i64 (N:Nat)] 3)).alloc (.cells #[.int .i64 0,.int .i64 0] 216)).alloc (.cells #[.int .i64 1,.int .i64 0] 216)).alloc (.cells #[.int .i64 (m:Nat)] 3))=wa at *;have YP:iG wa (w.heap.size) (w.heap.size+1) (w.heap.size+1+1+1+1) (w.heap.size+1+1+1) F N m 1 0:=⟨q0,q1,q4,q3,by omega,by omega,by omega⟩
  have FD0:Fd wa F M G en per T N:=HH.out.below k0;have rU:Hid (k8 T.data.toList N m 1 0):=.inl ⟨rfl,rfl⟩;have cf0:=YP.f.cell;have cf1:=FD0.box.cells.2.2.2;have cf2:=YP.p.cell;have W4:Hid (Fd wa F M G en per T N):=FD0;have W8:Hid (wa.heap[w.heap.size+1+1]?=some (.cells #[.int .i64 0,.int .i64 0] 216 (0,0))):=q2;clear q0 q1 q2 q3 q4 FD0 RM
  go_quiet (fail)
  have rV:Hid (Fd (wa.drewN nq) F M G en per T N):=W4.out.kept (fun j _=>rfl);have yP:iG (wa.drewN nq) (w.heap.size) (w.heap.size+1) (w.heap.size+1+1+1+1) (w.heap.size+1+1+1) F N m 1 0:=YP.drewN nq;have ST:Hid ((wa.drewN nq).heap[w.heap.size+1+1]?=some (.cells #[.int .i64 0,.int .i64 0] 216 (0,0))):=W8.out;have SU:Below w.heap.size w (wa.drewN nq):=below_drewN k0 nq;generalize wa.drewN nq=u at *;clear cf0 cf1 cf2 W4 W8 YP k0;obtain⟨l,d,yP,rU⟩:∃l d:Nat,iG u (w.heap.size) (w.heap.size+1) (w.heap.size+1+1+1+1) (w.heap.size+1+1+1) F N m l d/\Hid (k8 T.data.toList N m l d):=⟨1,0,yP,rU⟩
  by_cases hpn:(per:Int)<=mn
  ·have hpw:IntKind.i64.wrap ((N:Int)-(per:Int))=((N-per:Nat):Int):=HPN.out (by have:=W0.out;omega);have A0:=CS (w.heap.size) (w.heap.size+1) (w.heap.size+1+1+1+1) (w.heap.size+1+1+1) F M en per N m l d (N-per) (some ⟨G,0,none⟩) T u.drew (yP.drewN 1) rV.out.box HT.out.2.2 (by have:=HT.out;have:=HM.out;have:=AZ.out (by omega);have:=W0.out;omega) (by have:=W0.out;omega) (by have:=HT.out;have:=HM.out;omega) rU.out;have hS:u.drew.cell? ⟨w.heap.size,0,none⟩=some (.pointer (some ⟨F,0,none⟩))/\u.drew.cell? ⟨F,3,none⟩=some (.int .i64 (per:Nat))/\u.drew.cell? ⟨w.heap.size+1,0,none⟩=some (.int .i64 (N:Nat)):=⟨yP.f.cell,rV.out.box.cells.2.2.2,yP.p.cell⟩
   have hlF:=rV.out.lt;have TRv:iG u.drew (w.heap.size) (w.heap.size+1) (w.heap.size+1+1+1+1) (w.heap.size+1+1+1) F N m l d:=yP.drewN 1;have FDv:Fd u.drew F M G en per T N:=rV.out.kept (fun j _=>rfl);have REv:u.drew.heap[w.heap.size+1+1]?=some (.cells #[.int .i64 0,.int .i64 0] 216 (0,0)):=ST.out;have YQ:Below w.heap.size w u.drew:=SU.drew;clear yP rV ST SU rU;have Ua:Hid (N-per+per=N):=by show _=_;have:=W0.out;omega
   generalize N-per=bb at *;go_wp2_with fail;refine ax (by kernel_rfl) (fun u=>u.cell? ⟨w.heap.size,0,none⟩=some (.pointer (some ⟨F,0,none⟩))/\u.cell? ⟨F,3,none⟩=some (.int .i64 (per:Nat))/\u.cell? ⟨w.heap.size+1,0,none⟩=some (.int .i64 (N:Nat))) 999 ?_;generalize u.drew=v at *;refine ap [0,1,2,3,4,5,6] ?_
   iterate 7 (refine ar (v:=?_) rfl (by kernel_rfl) (fun _ _ _ h=>h) ?_ hS ?_;rotate_left;(·intro w hSw;(try dsimp only at hSw);go_simp;try with_reducible rfl);try simp only[Act.put])
   refine ai ?_;refine af (i:=7) (by kernel_rfl) rfl (fun K hK=>?_);go_simp;refine A0.mono ?_;rintro e u ⟨rfl,l,d,hbo,yP,hmo,kp⟩;have W9:=HH.out.lt;have fdu:Fd u F M G en per T N:=FDv.kept (fun j hj=>kp.block j (by have:=YQ.size;rcases hj with rfl|rfl|rfl<;>omega) (fun e=>by rcases hj with rfl|rfl|rfl<;>omega));have rV:Hid (Fd u F M G en per T N):=fdu;have rU:Hid (jE T.data.toList per N m l d):=⟨hbo,fun h1 h2 x h3 h4 h5=>hmo.2 x h3 h4 (fun k hk=>by rw[h5 k hk,show N+k-per=bb+k by have:=Ua.out;omega])⟩
   clear hmo Ua;have ST:Hid (u.heap[w.heap.size+1+1]?=some (.cells #[.int .i64 0,.int .i64 0] 216 (0,0))):=(kp.block _ (lt_of_block REv) (by omega)).trans REv;have SU:Below w.heap.size w u:=YQ.trans (kp.below YQ.size (fun k _ e=>by omega));refine hK _ _ (fun _=>⟨yP.f.cell,fdu.box.cells.2.2.2,yP.p.cell⟩) ?_;clear hK K fdu hbo FDv REv YQ kp A0 hS TRv;refine ak (by kernel_rfl) ?_ _;have qO:=rV.out;obtain⟨D,q,hM,hq,hk⟩:=qO.map;obtain⟨e0,e1,e2,e3⟩:=qO.box.cells;have t0:=yP.f.cell;have t1:=yP.p.cell;have Lz:=HT.out;have hxm:=HM.out;have D2:=fun n=>d9 F M en per (some ⟨G,0,none⟩) T N (u.drewN n) qO.box (by omega) Lz.2.2;have hkey:=t9 (mh T N) (iC T N)
   obtain⟨cv,hb,hcv,hlk⟩:∃(cv:Int) (hb:Bool),(hb=true->0<=cv/\cv<(N:Int)/\(N:Int)<=cv+32768)/\∀n,(Instr.lookup 235 (.map (some M)) (.int .u32 (mh T N:Nat)) true).run Tryz.prog (u.drewN n)=.ok (.tuple #[.int .i64 cv,.bool hb]) (u.drewN n):=by
    obtain⟨cv,_,hat,_⟩:=hM.lookup_int bK Tryz.underlying235 Tryz.underlying3 (ib u) hkey;refine⟨cv,Maps.has D (mb (mh T N)),fun hh=>?_,fun n=>?_⟩
    ·obtain⟨v,hv1,hv2,hv3,_⟩:=hk.val _ (iC T N) hh;rw[hv1]at hat;simp only[DataW.lit.injEq,Lit.int.injEq,true_and]at hat;omega
    ·obtain⟨v,ps,hrun,hv⟩:=World.ownsMap.look_ok (w:=u.drewN n) hM bK Tryz.underlying235 (ib _) (plainElem_int Tryz.underlying3 (by decide)) hkey;obtain⟨c,rfl,hc,hwc⟩:=plainElem_int_inv Tryz.underlying3 hv;rw[hat]at hc;simp only[Prod.mk.injEq,DataW.lit.injEq,Lit.int.injEq,true_and]at hc;rw[hrun,hc.1]
   clear Lz hxm hM hq hk qO hkey;generalize mh T N=kx at *;have Xa:Hid (hb=true->0<=cv/\cv<(N:Int)/\(N:Int)<=cv+32768):=hcv;clear hcv;go_wp2_with fail
   go_quiet ((go_at_call 226;exact sQ (D2 _)))
   have Xc:Hid (iG (u.drewN nq) (w.heap.size) (w.heap.size+1) (w.heap.size+1+1+1+1) (w.heap.size+1+1+1) F N m l d):=yP.drewN nq;have Xd:Hid (Fd (u.drewN nq) F M G en per T N):=rV.out.kept (fun j _=>rfl);have Xe:Hid ((u.drewN nq).heap[w.heap.size+1+1]?=some (.cells #[.int .i64 0,.int .i64 0] 216 (0,0))):=ST.out;have Xg:Below w.heap.size w (u.drewN nq):=below_drewN SU nq;generalize u.drewN nq=uq at *;clear hlk D2 e0 e1 e2 e3 t0 t1 yP rV ST SU;go_wp2
   go_loopw [10,11,12] (fun bv okv lv wr=>∃(b:Int) (ok:Bool) (lf l d:Nat),bv=.int .i64 b/\okv=.bool ok/\lv=.int .i64 lf/\lf<=48/\Hid (ok=true->0<=b/\b<(N:Int)/\(N:Int)<=b+32768)/\Hid (iG wr (w.heap.size) (w.heap.size+1) (w.heap.size+1+1+1+1) (w.heap.size+1+1+1) F N m l d)/\Hid (jE T.data.toList per N m l d)/\Hid (Fd wr F M G en per T N)/\Hid (wr.heap[w.heap.size+1+1]?=some (.cells #[.int .i64 0,.int .i64 0] 216 (0,0)))/\Below w.heap.size w wr) (fun _ _ lv _=>(intOf lv).toNat)
   case atStart=>exact⟨cv,hb,48,l,d,rfl,rfl,rfl,Nat.le_refl _,Xa,Xc,rU,Xd,Xe,Xg⟩
   case round =>
    clear Xc rU Xd Xe Xg Xa;obtain⟨b,ok,lf,l,d,rfl,rfl,rfl,hlf,SV,vt,rU,Du,qP,hbl⟩:=hrel;cases ok
    ·obtain⟨z0,z1,zf,zl⟩:=aL (vt.out).b;obtain⟨r0,r1,rf,rl⟩:=aL qP.out;clear Du vt;go_wp2;refine bodyPost_ret (v:=.agg #[.int .i64 (l:Nat),.int .i64 (d:Nat)]) ?_ rfl ⟨l,d,rfl,rU.out,(hbl.setCell (p:=⟨w.heap.size+1+1,0,none⟩) (by dsimp only;omega) _).setCell (p:=⟨w.heap.size+1+1,1,none⟩) (by dsimp only;omega) _⟩;simp[results,Tryz.results204,go_sem,r0,r1]
    ·by_cases hl0:0<lf
     ·obtain⟨z0,z1,zf,zl⟩:=aL (vt.out).b;have m0:=vt.out.m.cell;have On:(lf:Int)>0:=by omega
      by_cases hlm:l<m
      ·obtain⟨b,rfl⟩:∃b':Nat,b=(b':Int):=⟨b.toNat,by have:=SV.out rfl;omega⟩
       have SW:(l:Int)<(m:Int):=by omega
       have hbv:=SV.out rfl;have Lz:=HT.out;have hxm:=HM.out;have A0:=CS (w.heap.size) (w.heap.size+1) (w.heap.size+1+1+1+1) (w.heap.size+1+1+1) F M en per N m l d b (some ⟨G,0,none⟩) T wr vt.out Du.out.box Lz.2.2 (by omega) (by omega) (by omega) rU.out.1;obtain⟨r,hr⟩:∃r,b%32768=r:=⟨_,rfl⟩
       have VT:(b:Int).tmod 32768=(r:Int):=by rw[Int.tmod_eq_emod_of_nonneg (by omega)];omega
       have abj:r<en:=by have:=Du.out.sz;omega
       have Xh:Hid (∀x:Int,(x<(N:Int)\/x=0)->mx<=x->0<=x/\x<(N:Int)/\(N:Int)<=x+32768):=fun x h1 h2=>by have:=T8.out;omega
       clear Lz hxm hr hbv;go_wp2_with fail;refine A0.mono ?_;rintro e w2 ⟨rfl,l2,d2,yC,Oo,tD,uI⟩;have W9:=HH.out.lt;have Dv:=Du.out.kept (w':=w2) (fun j hj=>uI.block j (by have:=hbl.size;rcases hj with rfl|rfl|rfl<;>omega) (fun e=>by rcases hj with rfl|rfl|rfl<;>omega));have LA:w2.heap[w.heap.size+1+1]?=some (.cells #[.int .i64 0,.int .i64 0] 216 (0,0)):=(uI.block _ (lt_of_block qP.out) (by omega)).trans qP.out;have Ul:Below w.heap.size w w2:=hbl.trans (uI.below hbl.size (fun k _ e=>by omega));obtain⟨f0,f1,f2,f3⟩:=Dv.box.cells;obtain⟨es,LC,SX,LD⟩:=Dv.VS;have ce:=LC.at_ r (by omega);have LE:=LD r;have t0:=Oo.f.cell;have t1:=Oo.p.cell;have SZ:Hid (iG w2 (w.heap.size) (w.heap.size+1) (w.heap.size+1+1+1+1) (w.heap.size+1+1+1) F N m l2 d2):=Oo;have qO:Hid (Fd w2 F M G en per T N):=Dv;have S8:Hid (jE T.data.toList per N m l2 d2):=⟨yC,fun h1 h2 x h3 h4 h5=>Nat.le_trans (rU.out.2 h1 h2 x h3 h4 h5) tD.1⟩
       clear tD;have LF:Hid (w2.heap[w.heap.size+1+1]?=some (.cells #[.int .i64 0,.int .i64 0] 216 (0,0))):=LA;have Bj:=Xh.out (es.getD r 0) LE.2;have EW:Hid (mx<=es.getD r 0->0<=es.getD r 0/\es.getD r 0<(N:Int)/\(N:Int)<=es.getD r 0+32768):=Bj;have Xi:(r:Int)<(en:Int):=by omega
       generalize es.getD r 0=xe at *;clear z0 z1 zf zl m0 A0 Oo Dv yC LA uI LC SX LD SV vt rU Du qP hbl Xh Bj LE;go_wp2
       go_roundw
       case rel=>exact⟨xe,_,lf-1,l2,d2,rfl,rfl,by go_num,by omega,fun hh=>EW.out (by simpa using hh),SZ,S8,qO,LF,Ul⟩
       case measure=>simp[intOf];omega
      ·have SW:¬(l:Int)<(m:Int):=by omega
       obtain⟨z0,z1,zf,zl⟩:=aL (vt.out).b;obtain⟨r0,r1,rf,rl⟩:=aL qP.out;clear Du vt;go_wp2;refine bodyPost_ret (v:=.agg #[.int .i64 (l:Nat),.int .i64 (d:Nat)]) ?_ rfl ⟨l,d,rfl,rU.out,(hbl.setCell (p:=⟨w.heap.size+1+1,0,none⟩) (by dsimp only;omega) _).setCell (p:=⟨w.heap.size+1+1,1,none⟩) (by dsimp only;omega) _⟩;simp[results,Tryz.results204,go_sem,r0,r1]
     ·have On:¬(lf:Int)>0:=by omega
      obtain⟨z0,z1,zf,zl⟩:=aL (vt.out).b;obtain⟨r0,r1,rf,rl⟩:=aL qP.out;clear Du vt;go_wp2;refine bodyPost_ret (v:=.agg #[.int .i64 (l:Nat),.int .i64 (d:Nat)]) ?_ rfl ⟨l,d,rfl,rU.out,(hbl.setCell (p:=⟨w.heap.size+1+1,0,none⟩) (by dsimp only;omega) _).setCell (p:=⟨w.heap.size+1+1,1,none⟩) (by dsimp only;omega) _⟩;simp[results,Tryz.results204,go_sem,r0,r1]
  ·have rU:Hid (jE T.data.toList per N m l d):=⟨rU.out,fun h1 h2=>absurd (show (per:Int)<=mn by have:=W0.out;omega) hpn⟩
   have qO:=rV.out;obtain⟨D,q,hM,hq,hk⟩:=qO.map;obtain⟨e0,e1,e2,e3⟩:=qO.box.cells;have t0:=yP.f.cell;have t1:=yP.p.cell;have Lz:=HT.out;have hxm:=HM.out;have D2:=fun n=>d9 F M en per (some ⟨G,0,none⟩) T N (u.drewN n) qO.box (by omega) Lz.2.2;have hkey:=t9 (mh T N) (iC T N)
   obtain⟨cv,hb,hcv,hlk⟩:∃(cv:Int) (hb:Bool),(hb=true->0<=cv/\cv<(N:Int)/\(N:Int)<=cv+32768)/\∀n,(Instr.lookup 235 (.map (some M)) (.int .u32 (mh T N:Nat)) true).run Tryz.prog (u.drewN n)=.ok (.tuple #[.int .i64 cv,.bool hb]) (u.drewN n):=by
    obtain⟨cv,_,hat,_⟩:=hM.lookup_int bK Tryz.underlying235 Tryz.underlying3 (ib u) hkey;refine⟨cv,Maps.has D (mb (mh T N)),fun hh=>?_,fun n=>?_⟩
    ·obtain⟨v,hv1,hv2,hv3,_⟩:=hk.val _ (iC T N) hh;rw[hv1]at hat;simp only[DataW.lit.injEq,Lit.int.injEq,true_and]at hat;omega
    ·obtain⟨v,ps,hrun,hv⟩:=World.ownsMap.look_ok (w:=u.drewN n) hM bK Tryz.underlying235 (ib _) (plainElem_int Tryz.underlying3 (by decide)) hkey;obtain⟨c,rfl,hc,hwc⟩:=plainElem_int_inv Tryz.underlying3 hv;rw[hat]at hc;simp only[Prod.mk.injEq,DataW.lit.injEq,Lit.int.injEq,true_and]at hc;rw[hrun,hc.1]
   clear Lz hxm hM hq hk qO hkey;generalize mh T N=kx at *;have Xa:Hid (hb=true->0<=cv/\cv<(N:Int)/\(N:Int)<=cv+32768):=hcv;clear hcv;go_wp2_with fail
   go_quiet ((go_at_call 226;exact sQ (D2 _)))
   have Xc:Hid (iG (u.drewN nq) (w.heap.size) (w.heap.size+1) (w.heap.size+1+1+1+1) (w.heap.size+1+1+1) F N m l d):=yP.drewN nq;have Xd:Hid (Fd (u.drewN nq) F M G en per T N):=rV.out.kept (fun j _=>rfl);have Xe:Hid ((u.drewN nq).heap[w.heap.size+1+1]?=some (.cells #[.int .i64 0,.int .i64 0] 216 (0,0))):=ST.out;have Xg:Below w.heap.size w (u.drewN nq):=below_drewN SU nq;generalize u.drewN nq=uq at *;clear hlk D2 e0 e1 e2 e3 t0 t1 yP rV ST SU;go_wp2
   go_loopw [10,11,12] (fun bv okv lv wr=>∃(b:Int) (ok:Bool) (lf l d:Nat),bv=.int .i64 b/\okv=.bool ok/\lv=.int .i64 lf/\lf<=48/\Hid (ok=true->0<=b/\b<(N:Int)/\(N:Int)<=b+32768)/\Hid (iG wr (w.heap.size) (w.heap.size+1) (w.heap.size+1+1+1+1) (w.heap.size+1+1+1) F N m l d)/\Hid (jE T.data.toList per N m l d)/\Hid (Fd wr F M G en per T N)/\Hid (wr.heap[w.heap.size+1+1]?=some (.cells #[.int .i64 0,.int .i64 0] 216 (0,0)))/\Below w.heap.size w wr) (fun _ _ lv _=>(intOf lv).toNat)
   case atStart=>exact⟨cv,hb,48,l,d,rfl,rfl,rfl,Nat.le_refl _,Xa,Xc,rU,Xd,Xe,Xg⟩
   case round =>
    clear Xc rU Xd Xe Xg Xa;obtain⟨b,ok,lf,l,d,rfl,rfl,rfl,hlf,SV,vt,rU,Du,qP,hbl⟩:=hrel;cases ok
    ·obtain⟨z0,z1,zf,zl⟩:=aL (vt.out).b;obtain⟨r0,r1,rf,rl⟩:=aL qP.out;clear Du vt;go_wp2;refine bodyPost_ret (v:=.agg #[.int .i64 (l:Nat),.int .i64 (d:Nat)]) ?_ rfl ⟨l,d,rfl,rU.out,(hbl.setCell (p:=⟨w.heap.size+1+1,0,none⟩) (by dsimp only;omega) _).setCell (p:=⟨w.heap.size+1+1,1,none⟩) (by dsimp only;omega) _⟩;simp[results,Tryz.results204,go_sem,r0,r1]
    ·by_cases hl0:0<lf
     ·obtain⟨z0,z1,zf,zl⟩:=aL (vt.out).b;have m0:=vt.out.m.cell;have On:(lf:Int)>0:=by omega
      by_cases hlm:l<m
      ·obtain⟨b,rfl⟩:∃b':Nat,b=(b':Int):=⟨b.toNat,by have:=SV.out rfl;omega⟩
       have SW:(l:Int)<(m:Int):=by omega
       have hbv:=SV.out rfl;have Lz:=HT.out;have hxm:=HM.out;have A0:=CS (w.heap.size) (w.heap.size+1) (w.heap.size+1+1+1+1) (w.heap.size+1+1+1) F M en per N m l d b (some ⟨G,0,none⟩) T wr vt.out Du.out.box Lz.2.2 (by omega) (by omega) (by omega) rU.out.1;obtain⟨r,hr⟩:∃r,b%32768=r:=⟨_,rfl⟩
       have VT:(b:Int).tmod 32768=(r:Int):=by rw[Int.tmod_eq_emod_of_nonneg (by omega)];omega
       have abj:r<en:=by have:=Du.out.sz;omega
       have Xh:Hid (∀x:Int,(x<(N:Int)\/x=0)->mx<=x->0<=x/\x<(N:Int)/\(N:Int)<=x+32768):=fun x h1 h2=>by have:=T8.out;omega
       clear Lz hxm hr hbv;go_wp2_with fail;refine A0.mono ?_;rintro e w2 ⟨rfl,l2,d2,yC,Oo,tD,uI⟩;have W9:=HH.out.lt;have Dv:=Du.out.kept (w':=w2) (fun j hj=>uI.block j (by have:=hbl.size;rcases hj with rfl|rfl|rfl<;>omega) (fun e=>by rcases hj with rfl|rfl|rfl<;>omega));have LA:w2.heap[w.heap.size+1+1]?=some (.cells #[.int .i64 0,.int .i64 0] 216 (0,0)):=(uI.block _ (lt_of_block qP.out) (by omega)).trans qP.out;have Ul:Below w.heap.size w w2:=hbl.trans (uI.below hbl.size (fun k _ e=>by omega));obtain⟨f0,f1,f2,f3⟩:=Dv.box.cells;obtain⟨es,LC,SX,LD⟩:=Dv.VS;have ce:=LC.at_ r (by omega);have LE:=LD r;have t0:=Oo.f.cell;have t1:=Oo.p.cell;have SZ:Hid (iG w2 (w.heap.size) (w.heap.size+1) (w.heap.size+1+1+1+1) (w.heap.size+1+1+1) F N m l2 d2):=Oo;have qO:Hid (Fd w2 F M G en per T N):=Dv;have S8:Hid (jE T.data.toList per N m l2 d2):=⟨yC,fun h1 h2 x h3 h4 h5=>Nat.le_trans (rU.out.2 h1 h2 x h3 h4 h5) tD.1⟩
       clear tD;have LF:Hid (w2.heap[w.heap.size+1+1]?=some (.cells #[.int .i64 0,.int .i64 0] 216 (0,0))):=LA;have Bj:=Xh.out (es.getD r 0) LE.2;have EW:Hid (mx<=es.getD r 0->0<=es.getD r 0/\es.getD r 0<(N:Int)/\(N:Int)<=es.getD r 0+32768):=Bj;have Xi:(r:Int)<(en:Int):=by omega
       generalize es.getD r 0=xe at *;clear z0 z1 zf zl m0 A0 Oo Dv yC LA uI LC SX LD SV vt rU Du qP hbl Xh Bj LE;go_wp2
       go_roundw
       case rel=>exact⟨xe,_,lf-1,l2,d2,rfl,rfl,by go_num,by omega,fun hh=>EW.out (by simpa using hh),SZ,S8,qO,LF,Ul⟩
       case measure=>simp[intOf];omega
      ·have SW:¬(l:Int)<(m:Int):=by omega
       obtain⟨z0,z1,zf,zl⟩:=aL (vt.out).b;obtain⟨r0,r1,rf,rl⟩:=aL qP.out;clear Du vt;go_wp2;refine bodyPost_ret (v:=.agg #[.int .i64 (l:Nat),.int .i64 (d:Nat)]) ?_ rfl ⟨l,d,rfl,rU.out,(hbl.setCell (p:=⟨w.heap.size+1+1,0,none⟩) (by dsimp only;omega) _).setCell (p:=⟨w.heap.size+1+1,1,none⟩) (by dsimp only;omega) _⟩;simp[results,Tryz.results204,go_sem,r0,r1]
     ·have On:¬(lf:Int)>0:=by omega
      obtain⟨z0,z1,zf,zl⟩:=aL (vt.out).b;obtain⟨r0,r1,rf,rl⟩:=aL qP.out;clear Du vt;go_wp2;refine bodyPost_ret (v:=.agg #[.int .i64 (l:Nat),.int .i64 (d:Nat)]) ?_ rfl ⟨l,d,rfl,rU.out,(hbl.setCell (p:=⟨w.heap.size+1+1,0,none⟩) (by dsimp only;omega) _).setCell (p:=⟨w.heap.size+1+1,1,none⟩) (by dsimp only;omega) _⟩;simp[results,Tryz.results204,go_sem,r0,r1]
theorem Tryz.infoStep:(Tryz.prog.info? 216).map (fun i=>(i.zero,i.size,i.bytes))=some (some (.agg #[.int .i64 0,.int .i64 0]),2,16):=by kernel_rfl
def gY (S:List (Nat×Nat)):List Value:=S.flatMap fun s=>[.int .i64 (s.1:Nat),.int .i64 (s.2:Nat)]
theorem A3 (S:List (Nat×Nat))(s:Nat×Nat):gY (S++[s])=gY S++[.int .i64 (s.1:Nat),.int .i64 (s.2:Nat)]:=by simp[gY]
structure yD (w:World) (Xs:Nat) (S:List (Nat×Nat)) (sv:Value):Prop where
 box:bu w Xs sv 186
 own:w.ownsRow (Xs+1) 216 2 sv S.length (gY S)
theorem yD.kept {w w':World}{Xs:Nat}{S:List (Nat×Nat)}{sv:Value}(h:yD w Xs S sv)(k:∀j,j=Xs\/sv.ownBlock=some j->w'.heap[j]?=w.heap[j]?):yD w' Xs S sv :=
 ⟨(k _ (.inl rfl)).trans h.box,aI h.own (fun g hg=>k g (.inr hg))⟩
theorem yD.lt {w:World}{Xs:Nat}{S:List (Nat×Nat)}{sv:Value}(h:yD w Xs S sv)(g:Nat)(hg:sv.ownBlock=some g):Xs+1<=g/\g<w.heap.size:=h.own.lt g hg
theorem yD.below {w w':World}{Xs:Nat}{S:List (Nat×Nat)}{sv:Value}(h:yD w Xs S sv)(k:Below w.heap.size w w'):yD w' Xs S sv :=
 h.kept (fun j hj=>k.block j (by rcases hj with rfl|hj;exact lt_of_block h.box;exact (h.lt j hj).2))
theorem yF (Xs l d:Nat)(S:List (Nat×Nat))(sv:Value)(w:World)(h:yD w Xs S sv)(hS:S.length<=100000): Calls Tryz.prog 181 #[.agg #[.int .i64 (l:Nat),.int .i64 (d:Nat)],.pointer (some ⟨Xs,0,none⟩)] w fun e w'=>e=.returned (.tuple #[])/\∃Hk,yD w' Xs (S++[(l,d)]) Hk/\(Hk.ownBlock=sv.ownBlock\/∃g,Hk.ownBlock=some g/\w.heap.size<=g)/\Kp (fun k=>k=Xs\/sv.ownBlock=some k) w w':=by
 obtain⟨i0,hi,hz0,hz1,hz2⟩:=info_parts Tryz.infoStep;have hlx:=lt_of_block h.box;obtain⟨k0,q0,q1⟩:=bJ w (.cells #[.int .i64 (l:Nat),.int .i64 (d:Nat)] 216) (.cells #[.int .i64 (l:Nat),.int .i64 (d:Nat)] 216);have h2:=h.below k0;have hsz2:((w.alloc (.cells #[.int .i64 (l:Nat),.int .i64 (d:Nat)] 216)).alloc (.cells #[.int .i64 (l:Nat),.int .i64 (d:Nat)] 216)).heap.size=w.heap.size+1+1:=by simp
 obtain⟨v',w',hr,ho',hg',_,hat⟩:=run_append_own_at (P:=Tryz.prog) ((w.alloc (.cells #[.int .i64 (l:Nat),.int .i64 (d:Nat)] 216)).alloc (.cells #[.int .i64 (l:Nat),.int .i64 (d:Nat)] 216)) (Xs+1) 186 186 216 i0 _ 2 16 Tryz.underlying186 hi hz0 hz1 hz2 rfl (by decide) sv S.length (gY S) h2.own ⟨w.heap.size+1,0,none⟩ 1 1 [.int .i64 (l:Nat),.int .i64 (d:Nat)] rfl (fun j u hj=>by
   rw[eU,Nat.zero_add,aR q1];simpa using hj) (fun u hu=>by
   simp only[List.mem_cons,List.not_mem_nil,or_false]at hu
   rcases hu with rfl|rfl<;>rfl) (by unfold maxLen;omega) (by omega) (by omega)
 rw[hsz2]at hat
 have hsl:yD (w'.setCell ⟨Xs,0,none⟩ v') Xs (S++[(l,d)]) v':=by
  have hbx:w'.heap[Xs]?=some (.cells #[sv] 186 (0,0)):=(hg'.block Xs (lt_of_block h2.box) (fun e=>by have:=(h2.lt Xs e.symm).1;omega)).trans h2.box;refine⟨one_set hbx v',aI (by rw[List.length_append,A3];exact ho') (fun g hg=>Below.heap_setCell _ ⟨Xs,0,none⟩ _ g (fun e=>by have:=(ho'.lt g hg).1;dsimp only at e;omega))⟩
 have hkp:Kp (fun k=>k=Xs\/sv.ownBlock=some k) w (w'.setCell ⟨Xs,0,none⟩ v'):=by
  refine (Kp.grown (Kp.aG k0) hg' (fun k hk=>.inl (.inr hk))).setCell (p:=⟨Xs,0,none⟩) (.inl (.inl rfl)) _
 have hbx:w'.heap[Xs]?=some (.cells #[sv] 186 (0,0)):=(hg'.block Xs (lt_of_block h2.box) (fun e=>by have:=(h2.lt Xs e.symm).1;omega)).trans h2.box;obtain⟨x0,x1,x2⟩:=one_cell hbx;have c0:=h.box.cell;have HH:Hid (_/\_/\_):=⟨hsl,hkp,hat⟩
 obtain⟨oa,oc,rfl⟩:=aT h.own;obtain⟨vT,qm,rfl⟩:=aT ho';clear h2 hsl hkp ho' hg' hat hbx k0 q0 q1 h hsz2
 go_enter Tryz.func181,Tryz.ntmps181
 go_wp2_with (at_builtin;refine Lib.wpList_append_run _ rfl _ _ _ _ rfl _ _ rfl rfl _ _ hr ?_)
 go_end0
 obtain⟨a,b,c⟩:=HH.out;refine⟨rfl,_,a,?_,b⟩;rcases c with c|c
 ·exact .inl c
 ·exact .inr ⟨_,c,by omega⟩
theorem S9 (args:Array Value)(w:World):(callFunc 181 args).run Tryz.prog w=.ok (.enter 181 args) w:=by kernel_rfl
theorem wW (T:List UInt8):∀(S:List (Nat×Nat)) (p q:Nat) (s:Nat×Nat),Rf.Fits T p S q->Rf.tg T q s->Rf.Fits T p (S++[s]) (q+s.1)
 | [],p,q,s,h,hs=>by
  have h:p=q:=h;subst h;exact⟨hs,rfl⟩
 | x::r,p,q,s,h,hs=>⟨h.1,wW T r (p+x.1) q s h.2 hs⟩
theorem Hl {T:List UInt8}{p e l d:Nat}(h:k8 T p (min (e-p) 258) l d)(hp:p<e)(he:e<=T.length):Rf.tg T p (l,d)/\p+l<=e/\1<=l/\l<=258:=by
 rcases h with⟨rfl,rfl⟩|⟨a,b,c,g,k,q⟩
 ·exact⟨.inl ⟨rfl,rfl,by omega⟩,by omega,by omega,by omega⟩
 ·exact⟨.inr ⟨a,by omega,c,g,k,by omega,q⟩,by omega,by omega,by omega⟩
end Go.Proofs.YtmfijackgekioaaGreatDoor
