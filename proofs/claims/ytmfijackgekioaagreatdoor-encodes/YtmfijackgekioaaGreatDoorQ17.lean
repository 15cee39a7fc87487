import Derived.Test.YtmfijackgekioaaGreatDoorQ15
import Derived.Test.YtmfijackgekioaaGreatDoorQ16
set_option maxHeartbeats 2000000
set_option maxRecDepth 100000
namespace Go.Proofs.YtmfijackgekioaaGreatDoor
open Go.RowKit
def trimF (l:List Int)(least:Nat):Nat->Nat
 | 0=>0
 | c+1=>if least<c+1/\l.getD c 0=0 then trimF l least c else c+1
theorem bj (l:List Int)(least:Nat):∀c,trimF l least c<=c
 | 0=>aad _
 | c+1=>by
  have:=bj l least c;rw[trimF];split<;>omega
theorem gP (l:List Int)(least:Nat):∀c,least<=c->least<=trimF l least c
 | 0,h=>h
 | c+1,h=>by
  rw[trimF];split
  ·next q=>exact gP l least c (by omega)
  ·exact h
theorem gj (l:List Int)(least:Nat):∀c j,trimF l least c<=j->j<c->l.getD j 0=0
 | 0,j,_,h=>by omega
 | c+1,j,h1,h2=>by
  rw[trimF]at h1;by_cases q:least<c+1/\l.getD c 0=0
  ·rw[aaf q]at h1;by_cases e:j=c
   ·rw[e];exact q.2
   ·exact gj l least c j h1 (by omega)
  ·rw[aae q]at h1;omega
theorem Fe {w:World}{ao:Option Addr}{l:List Int}(h:Ints w ao l)(j:Nat)(hj:j<l.length):∃b off,ao=some ⟨b,off,none⟩/\w.cell? ⟨b,off+j,none⟩=some (.int .i64 (l.getD j 0)):=by
 obtain⟨b,off,e,hc⟩:=h j hj;exact⟨b,off,e,by rw[hc,aaa,aai hj];rfl⟩
theorem ot (l:List Int)(least N cap:Nat)(ao:Option Addr)(w:World)(hN:l.length=N)(LH:N<=700)(hl3:least<=700)(hint:Ints w ao l): Calls Tryz.prog 252 #[.slice ao N cap,.int .i64 least] w fun e w'=>e=.returned (.int .i64 (trimF l least N:Nat))/\∃n,w'=w.drewN n:=by
 go_enter Tryz.func252,Tryz.ntmps252
 go_wp2
 go_loopw [5] (fun cv wr=>∃(c n:Nat),c<=N/\cv=.int .i64 c/\Hid (trimF l least c=trimF l least N)/\wr=w.drewN n) (fun cv _=>(intOf cv).toNat)
 case atStart=>exact⟨N,0,aad _,rfl,rfl,rfl⟩
 case round =>
  obtain⟨c,n,hc,rfl,HT,rfl⟩:=hrel;by_cases hgt:least<c
  ·obtain⟨d,rfl⟩:∃d,c=d+1:=⟨c-1,by omega⟩
   obtain⟨b,off,rfl,hcell⟩:=Fe hint d (by omega);have HT2:=HT.out;rw[trimF]at HT2;have HX:Hid ((if least<d+1/\l.getD d 0=0 then trimF l least d else d+1)=trimF l least N):=HT2;obtain⟨C,hC⟩:∃C:Nat,C=d+1:=⟨_,rfl⟩
   rw[<-hC]at hgt hc ⊢;have ZJ:C<=d+1:=by omega
   have hC2:d+1<=C:=by omega
   have eC:(C:Int)-1=(d:Int):=by omega
   have hdN:(d:Int)<(N:Int):=by omega
   have hdec:decide ((C:Int)>(least:Int))=true:=by simp;omega
   have Xa:(C:Int)>(least:Int):=by omega
   clear hC HT HT2;by_cases h0:l.getD d 0=0
   ·have HY:Hid (trimF l least d=trimF l least N):=by have:=HX.out;rw[aaf ⟨by omega,h0⟩]at this;exact this
    rw[h0]at hcell;clear h0 HX;go_wp2
    go_roundw
    case rel=>exact⟨d,n,by omega,by go_num,HY,rfl⟩
    case measure=>simp[intOf];omega
   ·have HY:Hid (d+1=trimF l least N):=by have:=HX.out;rw[aae (by rintro⟨_,q⟩;exact h0 q)]at this;exact this
    generalize l.getD d 0=y at *;have h0':(y==0)=false:=by simp[h0]
    clear HX;go_wp2
    go_ret
    exact⟨aC (by rw[<-HY.out];omega),n,rfl⟩
  ·have hdec:decide ((c:Int)>(least:Int))=false:=by simp;omega
   have Xa:¬(c:Int)>(least:Int):=by omega
   have HY:Hid (trimF l least N=c):=by
    show _=_;rw[<-HT.out];cases c with
    | zero=>rfl
    | succ c=>rw[trimF,aae (by omega)]
   go_wp2
   go_ret
   exact⟨aC (by rw[HY.out]),n,rfl⟩
abbrev sR (s d n:Value):Value:=.agg #[s,d,n]
theorem vK (ls ds:List Int)(N1 N2 p1 p2:Nat)(a1 a2:Option Addr)(nv:Value)(na:Option Addr)(nn nc:Nat)(hnv:nv=.slice na nn nc)(w:World)(h1:ls.length=N1)(h2:ds.length=N2)(l1:N1<=700)(l2:N2<=700)(i1:Ints w a1 ls)(i2:Ints w a2 ds)(b1:∀a,a1=some a->ls≠[]->a.block<w.heap.size)(b2:∀a,a2=some a->ds≠[]->a.block<w.heap.size): Calls Tryz.prog 239 #[sR (.slice a1 N1 p1) (.slice a2 N2 p2) nv] w fun e w'=>e=.returned (.tuple #[.int .i64 (trimF ls 257 N1:Nat),.int .i64 (trimF ds 1 N2:Nat)])/\Below w.heap.size w w':=by
 subst hnv;have k0:=ag w (.cells #[.slice a1 N1 p1,.slice a2 N2 p2,.slice na nn nc] 246);have c1:∀x,Calls Tryz.prog 252 #[.slice a1 N1 p1,.int .i64 257] ((w.alloc (.cells #[.slice a1 N1 p1,.slice a2 N2 p2,.slice na nn nc] 246)).drewN x) fun e w'=>e=.returned (.int .i64 (trimF ls 257 N1:Nat))/\∃n,w'=((w.alloc (.cells #[.slice a1 N1 p1,.slice a2 N2 p2,.slice na nn nc] 246)).drewN x).drewN n:=fun x=>ot ls 257 N1 p1 a1 ((w.alloc (.cells #[.slice a1 N1 p1,.slice a2 N2 p2,.slice na nn nc] 246)).drewN x) h1 l1 (by omega) (i1.below (aap k0 x) b1);have c2:∀x,Calls Tryz.prog 252 #[.slice a2 N2 p2,.int .i64 1] ((w.alloc (.cells #[.slice a1 N1 p1,.slice a2 N2 p2,.slice na nn nc] 246)).drewN x) fun e w'=>e=.returned (.int .i64 (trimF ds 1 N2:Nat))/\∃n,w'=((w.alloc (.cells #[.slice a1 N1 p1,.slice a2 N2 p2,.slice na nn nc] 246)).drewN x).drewN n:=fun x=>ot ds 1 N2 p2 a2 ((w.alloc (.cells #[.slice a1 N1 p1,.slice a2 N2 p2,.slice na nn nc] 246)).drewN x) h2 l2 (by omega) (i2.below (aap k0 x) b2);generalize trimF ls 257 N1=A at *;generalize trimF ds 1 N2=B at *
 go_enter Tryz.func239,Tryz.ntmps239
 go_wp2
 go_quiet ((first|(go_at_call 252;with_reducible refine (c1 _).mono ?_;rintro e w1 ⟨rfl,m,rfl⟩;exact⟨rfl,_,nk _ _ _⟩)|(go_at_call 252;with_reducible refine (c2 _).mono ?_;rintro e w1 ⟨rfl,m,rfl⟩;exact⟨rfl,_,nk _ _ _⟩)))
 go_wp2
 go_ret2
 exact⟨rfl,k0.trans (aap (aak _ _) _)⟩
theorem aR.keep {w w':World}{g:Nat}{zs:List Int}(h:aR w g zs)(k:Below w.heap.size w w'):aR w' g zs:=(k.block _ (aab h)).trans h
theorem xo {w:World}{g:Nat}{zs:List Int}(h:aR w g zs)(c cap:Nat)(hc:c<=zs.length):Src w 1 (.slice (some ⟨g,0,none⟩) c cap) c (vals (zs.take c)):=by
 refine⟨⟨_,_,rfl,(fun e=>nomatch e),fun ad e _=>?_⟩,by simp;omega,fun u hu=>?_⟩
 ·cases e;refine⟨aab h,fun j u hj=>?_⟩;rw[fX,aaF,d8 h]
  have hj':j<c:=by
   rcases aaL j (vals (zs.take c)).length with q|q
   ·simp at q;omega
   ·rw[aas q]at hj;cases hj
  rw[vals,List.map_take,abx,aaf hj']at hj;simpa using hj
 ·obtain⟨k,_,rfl⟩:=List.mem_map.1 hu;rfl
theorem xq (ls ds:List Int)(G1 G2 N1 N2:Nat)(na:Option Addr)(nn nc:Nat)(w:World)(h1:ls.length=N1)(h2:ds.length=N2)(l1:N1<=300)(l2:N2<=300)(g1:257<=N1)(g2:1<=N2)(i1:aR w G1 ls)(i2:aR w G2 ds): Calls Tryz.prog 235 #[sR (.slice (some ⟨G1,0,none⟩) N1 N1) (.slice (some ⟨G2,0,none⟩) N2 N2) (.slice na nn nc)] w fun e w'=>∃v,e=.returned v/\w'.ownsRow w.heap.size 3 1 v (trimF ls 257 N1+trimF ds 1 N2) (vals (ls.take (trimF ls 257 N1)++ds.take (trimF ds 1 N2)))/\Below w.heap.size w w':=by
 obtain⟨i0,hi,hz0,hz1,hz2⟩:=aaX Tryz.info3;have ZK:=aab i1;have ZL:=aab i2;have k0:=ag w (.cells #[.slice (some ⟨G1,0,none⟩) N1 N1,.slice (some ⟨G2,0,none⟩) N2 N2,.slice na nn nc] 246);have hcnt:=vK ls ds N1 N2 N1 N2 (some ⟨G1,0,none⟩) (some ⟨G2,0,none⟩) _ na nn nc rfl (w.alloc (.cells #[.slice (some ⟨G1,0,none⟩) N1 N1,.slice (some ⟨G2,0,none⟩) N2 N2,.slice na nn nc] 246)) h1 h2 (by omega) (by omega) (i1.ints.below k0 (fun a e _=>by cases e;exact ZK)) (i2.ints.below k0 (fun a e _=>by cases e;exact ZL)) (fun a e _=>by cases e;simp;omega) (fun a e _=>by cases e;simp;omega);have a1:=bj ls 257 N1;have a2:=bj ds 1 N2;generalize trimF ls 257 N1=A at *;generalize trimF ds 1 N2=B at *
 go_enter Tryz.func235,Tryz.ntmps235
 go_wp2_with fail;refine hcnt.mono ?_;rintro e w1 ⟨rfl,hb1⟩;have hsz1:=hb1.size;rw[aaC]at hsz1;have ol:w1.heap[w.heap.size]?=some (.cells #[.slice (some ⟨G1,0,none⟩) N1 N1,.slice (some ⟨G2,0,none⟩) N2 N2,.slice na nn nc] 246 (0,0)):=(hb1.block _ (by simp)).trans (ak w _);obtain⟨c0,c1,c2,fz,hlt⟩:=cells3 ol;have uJ:Below w.heap.size w w1:=k0.trans (hb1.mono (by simp));have j1:aR w1 G1 ls:=(uJ.block _ ZK).trans i1;have j2:aR w1 G2 ds:=(uJ.block _ ZL).trans i2;have q1:(A:Int)<=(N1:Int):=by omega
 have q2:(B:Int)<=(N2:Int):=by omega
 clear hcnt k0 hb1 i1 i2;go_wp2;have hS:w1.drew.cell? ⟨w.heap.size,0,none⟩=some (.slice (some ⟨G1,0,none⟩) N1 N1)/\w1.drew.cell? ⟨w.heap.size,1,none⟩=some (.slice (some ⟨G2,0,none⟩) N2 N2):=⟨c0,c1⟩
 refine aE (fun w'=>w'.cell? ⟨w.heap.size,0,none⟩=some (.slice (some ⟨G1,0,none⟩) N1 N1)/\w'.cell? ⟨w.heap.size,1,none⟩=some (.slice (some ⟨G2,0,none⟩) N2 N2)) 999 ?_;refine am [1,2,3,4] ?_
 iterate 4 (refine ay hS ?_;try simp only[Act.put])
 refine aj ?_;refine am [6,7,8,9] ?_
 iterate 4 (refine ay hS ?_;try simp only[Act.put])
 refine aj ?_;refine ai 0 fun K hK=>?_;go_simp;have kA:=ag w1 (.cells #[] 3);have kA':Below w1.heap.size w1 (w1.alloc (.cells #[] 3)).drew:=⟨kA.os,kA.tape,kA.output,kA.size,kA.block⟩
 have Ph:(w1.alloc (.cells #[] 3)).drew.ownsRow w.heap.size 3 1 (.slice (some ⟨w1.heap.size,0,none⟩) 0 0) 0 []:=⟨rfl,.inr ⟨w1.heap.size,0,#[],rfl,by omega,ak w1 _,aad _,by unfold maxLen;omega,rfl,rfl⟩⟩
 have hszA:(w1.alloc (.cells #[] 3)).drew.heap.size=w1.heap.size+1:=by simp
 clear kA;generalize (w1.alloc (.cells #[] 3)).drew=wA at *;have m1:=j1.keep kA';have m2:=j2.keep kA';have hbA:Below w.heap.size w wA:=uJ.trans (kA'.mono (by omega))
 have eW:∀u:World,u.heap[w.heap.size]?=wA.heap[w.heap.size]?->u.cell? ⟨w.heap.size,0,none⟩=some (.slice (some ⟨G1,0,none⟩) N1 N1)/\u.cell? ⟨w.heap.size,1,none⟩=some (.slice (some ⟨G2,0,none⟩) N2 N2):=fun u e=>by
  have e2:u.heap[w.heap.size]?=some (.cells #[.slice (some ⟨G1,0,none⟩) N1 N1,.slice (some ⟨G2,0,none⟩) N2 N2,.slice na nn nc] 246 (0,0)):=(e.trans (kA'.block _ hlt)).trans ol;obtain⟨z0,z1,_⟩:=cells3 e2;exact⟨z0,z1⟩
 refine hK _ _ (fun _=>eW _ rfl) ?_;clear hK K;obtain⟨v5,w5,VO,Gx,hg5⟩:=cj (ty:=24) Tryz.underlying24 hi hz0 hz1 hz2 rfl (by decide) Ph (xo m1 A N1 (by omega)) (by unfold maxLen;omega) (by omega) (by omega);rw[aaF,abg]at Gx;obtain⟨oa5,oc5,rfl⟩:=aD Gx;have LX:∀k,k<w1.heap.size->w5.heap[k]?=wA.heap[k]?:=fun k hk=>hg5.block k (by omega) (by simp[Value.ownBlock];omega);refine ai 5 fun K hK=>?_;rw[aaf (by kernel_rfl)];refine Lib.wp_append_run _ _ _ _ _ rfl _ _ rfl rfl _ _ VO ?_;refine hK _ _ (fun _=>eW _ (LX _ hlt)) ?_;clear hK K
 try simp only[Act.put]
 have m5:aR w5 G2 ds:=(LX _ (by have:=uJ.size;omega)).trans m2;have hs5:=hg5.size;obtain⟨v6,w6,W9,yp,ZM⟩:=cj (ty:=24) Tryz.underlying24 hi hz0 hz1 hz2 rfl (by decide) Gx (xo m5 B N2 (by omega)) (by unfold maxLen;omega) (by omega) (by omega);obtain⟨oa6,oc6,rfl⟩:=aD yp;have hb5:Below w.heap.size w w5:=bH hbA hg5 (fun k hk=>(Ph.lt k hk).1) (aad _);have hb6:Below w.heap.size w w6:=bH hb5 ZM (fun k hk=>(Gx.lt k hk).1) (aad _)
 have NK:w6.cell? ⟨w.heap.size,0,none⟩=some (.slice (some ⟨G1,0,none⟩) N1 N1)/\w6.cell? ⟨w.heap.size,1,none⟩=some (.slice (some ⟨G2,0,none⟩) N2 N2):=by
  refine eW _ ((ZM.block _ (by omega) (fun e=>?_)).trans (LX _ hlt));obtain⟨cur,qq⟩:=eU Gx _ e.symm;have e3:=(LX _ hlt).trans ((kA'.block _ hlt).trans ol);rw[e3]at qq;simp at qq
 refine ai 10 fun K hK=>?_;rw[aaf (by kernel_rfl)];refine Lib.wp_append_run _ _ _ _ _ rfl _ _ rfl rfl _ _ W9 ?_;refine hK _ _ (fun _=>NK) ?_;clear hK K
 try simp only[Act.put]
 refine ai 11 fun K hK=>?_;go_simp;refine hK _ _ (fun _=>NK) ?_;clear hK K;refine ar ?_;go_wp2
 go_ret
 refine⟨_,rfl,?_,hb6⟩;rw[vals,abo];exact yp
def hv (ws:List Int)(j:Nat):Nat:=if 0<ws.getD j 0 then 1 else 0
theorem iJ (ws:List Int):∀N,(heavy ws N).length=Rf.upTo (hv ws) N
 | 0=>rfl
 | N+1=>by
  rw[Rf.upTo,<-iJ ws N];by_cases h:0<ws.getD N 0
  ·rw[pY ws N h,aac,hv,aaf h];rfl
  ·rw[zr ws N h,hv,aae h];rfl
theorem Ff (ws:List Int)(N k:Nat)(hN:ws.length=N)(hk:k<N)(h0:ws.getD k 0=0):(heavy (ws.set k 1) N).length=(heavy ws N).length+1:=by
 have hg:∀j,(ws.set k 1).getD j 0=if j=k then 1 else ws.getD j 0:=fun j=>by
  by_cases e:j=k
  ·subst e;rw[aaf rfl,aaa,List.getElem?_set_self (by omega)];rfl
  ·rw[aae e,aaa,aca (Ne.symm e),<-aaa]
 rw[iJ,iJ,Rf.pV (hv (ws.set k 1)) k N hk,Rf.og (g:=fun j=>if j=k then 0 else hv (ws.set k 1) j) (g':=hv ws) N (fun j _=>?_)]
 ·have:hv (ws.set k 1) k=1:=by unfold hv;rw[hg,aaf rfl,aaf (by decide)]
  omega
 ·by_cases e:j=k
  ·simp only[e,if_true];unfold hv;rw[h0];rfl
  ·simp only[e,acA];unfold hv;rw[hg,aae e]
theorem sS (ws:List Int):∀(N k:Nat),k<=N->(∀j,j<k->0<ws.getD j 0)->k<=(heavy ws N).length
 | 0,k,h,_=>by omega
 | N+1,k,h,hp=>by
  by_cases e:k=N+1
  ·have:=sS ws N N (aad _) (fun j hj=>hp j (by omega));rw[pY ws N (hp N (by omega)),aac,abb];omega
  ·have:=sS ws N k (by omega) hp
   have h2:(heavy ws N).length<=(heavy ws (N+1)).length:=by
    rw[iJ,iJ,Rf.upTo];omega
   omega
structure me (ws NL:List Int) (N:Nat):Prop where
 len:NL.length=N
 uH:∀j,0<=NL.getD j 0/\NL.getD j 0<=1000000
 keep:∀j,0<ws.getD j 0->0<NL.getD j 0
theorem ou (ws:List Int)(N cap G:Nat)(w:World)(hN:ws.length=N)(LH:N<=320)(WQ:2<=N)(h:aR w G ws)(hw:∀j,0<=ws.getD j 0/\ws.getD j 0<=1000000): Calls Tryz.prog 233 #[.slice (some ⟨G,0,none⟩) N cap] w fun e w'=>∃NL,e=.returned (.slice (some ⟨w.heap.size,0,none⟩) N N)/\aR w' w.heap.size NL/\me ws NL N/\2<=(heavy NL N).length/\Below w.heap.size w w':=by
 obtain⟨Z,hZ⟩:∃Z:List Value,Z=List.replicate N (.int .i64 0):=⟨_,rfl⟩
 have hmk:∀u:World,(Instr.makeSlice 24 (.int .i64 N) (.int .i64 N)).run Tryz.prog u=.ok (.slice (some ⟨u.heap.size,0,none⟩) N N) (u.alloc (.cells Z.toArray 3)):=fun u=>iE N LH Z hZ u;have SR:Z.length=N:=by rw[hZ];simp
 clear hZ;have k0:=ag w (.cells Z.toArray 3);have hlt:=aab h
 have hcp:∃w2,(Builtin.copy_ #[24,24] 3 #[.slice (some ⟨w.heap.size,0,none⟩) N N,.slice (some ⟨G,0,none⟩) N cap]).run Tryz.prog (w.alloc (.cells Z.toArray 3))=.ok (goInt N) w2/\aR w2 w.heap.size ws/\Below w.heap.size w w2:=by
  have hc:=run_copy_row (P:=Tryz.prog) (w.alloc (.cells Z.toArray 3)) 24 24 3 3 w.heap.size 0 N N ⟨G,0,none⟩ N cap Z.toArray 3 (vals ws) Tryz.underlying24 (by kernel_rfl) (ak w _) (by simp[hN]) (fun j v hj=>by
   rw[fX,aaF,d8 ((k0.block _ hlt).trans h)]
   simpa using hj) (by simp[SR,hN]) (fun v hv=>by
    obtain⟨k,_,rfl⟩:=List.mem_map.1 hv
    rfl)
  refine⟨_,by rw[show (vals ws).length=N by simp[hN]]at hc;exact hc,?_,?_⟩
  ·have hrow:∀R:Array Value,R=(vals ws).toArray->((w.alloc (.cells Z.toArray 3)).setRow w.heap.size R).heap[w.heap.size]?=some (.cells (vals ws).toArray 3 (0,0)):=fun R e=>by rw[e];exact setRow_heap _ _ _ _ _ _ (ak w _)
   refine hrow _ ?_;simp[SR]
  ·exact below_setRow k0 (aad _) _
 obtain⟨w2,hcp,hL2,hb2⟩:=hcp;have hs2:=hb2.size;have Iz:=qK ws N N (some ⟨w.heap.size,0,none⟩) w2 hN LH hL2.ints (fun a e _=>by cases e;exact aab hL2) 1000000 hw
 go_enter Tryz.func233,Tryz.ntmps233
 go_wp2_with fail;refine Iz.mono ?_;rintro e w3 ⟨v,S,X,rfl,hS1,_,uI,hX,hb3⟩;obtain⟨sa,sc,rfl⟩:=hS1.slice
 have WY:S.length=(heavy ws N).length:=by
  have a:=abq List.length uI.ns;rw[abE,abE]at a;rw[a,hX.length_eq]
 have hle:=sO ws N;have HSL:Hid (S.length=(heavy ws N).length):=WY;have hSb:S.length<=320:=by omega
 have hL3:aR w3 w.heap.size ws:=hL2.keep hb3;have ST:Below w.heap.size w w3:=hb2.trans (hb3.mono hs2);have ZN:Hid (aR w3 w.heap.size ws):=hL3;clear hS1 uI hX hb3 hL2 hL3 hb2 Iz hcp hmk h k0 WY;go_wp2
 go_loopw [4,5] (fun cv kv wr=>∃(c k:Nat) (cur:List Int),cv=.int .i64 c/\kv=.int .i64 k/\c<=321/\k<=N/\Hid (aR wr w.heap.size cur)/\Hid (me ws cur N)/\Hid (c=(heavy cur N).length)/\Hid (∀j,j<k->0<cur.getD j 0)/\Below w.heap.size w wr) (fun _ kv _=>N-(intOf kv).toNat)
 case atStart=>exact⟨S.length,0,ws,rfl,rfl,by omega,aaj _,ZN,⟨hN,hw,fun j hj=>hj⟩,HSL.out,fun j hj=>by omega,ST⟩
 case round =>
  clear ZN ST;obtain⟨c,k,cur,rfl,rfl,hc3,hkN,HL,HT,HC,HK,hb⟩:=hrel;by_cases hc2:c<2
  ·have hkc:k<=c:=by rw[HC.out];exact sS cur N k hkN HK.out
   have hk:k<N:=by omega
   have hcl:=HT.out.len;have hcell:=HL.out.at_ k (by omega);have hfz:∀o,wr.frozen? ⟨w.heap.size,o,none⟩=false:=fun o=>aaE wr _ o _ _ HL.out;have hltW:=aab HL.out;have hpos:=HT.out.uH k;have hc2':(c:Int)<2:=by omega
   have hkI:(k:Int)<(N:Int):=by omega
   by_cases h0:cur.getD k 0=0
   ·have HH:Hid (aR (wr.setCell ⟨w.heap.size,k,none⟩ (.int .i64 1)) w.heap.size (cur.set k 1)/\me ws (cur.set k 1) N/\c+1=(heavy (cur.set k 1) N).length/\(∀j,j<k+1->0<(cur.set k 1).getD j 0)/\Below w.heap.size w (wr.setCell ⟨w.heap.size,k,none⟩ (.int .i64 1))):=by
     have hg:∀j,(cur.set k 1).getD j 0=if j=k then 1 else cur.getD j 0:=fun j=>by
      by_cases e:j=k
      ·subst e;rw[aaf rfl,aaa,List.getElem?_set_self (by omega)];rfl
      ·rw[aae e,aaa,aca (Ne.symm e),<-aaa]
     refine⟨HL.out.set k 1,⟨by rw[aaZ];exact hcl,fun j=>?_,fun j hj=>?_⟩,?_,fun j hj=>?_,hb.setCell (aad _) _⟩
     ·rw[hg];split
      ·omega
      ·exact HT.out.uH j
     ·rw[hg];split
      ·decide
      ·exact HT.out.keep j hj
     ·rw[Ff cur N k hcl hk h0,HC.out]
     ·rw[hg];split
      ·decide
      ·exact HK.out j (by omega)
    rw[h0]at hcell;clear h0 HL HT HC HK hb hpos hcl;go_wp2
    go_roundw
    case rel=>exact⟨c+1,k+1,_,by go_num,by go_num,by omega,by omega,HH.out.1,HH.out.2.1,HH.out.2.2.1,HH.out.2.2.2.1,HH.out.2.2.2.2⟩
    case measure=>simp[intOf];omega
   ·have KL:Hid (∀j,j<k+1->0<cur.getD j 0):=fun j hj=>by
     by_cases e:j=k
     ·rw[e];omega
     ·exact HK.out j (by omega)
    generalize cur.getD k 0=y at *;have h0':(y==0)=false:=by simp[h0]
    clear HK hcl;go_wp2
    go_roundw
    case rel=>exact⟨c,k+1,cur,rfl,by go_num,hc3,by omega,HL,HT,HC,KL,hb⟩
    case measure=>simp[intOf];omega
  ·have hc2':¬(c:Int)<2:=by omega
   go_wp2
   go_ret
   exact⟨rfl,cur,HL.out,HT.out,by have:=HC.out;omega,hb⟩
end Go.Proofs.YtmfijackgekioaaGreatDoor
