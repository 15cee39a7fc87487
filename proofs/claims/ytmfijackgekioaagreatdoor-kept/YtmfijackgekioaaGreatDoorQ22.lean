import Derived.Test.YtmfijackgekioaaGreatDoorQ07
import Derived.Test.YtmfijackgekioaaGreatDoorQ21
set_option maxHeartbeats 4000000
set_option maxRecDepth 100000
namespace Go.Proofs.YtmfijackgekioaaGreatDoor
open Go.RowKit
def cP (nl:List Int)(k:Nat):List Int:=(List.range k).map (fun i=>nl.getD (Rf.order.getD i 0) 0)
theorem xN (nl:List Int)(k:Nat):(cP nl k).length=k:=by simp[cP]
theorem CI (nl:List Int)(k:Nat):cP nl (k+1)=cP nl k++[nl.getD (Rf.order.getD k 0) 0]:=by simp[cP,List.range_succ]
theorem CJ (nl:List Int)(k i:Nat)(h:i<k):(cP nl k).getD i 0=nl.getD (Rf.order.getD i 0) 0:=by
 unfold cP;rw[List.getD_eq_getElem?_getD,List.getElem?_map,List.getElem?_range h];rfl
theorem Gq (O:Array Value)(k:Nat)(hk:k<19)(v:Int)(h:O[k]?=some (.int .i64 v))(u:World):(Instr.index 233 (.agg O) (.int .i64 (k:Int))).run Tryz.prog u=.ok (.int .i64 v) u:=by
 obtain⟨i0,hi,hz0,hz1,hz2⟩:=info_parts Tryz.info3;have h1:(0:Int)<=(k:Int)/\(k:Int)<19:=by omega
 simp[Instr.index,run_underlying Tryz.underlying233,asIntOf,h1,sizeOf,typeInfo,hi,hz1,go_sem,h,hk]
theorem JU {w:World}{base n cap:Nat}{oa:Option Addr}{zs:List Int}(h:w.ownsRow base 3 1 (.slice oa n cap) n (vals zs)):Ints w oa zs:=by
 intro j hj;rcases h.2 with⟨e,e2⟩|⟨g,cap',cur,e,hb,hg,hnc,hcm,hcs,htake⟩
 ·have:=h.1;rw[e2]at this;simp[vals]at this;rw[this]at hj;simp at hj
 ·simp only[Value.slice.injEq,true_and]at e;obtain⟨rfl,rfl⟩:=e;refine⟨g,0,rfl,?_⟩;have:=h.cells (g:=g) rfl j (.int .i64 zs[j]) (by rw[List.getElem?_map,List.getElem?_eq_getElem hj];rfl);rw[eU]at this;exact this
theorem mT (nl:List Int)(G3:Nat)(sa da:Option Addr)(sn sc dn dc:Nat)(w:World)(h19:nl.length=19)(h:aP w G3 nl): Calls Tryz.prog 237 #[tJ (.slice sa sn sc) (.slice da dn dc) (.slice (some ⟨G3,0,none⟩) 19 19)] w fun e w'=>e=.returned (.int .i64 (trimF (cP nl 19) 4 19:Nat))/\Below w.heap.size w w':=by
 obtain⟨i0,hi,hz0,hz1,hz2⟩:=info_parts Tryz.info3;obtain⟨Z,hZ⟩:∃Z:List Value,Z=List.replicate 19 (.int .i64 0):=⟨_,rfl⟩
 have hmk:∀u:World,(Instr.makeSlice 24 (.int .i64 0) (.int .i64 19)).run Tryz.prog u=.ok (.slice (some ⟨u.heap.size,0,none⟩) 0 19) (u.alloc (.cells Z.toArray 3)):=fun u=>zn 19 (by omega) Z hZ u;have Yz:Z.length=19:=by rw[hZ];simp
 clear hZ;have hlt:=lt_of_block h;have kT:=ae w (.cells #[.slice sa sn sc,.slice da dn dc,.slice (some ⟨G3,0,none⟩) 19 19] 246)
 go_enter Tryz.func237,Tryz.ntmps237
 go_wp2_with fail;have hsz2:((w.alloc (.cells #[.slice sa sn sc,.slice da dn dc,.slice (some ⟨G3,0,none⟩) 19 19] 246)).alloc (.cells Z.toArray 3)).heap.size=w.heap.size+1+1:=by simp
 have hb2:Below w.heap.size w ((w.alloc (.cells #[.slice sa sn sc,.slice da dn dc,.slice (some ⟨G3,0,none⟩) 19 19] 246)).alloc (.cells Z.toArray 3)):=kT.alloc (by simp) _;have oD:((w.alloc (.cells #[.slice sa sn sc,.slice da dn dc,.slice (some ⟨G3,0,none⟩) 19 19] 246)).alloc (.cells Z.toArray 3)).heap[w.heap.size]?=some (.cells #[.slice sa sn sc,.slice da dn dc,.slice (some ⟨G3,0,none⟩) 19 19] 246 (0,0)):=am (ah w _) _
 have hown:((w.alloc (.cells #[.slice sa sn sc,.slice da dn dc,.slice (some ⟨G3,0,none⟩) 19 19] 246)).alloc (.cells Z.toArray 3)).ownsRow (w.heap.size+1) 3 1 (.slice (some ⟨w.heap.size+1,0,none⟩) 0 19) 0 [] :=
  ⟨rfl,.inr ⟨w.heap.size+1,19,Z.toArray,rfl,Nat.le_refl _,tB (by simp),by omega,by unfold maxLen;omega,by simp[Yz],by simp⟩⟩
 refine (sj _).mono ?_;rintro e w1 ⟨O,rfl,Pc,hO2,_,hb1⟩;rw[hsz2]at hb1;have vg:Below w.heap.size w w1:=hb2.trans (hb1.mono (by omega));have hs1:=hb1.size;rw[hsz2]at hs1;have Gr:Hid (w1.heap[w.heap.size]?=some (.cells #[.slice sa sn sc,.slice da dn dc,.slice (some ⟨G3,0,none⟩) 19 19] 246 (0,0))):=(hb1.block _ (by omega)).trans oD;have CK:Hid (w1.ownsRow (w.heap.size+1) 3 1 (.slice (some ⟨w.heap.size+1,0,none⟩) 0 19) 0 (vals (cP nl 0))):=aI hown (fun g hg=>hb1.block g (by simp[Value.ownBlock]at hg;omega));have HL:Hid (aP w G3 nl):=h;clear oD hown hb1 kT hb2 hmk h;go_wp2
 go_loopw [3,11] (fun ov iv wr=>∃(k:Nat) (oa:Option Addr) (oc:Nat),k<=19/\iv=.int .i64 k/\ov=.slice oa k oc/\Hid (wr.ownsRow (w.heap.size+1) 3 1 (.slice oa k oc) k (vals (cP nl k)))/\Hid (wr.heap[w.heap.size]?=some (.cells #[.slice sa sn sc,.slice da dn dc,.slice (some ⟨G3,0,none⟩) 19 19] 246 (0,0)))/\Below w.heap.size w wr/\w.heap.size+1<=wr.heap.size) (fun _ iv _=>19-(intOf iv).toNat)
 case atStart=>exact⟨0,_,_,Nat.zero_le _,rfl,rfl,CK,Gr,vg,by omega⟩
 case round =>
  clear CK Gr vg hs1;obtain⟨k,oa,oc,hk,rfl,rfl,CK,Gr,hb,hsz⟩:=hrel;by_cases Vy:k<19
  ·have hok:∀u:World,(Instr.index 233 (.agg O) (.int .i64 (k:Int))).run Tryz.prog u=.ok (.int .i64 (Rf.order.getD k 0:Nat)) u:=fun u=>Gq O k Vy _ (hO2 k Vy) u;have hol:=Rf.o8 k;obtain⟨c0,c1,c2,fz,Mr⟩:=cells3 Gr.out;have hLr:aP wr G3 nl:=(hb.block _ hlt).trans HL.out;have hcell:=hLr.at_ (Rf.order.getD k 0) (by omega);have HS:Hid (cP nl (k+1)=cP nl k++[nl.getD (Rf.order.getD k 0) 0]):=CI nl k;generalize nl.getD (Rf.order.getD k 0) 0=y at *;generalize Rf.order.getD k 0=q at *;have hq:(q:Int)<19:=by omega
   have kA:=ae wr (.cells #[.int .i64 y] 3);have RA:(wr.alloc (.cells #[.int .i64 y] 3)).ownsRow (w.heap.size+1) 3 1 (.slice oa k oc) k (vals (cP nl k)):=CK.out.alloc _
   have hsA:Src (wr.alloc (.cells #[.int .i64 y] 3)) 1 (.slice (some ⟨wr.heap.size,0,none⟩) 1 1) 1 (vals [y]):=by
    have:=xK (w:=wr.alloc (.cells #[.int .i64 y] 3)) (g:=wr.heap.size) (zs:=[y]) (ah wr _) 1 1 (by simp);simpa using this
   obtain⟨v',w',hr,ho',hg'⟩:=cD (ty:=24) Tryz.underlying24 hi hz0 hz1 hz2 rfl (by decide) RA hsA (by unfold maxLen;omega) (by omega) (by simp;omega);obtain⟨vT,qm,rfl⟩:=aQ ho';have hb':Below w.heap.size w w':=bV (hb.trans (kA.mono hb.size)) hg' (fun j hj=>by have:=(RA.lt j hj).1;omega) (Nat.le_refl _)
   have HO':Hid (w'.ownsRow (w.heap.size+1) 3 1 (.slice vT (k+1) qm) (k+1) (vals (cP nl (k+1)))):=by
    show w'.ownsRow _ _ _ _ _ _;rw[HS.out,vals,List.map_append];exact ho'
   have HB':Hid (w'.heap[w.heap.size]?=some (.cells #[.slice sa sn sc,.slice da dn dc,.slice (some ⟨G3,0,none⟩) 19 19] 246 (0,0))):=by
    refine ((hg'.block _ (by simp;omega) (fun e=>?_)).trans (Below.heap_alloc _ _ _ Mr)).trans Gr.out;have:=(RA.lt _ e.symm).1;omega
   have hsz':w.heap.size+1<=w'.heap.size:=by have:=hg'.size;simp at this;omega
   have hkI:(k:Int)<19:=by omega
   clear hsA RA ho' hg' kA CK Gr hLr HS hO2;go_wp2_with (at_builtin;refine Lib.wpList_append_run _ rfl _ _ _ _ rfl _ _ rfl rfl _ _ hr ?_)
   go_roundw
   case rel=>exact⟨k+1,vT,qm,by omega,by go_num,rfl,HO',HB',hb',hsz'⟩
   case measure=>simp[intOf];omega
  ·have e:k=19:=by omega
   subst e;obtain⟨g,qm,hform,hgb⟩:=CK.out.form (by omega);simp only[Value.slice.injEq,true_and]at hform;obtain⟨rfl,rfl⟩:=hform;have hint:=JU CK.out;have htr:=oH (cP nl 19) 4 19 oc (some ⟨g,0,none⟩) wr (xN nl 19) (by omega) (by omega) hint;go_wp2_with fail;refine htr.mono ?_;rintro e w2 ⟨rfl,m,rfl⟩;go_wp2
   go_ret
   exact⟨rfl,below_drewN hb m⟩
def Told (w:World)(B:Nat)(ao:Option Addr)(l:List Nat):Prop :=
 l≠[]->∃g cs fr,ao=some ⟨g,0,none⟩/\g≠B/\w.heap[g]?=some (.cells cs 3 fr)/\∀j,j<l.length->cs[j]?=some (.int .i64 (l.getD j 0:Nat))
theorem Told.ints {w:World}{B:Nat}{ao:Option Addr}{l:List Nat}(h:Told w B ao l):Ints w ao (mQ l):=by
 intro j hj;have hj':j<l.length:=by simpa using hj
 obtain⟨g,cs,fr,e,_,hg,hc⟩:=h (ne_of_lt hj');refine⟨g,0,e,?_⟩;have e2:w.cell? ⟨g,0+j,none⟩=cs[j]?:=by rw[Nat.zero_add];simp[World.cell?,hg]
 rw[e2,hc j hj',List.getElem_map,List.getD_eq_getElem?_getD,List.getElem?_eq_getElem hj'];rfl
theorem Told.fr {w w':World}{B:Nat}{ao:Option Addr}{l:List Nat}(h:Told w B ao l)(k:Fr B w w'):Told w' B ao l:=fun hn=>by
 obtain⟨g,cs,fr,e,h1,h2,h3⟩:=h hn;exact⟨g,cs,fr,e,h1,(k.kept h1 h2 (by decide)).trans h2,h3⟩
theorem Told.below {w w':World}{B:Nat}{ao:Option Addr}{l:List Nat}(h:Told w B ao l)(k:Below w.heap.size w w'):Told w' B ao l:=fun hn=>by
 obtain⟨g,cs,fr,e,h1,h2,h3⟩:=h hn;exact⟨g,cs,fr,e,h1,(k.block _ (lt_of_block h2)).trans h2,h3⟩
theorem jO (tb:Nat->List Int):∀(ts:List (Nat×Nat)) (t:Nat×Nat),Rf.aS tb (ts++[t])=Rf.aS tb ts++(tb t.1++Rf.nb t.2 (Rf.mr t))
 | [],t=>by simp[Rf.aS]
 | s::r,t=>by
  rw[List.cons_append,Rf.aS,Rf.aS,jO tb r t];simp[List.append_assoc]
structure Vz (B:Nat) (W nl:List Int) (fv:Value) (ao:Option Addr) (l:List Nat) (w0 w:World) (ts:List (Nat×Nat)):Prop where
 wr:aB w B (W++Rf.aS (Rf.bd nl) ts)
 cw:fm w fv B nl 0
 fr:Fr B w0 w
 told:Told w B ao l
 len:(Rf.aS (Rf.bd nl) ts).length<=22*ts.length
theorem xO (B:Nat)(W nl:List Int)(fv:Value)(ao:Option Addr)(cap:Nat)(l:List Nat)(w:World)(hW:W.length<=100000000)(h19:nl.length=19)(hw:aB w B W)(hc:fm w fv B nl 0)(ht:Told w B ao l)(hl:∀x∈l,x<=15)(h6:l.length<=600): Calls Tryz.prog 234 #[.slice ao l.length cap,fv] w fun e w'=>e=.returned (.tuple #[])/\aB w' B (W++Rf.aS (Rf.bd nl) (E l))/\Fr B w w':=by
 obtain⟨WB,Lb,C,e1,_⟩:=hc.val;have h0:Vz B W nl fv ao l w w []:=⟨by simpa[Rf.aS]using hw,hc,Fr.refl _ _,ht,by simp[Rf.aS]⟩
 have hB:=hw.lt
 have hd:xJ 243 #[.pointer (some ⟨WB,0,none⟩),.pointer (some ⟨Lb,0,none⟩)] ao l (Vz B W nl fv ao l w):=by
  refine⟨?_,xG,?_,fun u ts h=>h.told.ints⟩
  ·intro u ts t h hts h18 hx;obtain⟨WB',Lb',C',e,b1,b2,n1,_⟩:=h.cw.val;rw[e1]at e;simp at e;obtain⟨rfl,rfl⟩:=e;have hlen:=h.len;have htk:=CF t;refine (tv t.1 t.2 (Rf.mr t) WB Lb C' nl B (W++Rf.aS (Rf.bd nl) ts) u b1 b2 n1 h.cw.Pq h.wr (by omega) (by omega) (by rw[List.length_append];omega)).mono ?_;rintro e u' ⟨rfl,hw',hf'⟩;refine⟨rfl,⟨?_,h.cw.fr hf',h.fr.trans hf',h.told.fr hf',?_⟩⟩
   ·rw[jO,<-List.append_assoc,<-fC];exact hw'
   ·rw[jO,List.length_append,List.length_append,List.length_append,Rf.cu,Rf.aC,List.length_singleton];have:=(h.cw.Pq t.1).2;omega
  ·intro u ts n h;have hb:Below u.heap.size u (u.drewN n):=below_drewN (Below.refl _ _) n;exact⟨h.wr.drewN n,h.cw.below hb,h.fr.drewN n,h.told.below hb,h.len⟩
 rw[e1];refine (jN 243 _ ao cap l _ hd w h0 hl h6).mono ?_;rintro e u ⟨rfl,h⟩;exact⟨rfl,h.wr,h.fr⟩
def dg (nl:List Int)(ts:List (Nat×Nat)):Int:=(ts.map (fun t=>nl.getD t.1 0+(Rf.mr t:Nat))).sum
theorem Ad (nl:List Int)(ts:List (Nat×Nat))(t:Nat×Nat):dg nl (ts++[t])=dg nl ts+(nl.getD t.1 0+(Rf.mr t:Nat)):=by simp[dg]
theorem pE (nl:List Int)(h:∀j,0<=nl.getD j 0):∀ts,((Rf.aS (Rf.bd nl) ts).length:Int)=dg nl ts
 | []=>by simp[Rf.aS,dg]
 | t::r=>by
  have ih:=pE nl h r;rw[Rf.aS];simp only[List.length_append,Rf.cu,Rf.aC];have:dg nl (t::r)=(nl.getD t.1 0+(Rf.mr t:Nat))+dg nl r:=by simp[dg]
  rw[this,<-ih];have:=h t.1;omega
theorem pF (nl:List Int):∀(f s:Nat),Rf.cL nl s (f+1)=Rf.cL nl s f++Rf.nb (nl.getD (Rf.order.getD (s+f) 0) 0).toNat 3
 | 0,s=>by simp[Rf.cL]
 | f+1,s=>by
  rw[Rf.cL,pF nl f (s+1)]
  conv=>rhs;rw[Rf.cL]
  rw[List.append_assoc,show s+1+f=s+(f+1) by omega]
def cI (ls ds:List Int)(N1 N2:Nat):List Nat:=(ls.take (trimF ls 257 N1)++ds.take (trimF ds 1 N2)).map Int.toNat
theorem kW (ls ds:List Int)(N1 N2:Nat)(h1:∀j,0<=ls.getD j 0)(h2:∀j,0<=ds.getD j 0):mQ (cI ls ds N1 N2)=ls.take (trimF ls 257 N1)++ds.take (trimF ds 1 N2):=by
 unfold cI mQ;rw[List.map_map]
 have:∀x∈ls.take (trimF ls 257 N1)++ds.take (trimF ds 1 N2),((fun (x:Nat)=>(x:Int))∘Int.toNat) x=id x:=fun x hx=>by
  have h0:0<=x:=by
   rcases List.mem_append.1 hx with q|q
   ·obtain⟨j,hj,rfl⟩:=List.getElem_of_mem (List.mem_of_mem_take q);have:=h1 j
    rwa [List.getD_eq_getElem?_getD,List.getElem?_eq_getElem hj]at this
   ·obtain⟨j,hj,rfl⟩:=List.getElem_of_mem (List.mem_of_mem_take q);have:=h2 j
    rwa [List.getD_eq_getElem?_getD,List.getElem?_eq_getElem hj]at this
  simp only[Function.comp,id];omega
 rw[List.map_congr_left this,List.map_id]
theorem iM (ls ds:List Int)(N1 N2:Nat)(h1:ls.length=N1)(h2:ds.length=N2):(cI ls ds N1 N2).length=trimF ls 257 N1+trimF ds 1 N2:=by
 have a:=bE ls 257 N1;have b:=bE ds 1 N2;simp[cI];omega
theorem mU (ls ds:List Int)(N1 N2:Nat)(h1:∀j,ls.getD j 0<=15)(h2:∀j,ds.getD j 0<=15):∀x∈cI ls ds N1 N2,x<=15:=by
 intro x hx;obtain⟨y,hy,rfl⟩:=List.mem_map.1 hx
 have:y<=15:=by
  rcases List.mem_append.1 hy with q|q
  ·obtain⟨j,hj,rfl⟩:=List.getElem_of_mem (List.mem_of_mem_take q);have:=h1 j
   rwa [List.getD_eq_getElem?_getD,List.getElem?_eq_getElem hj]at this
  ·obtain⟨j,hj,rfl⟩:=List.getElem_of_mem (List.mem_of_mem_take q);have:=h2 j
   rwa [List.getD_eq_getElem?_getD,List.getElem?_eq_getElem hj]at this
 omega
theorem tL {w:World}{base B n:Nat}{v:Value}{l:List Nat}(h:w.ownsRow base 3 1 v n (vals (mQ l)))(hl:l.length=n)(hB:B<base):∃ao cap,v=.slice ao n cap/\Told w B ao l:=by
 rcases h.2 with⟨rfl,h0⟩|⟨g,cap,cur,rfl,hb,hg,hnc,hcm,hcs,htake⟩
 ·exact⟨_,_,by rw[h0],fun hn=>absurd (List.eq_nil_of_length_eq_zero (by omega)) hn⟩
 ·refine⟨_,_,rfl,fun _=>⟨g,cur,(0,0),rfl,by omega,hg,fun j hj=>?_⟩⟩
  have q:(cur.toList.take (n*1))[j]?=some (.int .i64 (l.getD j 0:Nat)):=by
   rw[htake,vals,mQ,List.getElem?_map,List.getElem?_map,List.getElem?_eq_getElem hj,List.getD_eq_getElem?_getD,List.getElem?_eq_getElem hj];rfl
  rw[List.getElem?_take,if_pos (by omega)]at q;rw[<-Array.getElem?_toList];exact q
structure jd (w:World) (G1 G2 G3 N1 N2:Nat) (ls ds nl:List Int):Prop where
 s:aP w G1 ls
 d:aP w G2 ds
 n:aP w G3 nl
 l1:ls.length=N1
 l2:ds.length=N2
 l3:nl.length=19
 g1:257<=N1/\N1<=286
 g2:1<=N2/\N2<=30
 r1:∀j,0<=ls.getD j 0/\ls.getD j 0<=15
 r2:∀j,0<=ds.getD j 0/\ds.getD j 0<=15
 r3:∀j,0<=nl.getD j 0/\nl.getD j 0<=7
 full:Rf.fs nl nl.length<=32768
theorem jd.below {w w':World}{G1 G2 G3 N1 N2:Nat}{ls ds nl:List Int}(h:jd w G1 G2 G3 N1 N2 ls ds nl)(k:Below w.heap.size w w'):jd w' G1 G2 G3 N1 N2 ls ds nl :=
 ⟨h.s.keep k,h.d.keep k,h.n.keep k,h.l1,h.l2,h.l3,h.g1,h.g2,h.r1,h.r2,h.r3,h.full⟩
theorem jd.fr {w w':World}{B G1 G2 G3 N1 N2:Nat}{ls ds nl:List Int}(h:jd w G1 G2 G3 N1 N2 ls ds nl)(k:Fr B w w')(hB:w.heap[B]?≠none->∃cs,w.heap[B]?=some (.cells cs 181 (0,0))):jd w' G1 G2 G3 N1 N2 ls ds nl:=by
 have key:∀g zs,aP w g zs->aP w' g zs:=fun g zs hz=>by
  have hne:g≠B:=fun e=>by
   subst e;obtain⟨cs,hcs⟩:=hB (by rw[show w.heap[g]?=_ from hz];simp);rw[show w.heap[g]?=_ from hz]at hcs;simp at hcs
  exact (k.kept hne hz (by decide)).trans hz
 exact⟨key _ _ h.s,key _ _ h.d,key _ _ h.n,h.l1,h.l2,h.l3,h.g1,h.g2,h.r1,h.r2,h.r3,h.full⟩
theorem aB.box {w:World}{B:Nat}{W:List Int}(h:aB w B W):w.heap[B]?≠none->∃cs,w.heap[B]?=some (.cells cs 181 (0,0)):=fun _=>by
 obtain⟨pv,P,h⟩:=h;exact⟨_,h.blk⟩
theorem je {B:Nat}{w w':World}(hB:B<w.heap.size)(k:Below w.heap.size w w'):Fr B w w':=⟨k.mono (Nat.le_of_lt hB),fun j _ hj _=>k.block j hj⟩
theorem JV (G1 G2 G3 N1 N2 B:Nat)(ls ds nl W:List Int)(w:World)(h:jd w G1 G2 G3 N1 N2 ls ds nl)(hw:aB w B W)(hW:W.length<=90000000): Calls Tryz.prog 220 #[tJ (.slice (some ⟨G1,0,none⟩) N1 N1) (.slice (some ⟨G2,0,none⟩) N2 N2) (.slice (some ⟨G3,0,none⟩) 19 19),.pointer (some ⟨B,0,none⟩)] w fun e w' =>
   e=.returned (.tuple #[])/\aB w' B (W++Rf.dX (trimF ls 257 N1-257) (trimF ds 1 N2-1) (trimF (cP nl 19) 4 19) nl (E (cI ls ds N1 N2)))/\Fr B w w':=by
 have hB:=hw.lt;have kT:=ae w (.cells #[.slice (some ⟨G1,0,none⟩) N1 N1,.slice (some ⟨G2,0,none⟩) N2 N2,.slice (some ⟨G3,0,none⟩) 19 19] 246);have a1:=bE ls 257 N1;have a2:=ik ls 257 N1 h.g1.1;have b1:=bE ds 1 N2;have b2:=ik ds 1 N2 h.g2.1;have c1:=bE (cP nl 19) 4 19;have c2:=ik (cP nl 19) 4 19 (by omega);have gg1:=h.g1.2;have gg2:=h.g2.2;have hcnt:=wh ls ds N1 N2 N1 N2 (some ⟨G1,0,none⟩) (some ⟨G2,0,none⟩) _ (some ⟨G3,0,none⟩) 19 19 rfl (w.alloc (.cells #[.slice (some ⟨G1,0,none⟩) N1 N1,.slice (some ⟨G2,0,none⟩) N2 N2,.slice (some ⟨G3,0,none⟩) 19 19] 246)) h.l1 h.l2 (by omega) (by omega) (h.below kT).s.ints (h.below kT).d.ints (fun a e _=>by cases e;exact lt_of_block (h.below kT).s) (fun a e _=>by cases e;exact lt_of_block (h.below kT).d);have HA:Hid (∃X,X=trimF ls 257 N1):=⟨_,rfl⟩
 have hfin:∀X Y Z:Nat,X=trimF ls 257 N1->Y=trimF ds 1 N2->Z=trimF (cP nl 19) 4 19->W++Rf.dX (trimF ls 257 N1-257) (trimF ds 1 N2-1) (trimF (cP nl 19) 4 19) nl (E (cI ls ds N1 N2))=((((W++Rf.nb (X-257) 5)++Rf.nb (Y-1) 5)++Rf.nb (Z-4) 4)++Rf.cL nl 0 Z)++Rf.aS (Rf.bd nl) (E (cI ls ds N1 N2)):=fun X Y Z e1 e2 e3=>by
  subst e1 e2 e3;simp only[Rf.dX,List.append_assoc]
 have hcn:=fun (u:World) (hu:Below w.heap.size w u)=>mT nl G3 (some ⟨G1,0,none⟩) (some ⟨G2,0,none⟩) N1 N1 N2 N2 u h.l3 ((hu.block _ (lt_of_block h.n)).trans h.n);have fc:Hid (∀X Y Z:Nat,_):=hfin;have JW:Hid (jd w G1 G2 G3 N1 N2 ls ds nl):=h;generalize hX:trimF ls 257 N1=X at *;generalize hY:trimF ds 1 N2=Y at *;generalize hZ:trimF (cP nl 19) 4 19=Z at *;have VA:Hid (trimF ls 257 N1=X/\trimF ds 1 N2=Y/\trimF (cP nl 19) 4 19=Z):=⟨hX,hY,hZ⟩
 clear hfin HA hX hY hZ h
 go_enter Tryz.func220,Tryz.ntmps220
 go_wp2_with fail;refine hcnt.mono ?_;rintro e w1 ⟨rfl,hb1⟩;have Nv:Below w.heap.size w w1:=kT.trans (hb1.mono (by simp));have oD:w1.heap[w.heap.size]?=some (.cells #[.slice (some ⟨G1,0,none⟩) N1 N1,.slice (some ⟨G2,0,none⟩) N2 N2,.slice (some ⟨G3,0,none⟩) 19 19] 246 (0,0)):=(hb1.block _ (by simp)).trans (ah w _);obtain⟨x0,x1,x2,fz,hlt1⟩:=cells3 oD;clear hcnt hb1 kT;go_wp2_with fail;refine (hcn w1 Nv).mono ?_;rintro e w2 ⟨rfl,hb2⟩;have hbw2:Below w.heap.size w w2:=Nv.trans (hb2.mono Nv.size);have tM:=(hb2.block _ hlt1).trans oD;clear x0 x1 x2 fz hcn oD;have hw2:aB w2 B W:=hw.below hbw2;have eX:(X:Int)-257=((X-257:Nat):Int):=by omega
 have eY:(Y:Int)-1=((Y-1:Nat):Int):=by omega
 have eZ:(Z:Int)-4=((Z-4:Nat):Int):=by omega
 have n1:=eD ((X-257:Nat):Int) 5 B W w2 hw2 (by omega) (by omega);rw[fC]at n1;go_wp2_with fail;refine n1.mono ?_;rintro e w3 ⟨rfl,hw3,f3⟩;have n2:=eD ((Y-1:Nat):Int) 5 B _ w3 hw3 (by omega) (by rw[List.length_append,Rf.aC];omega);rw[fC]at n2;go_wp2_with fail;refine n2.mono ?_;rintro e w4 ⟨rfl,hw4,f4⟩;have n3:=eD ((Z-4:Nat):Int) 4 B _ w4 hw4 (by omega) (by rw[List.length_append,List.length_append,Rf.aC,Rf.aC];omega);rw[fC]at n3;go_wp2_with fail;refine n3.mono ?_;rintro e w5 ⟨rfl,ZS,f5⟩;have F5:Fr B w2 w5:=(f3.trans f4).trans f5;clear n1 n2 n3 hw3 hw4 f3 f4 f5;go_wp2_with fail;refine (sj _).mono ?_;rintro e w6 ⟨O,rfl,Pc,hO2,hall,hb6⟩;have Je:(Tryz.prog.info? 233).map (·.size)=some O.size:=by rw[Pc];exact xv
 go_wp2_with (refine wpList_store_row rfl 233 _ _ rfl w6.heap.size O rfl (by rfl) 233 gh (ah w6 _) Je Pc.symm hall ?_);have hOb:((w6.alloc (.cells gh 233)).setRow w6.heap.size O).heap[w6.heap.size]?=some (.cells O 233 (0,0)):=setRow_heap _ w6.heap.size _ _ 233 _ (ah w6 _);have CL:Below w6.heap.size w6 ((w6.alloc (.cells gh 233)).setRow w6.heap.size O):=below_setRow (ae w6 _) (Nat.le_refl _) _;generalize ((w6.alloc (.cells gh 233)).setRow w6.heap.size O)=w7 at *;have vh:Below w5.heap.size w5 w7:=hb6.trans (CL.mono hb6.size);have Gl:B<w5.heap.size:=ZS.lt;have hw7:aB w7 B (((W++Rf.nb (X-257) 5)++Rf.nb (Y-1) 5)++Rf.nb (Z-4) 4):=ZS.below vh;have F25:Fr B w w5:=(je hB hbw2).trans F5;have F7:Fr B w w7:=F25.trans (je Gl vh);have RB:w.heap.size≠B:=by omega
 have RC:w5.heap[w.heap.size]?=some (.cells #[.slice (some ⟨G1,0,none⟩) N1 N1,.slice (some ⟨G2,0,none⟩) N2 N2,.slice (some ⟨G3,0,none⟩) 19 19] 246 (0,0)):=(F5.kept RB tM (by decide)).trans tM;have VB:w7.heap[w.heap.size]?=some (.cells #[.slice (some ⟨G1,0,none⟩) N1 N1,.slice (some ⟨G2,0,none⟩) N2 N2,.slice (some ⟨G3,0,none⟩) 19 19] 246 (0,0)):=(vh.block _ (lt_of_block RC)).trans RC;have Pz:jd w7 G1 G2 G3 N1 N2 ls ds nl:=JW.out.fr F7 hw.box;have hK7:w6.heap.size≠B:=by have:=hb6.size;omega
 have ZT:(Z:Int)<=19:=by omega
 have HS0:Hid (aB w7 B ((((W++Rf.nb (X-257) 5)++Rf.nb (Y-1) 5)++Rf.nb (Z-4) 4)++Rf.cL nl 0 0)/\Fr B w w7):=⟨by simpa[Rf.cL]using hw7,F7⟩
 generalize hW3:(((W++Rf.nb (X-257) 5)++Rf.nb (Y-1) 5)++Rf.nb (Z-4) 4)=W3 at *;have afS:W3.length<=90000014:=by rw[<-hW3];simp only[List.length_append,Rf.aC];omega
 have HW3:Hid ((((W++Rf.nb (X-257) 5)++Rf.nb (Y-1) 5)++Rf.nb (Z-4) 4)=W3):=hW3;have UK:Hid (w7.heap[w.heap.size]?=_/\w7.heap[w6.heap.size]?=_/\jd w7 G1 G2 G3 N1 N2 ls ds nl):=⟨VB,hOb,Pz⟩
 generalize w6.heap.size=K7 at *;clear hW3 hw7 F7 F25 RC VB Pz hOb CL vh ZS F5 tM hb6 hw2 hbw2 Nv hb2 Je hall Pc
 have hsl:∀u:World,(Instr.sliceAt 233 (.pointer (some ⟨K7,0,none⟩)) none (some (.int .i64 (Z:Int))) none).run Tryz.prog u=.ok (.slice (some ⟨K7,0,none⟩) Z 19) u:=fun u=>by
  obtain⟨i0,hi,hz0,hz1,hz2⟩:=info_parts Tryz.info3;have hz0':(0:Int)<=(Z:Int):=by omega
  simp[Instr.sliceAt,Instr.sureAddr,run_underlying Tryz.underlying233,Instr.sliceBounds,run_sliceBound,sizeOf,typeInfo,hi,ZT,hz0',go_sem]
 rw[hsl];clear hsl;go_wp2
 go_loopw [33] (fun iv wr=>∃i:Nat,i<=Z/\iv=.int .i64 i/\Hid (aB wr B (W3++Rf.cL nl 0 i)/\Fr B w wr)/\Hid (wr.heap[w.heap.size]?=some (.cells #[.slice (some ⟨G1,0,none⟩) N1 N1,.slice (some ⟨G2,0,none⟩) N2 N2,.slice (some ⟨G3,0,none⟩) 19 19] 246 (0,0))/\wr.heap[K7]?=some (.cells O 233 (0,0))/\jd wr G1 G2 G3 N1 N2 ls ds nl)) (fun iv _=>Z-(intOf iv).toNat)
 case atStart=>exact⟨0,Nat.zero_le _,rfl,HS0,UK⟩
 case round =>
  clear HS0 UK;obtain⟨i,hi,rfl,HS,HM⟩:=hrel;obtain⟨x0,x1,x2,fz,Mr⟩:=cells3 HM.out.1;by_cases hiz:i<Z
  ·have hol:=Rf.o8 i;have co:wr.cell? ⟨K7,i,none⟩=some (.int .i64 ((Rf.order.getD i 0:Nat):Int)):=(aR HM.out.2.1 i).trans (hO2 i (by omega));have cn:=HM.out.2.2.n.at_ (Rf.order.getD i 0) (by have:=HM.out.2.2.l3;omega);have hr3:=HM.out.2.2.r3 (Rf.order.getD i 0);have hsn:=pF nl i 0;rw[Nat.zero_add]at hsn;have bZ:=eD (nl.getD (Rf.order.getD i 0) 0) 3 B (W3++Rf.cL nl 0 i) wr HS.out.1 (by omega) (by rw[List.length_append,Rf.dJ];omega)
   have HSN:Hid ((W3++Rf.cL nl 0 i)++xF (nl.getD (Rf.order.getD i 0) 0) 3=W3++Rf.cL nl 0 (i+1)):=by
    show _=_;rw[hsn,List.append_assoc,<-fC,show (((nl.getD (Rf.order.getD i 0) 0).toNat:Nat):Int)=nl.getD (Rf.order.getD i 0) 0 by omega]
   generalize nl.getD (Rf.order.getD i 0) 0=y at *;generalize Rf.order.getD i 0=q at *;have hq:(q:Int)<19:=by omega
   clear hsn;go_wp2_with fail;refine bZ.mono ?_;rintro e w8 ⟨rfl,hw8,f8⟩;rw[HSN.out]at hw8;have HM8:Hid (w8.heap[w.heap.size]?=some (.cells #[.slice (some ⟨G1,0,none⟩) N1 N1,.slice (some ⟨G2,0,none⟩) N2 N2,.slice (some ⟨G3,0,none⟩) 19 19] 246 (0,0))/\w8.heap[K7]?=some (.cells O 233 (0,0))/\jd w8 G1 G2 G3 N1 N2 ls ds nl):=⟨(f8.kept RB HM.out.1 (by decide)).trans HM.out.1,(f8.kept hK7 HM.out.2.1 (by decide)).trans HM.out.2.1,HM.out.2.2.fr f8 HS.out.1.box⟩
   have HS8:Hid (aB w8 B (W3++Rf.cL nl 0 (i+1))/\Fr B w w8):=⟨hw8,HS.out.2.trans f8⟩
   clear hw8 f8 bZ HS HM co cn x0 x1 x2 fz Mr;go_wp2
   go_roundw
   case rel=>exact⟨i+1,by omega,by go_num,HS8,HM8⟩
   case measure=>simp[intOf];omega
  ·have ei:i=Z:=by omega
   subst ei
   have fp:∀u:World,u.heap[w.heap.size]?=some (.cells #[.slice (some ⟨G1,0,none⟩) N1 N1,.slice (some ⟨G2,0,none⟩) N2 N2,.slice (some ⟨G3,0,none⟩) 19 19] 246 (0,0))->u.cell? ⟨w.heap.size,0,none⟩=some (.slice (some ⟨G1,0,none⟩) N1 N1)/\u.cell? ⟨w.heap.size,1,none⟩=some (.slice (some ⟨G2,0,none⟩) N2 N2)/\u.cell? ⟨w.heap.size,2,none⟩=some (.slice (some ⟨G3,0,none⟩) 19 19):=fun u hu=>by
    obtain⟨z0,z1,z2,_⟩:=cells3 hu;exact⟨z0,z1,z2⟩
   have ZU:wr.drew.heap[w.heap.size]?=some (.cells #[.slice (some ⟨G1,0,none⟩) N1 N1,.slice (some ⟨G2,0,none⟩) N2 N2,.slice (some ⟨G3,0,none⟩) 19 19] 246 (0,0)):=HM.out.1;have hS:=fp _ ZU;have tb:=HM.out.2.2;have hrd:Below wr.heap.size wr wr.drew:=⟨rfl,rfl,rfl,Nat.le_refl _,fun _ _=>rfl⟩
   have ZV:=tb.below hrd;have hwd:=HS.out.1.below hrd;have hBr:=HS.out.1.lt;have htold:=xL ls ds G1 G2 N1 N2 (some ⟨G3,0,none⟩) 19 19 wr.drew tb.l1 tb.l2 (by omega) (by omega) tb.g1.1 tb.g2.1 ZV.s ZV.d;have hti:=kW ls ds N1 N2 (fun j=>(tb.r1 j).1) (fun j=>(tb.r2 j).1);have htl:=iM ls ds N1 N2 tb.l1 tb.l2;have hte:=mU ls ds N1 N2 (fun j=>(tb.r1 j).2) (fun j=>(tb.r2 j).2);rw[<-hti,<-htl]at htold;rw[VA.out.1,VA.out.2.1]at htl;have Re:Hid ((cI ls ds N1 N2).length=X+Y):=htl;clear htl;have hlb:=Rf.dJ nl i 0;go_wp2;refine ax (by kernel_rfl) (fun w'=>w'.cell? ⟨w.heap.size,0,none⟩=some (.slice (some ⟨G1,0,none⟩) N1 N1)/\w'.cell? ⟨w.heap.size,1,none⟩=some (.slice (some ⟨G2,0,none⟩) N2 N2)/\w'.cell? ⟨w.heap.size,2,none⟩=some (.slice (some ⟨G3,0,none⟩) 19 19)) 999 ?_;refine ap [0] ?_
   iterate 1 (refine ar (v:=?_) rfl (by kernel_rfl) (fun _ _ _ h=>h) ?_ hS ?_;rotate_left;(·intro w hSw;(try dsimp only at hSw);go_simp;try with_reducible rfl);try simp only[Act.put])
   refine ai ?_;refine ap [2,3,4] ?_
   iterate 3 (refine ar (v:=?_) rfl (by kernel_rfl) (fun _ _ _ h=>h) ?_ hS ?_;rotate_left;(·intro w hSw;(try dsimp only at hSw);go_simp;try with_reducible rfl);try simp only[Act.put])
   refine ai ?_;refine af (i:=1) (by kernel_rfl) rfl (fun K hK=>?_);go_simp;refine htold.mono ?_;rintro e w8 ⟨v8,rfl,ho8,Bx⟩;obtain⟨ta,tc,rfl,YZ⟩:=tL (B:=B) ho8 rfl hBr;have ZW:=(Bx.block _ (lt_of_block ZU)).trans ZU;refine hK _ _ (fun _=>fp _ ZW) ?_;clear hK K;have tb8:=ZV.below Bx;have hw8:=hwd.below Bx;have hcw:=jK B (some ⟨G3,0,none⟩) 19 nl 19 w8 tb.l3 (by omega) tb8.n.ints (fun a e _=>by cases e;exact lt_of_block tb8.n) (fun j=>by have:=tb.r3 j;omega) tb.full hw8.lt;refine af (i:=5) (by kernel_rfl) rfl (fun K hK=>?_);go_simp;refine hcw.mono ?_;rintro e w9 ⟨fv,rfl,hc9,YA⟩;have ZX:=(YA.block _ (lt_of_block ZW)).trans ZW;refine hK _ _ (fun _=>fp _ ZX) ?_;clear hK K;have hw9:=hw8.below YA;have Jm:=xO B (W3++Rf.cL nl 0 i) nl fv ta tc (cI ls ds N1 N2) w9 (by rw[List.length_append,hlb];omega) tb.l3 hw9 (hc9.weak (Nat.zero_le _)) (YZ.below YA) hte (by have:=Re.out;omega);refine af (i:=6) (by kernel_rfl) rfl (fun K hK=>?_);go_simp;refine Jm.mono ?_;rintro e Md ⟨rfl,ZY,f10⟩;have ZZ:=(f10.kept RB ZX (by decide)).trans ZX;refine hK _ _ (fun _=>fp _ ZZ) ?_;clear hK K;refine ak (by kernel_rfl) ?_ _;have F10:Fr B w Md:=((HS.out.2.trans (je hBr hrd)).trans (je hwd.lt Bx)).trans ((je hw8.lt YA).trans f10);go_wp2
   go_end0
   refine⟨rfl,?_,F10⟩;have:=fc.out X Y i rfl rfl rfl;rw[this,HW3.out];exact ZY
theorem qE (nl:List Int)(h:∀j,0<=nl.getD j 0/\nl.getD j 0<=7):∀ts:List (Nat×Nat),0<=dg nl ts/\dg nl ts<=14*ts.length
 | []=>by simp[dg]
 | t::r=>by
  have ih:=qE nl h r;have:=h t.1;have htk:=CF t;have e:dg nl (t::r)=(nl.getD t.1 0+(Rf.mr t:Nat))+dg nl r:=by simp[dg]
  rw[e,List.length_cons];omega
structure tN (S Tb G1 G2 G3 N1 N2:Nat) (nl:List Int) (c0:Int) (ao:Option Addr) (l:List Nat) (b0:Nat) (w0 w:World) (ts:List (Nat×Nat)):Prop where
 sum:w.heap[S]?=some (.cells #[.int .i64 (c0+dg nl ts)] 3 (0,0))
 box:w.heap[Tb]?=some (.cells #[.slice (some ⟨G1,0,none⟩) N1 N1,.slice (some ⟨G2,0,none⟩) N2 N2,.slice (some ⟨G3,0,none⟩) 19 19] 246 (0,0))
 n:aP w G3 nl
 be:Below b0 w0 w
 told:Told w S ao l
 ne:Tb≠S/\G3≠S/\b0<=S
theorem tN.next {S Tb G1 G2 G3 N1 N2:Nat}{nl:List Int}{c0:Int}{ao:Option Addr}{l:List Nat}{b0:Nat}{w0 w:World}{ts:List (Nat×Nat)}(h:tN S Tb G1 G2 G3 N1 N2 nl c0 ao l b0 w0 w ts)(t:Nat×Nat)(v:Int)(hv:v=c0+dg nl (ts++[t])): tN S Tb G1 G2 G3 N1 N2 nl c0 ao l b0 w0 (w.setCell ⟨S,0,none⟩ (.int .i64 v)) (ts++[t]):=by
 obtain⟨n1,n2,n3⟩:=h.ne;refine⟨?_,(Below.heap_setCell w ⟨S,0,none⟩ _ Tb n1).trans h.box,(Below.heap_setCell w ⟨S,0,none⟩ _ G3 n2).trans h.n,h.be.setCell (p:=⟨S,0,none⟩) n3 _,fun hn=>?_,h.ne⟩
 ·rw[hv];exact one_set h.sum _
 ·obtain⟨g,cs,fr,e,h1,h2,h3⟩:=h.told hn;exact⟨g,cs,fr,e,h1,(Below.heap_setCell w ⟨S,0,none⟩ _ g h1).trans h2,h3⟩
theorem RD (S Tb G1 G2 G3 N1 N2:Nat)(nl:List Int)(c0:Int)(ao:Option Addr)(l:List Nat)(b0:Nat)(w0 w:World)(ts:List (Nat×Nat))(t:Nat×Nat)(h:tN S Tb G1 G2 G3 N1 N2 nl c0 ao l b0 w0 w ts)(hts:ts.length<700)(h18:t.1<=18)(h19:nl.length=19)(hr:∀j,0<=nl.getD j 0/\nl.getD j 0<=7)(hc:0<=c0/\c0<=100000): Calls Tryz.prog 238 #[.int .i64 t.1,.int .i64 t.2,.int .i64 (Rf.mr t),.pointer (some ⟨S,0,none⟩),.pointer (some ⟨Tb,0,none⟩)] w fun e w'=>e=.returned (.tuple #[])/\tN S Tb G1 G2 G3 N1 N2 nl c0 ao l b0 w0 w' (ts++[t]):=by
 have hb1:Below w.heap.size w w.drew:=⟨rfl,rfl,rfl,Nat.le_refl _,fun _ _=>rfl⟩
 have hlS:=lt_of_block h.sum;have h1:tN S Tb G1 G2 G3 N1 N2 nl c0 ao l b0 w0 w.drew ts:=⟨h.sum,h.box,h.n,h.be.trans (hb1.mono (by have:=h.ne;omega)),h.told.below hb1,h.ne⟩
 clear h hb1 hlS;generalize hwd:w.drew=wd at *;obtain⟨x0,x1,x2,fz,aY⟩:=cells3 h1.box;obtain⟨s0,sz,sl⟩:=one_cell h1.sum;have cn:=h1.n.at_ t.1 (by omega);have hle:=qE nl hr ts;have hrt:=hr t.1;have htk:=CF t;have HN:Hid (∀v:Int,v=c0+dg nl ts+(nl.getD t.1 0+(Rf.mr t:Nat))->tN S Tb G1 G2 G3 N1 N2 nl c0 ao l b0 w0 (wd.setCell ⟨S,0,none⟩ (.int .i64 v)) (ts++[t])):=fun v hv=>h1.next t v (by rw[hv,Ad];omega);generalize nl.getD t.1 0=y at *;generalize hk:Rf.mr t=k at *;generalize hq:t.1=q at *;generalize dg nl ts=z at *;obtain⟨c,hcz⟩:∃c,c0+z=c:=⟨_,rfl⟩
 rw[hcz]at s0 HN;have hcb:0<=c/\c<=110000:=by omega
 have Z5:(q:Int)<19:=by omega
 clear h1 hk hq hcz hle hc x0 x1;have hS:wd.cell? ⟨S,0,none⟩=some (.int .i64 c)/\wd.cell? ⟨Tb,2,none⟩=some (.slice (some ⟨G3,0,none⟩) 19 19)/\wd.cell? ⟨G3,q,none⟩=some (.int .i64 y):=⟨s0,x2,cn⟩
 go_enter Tryz.func238,Tryz.ntmps238
 go_wp2;refine ax (by kernel_rfl) (fun w'=>w'.cell? ⟨S,0,none⟩=some (.int .i64 c)/\w'.cell? ⟨Tb,2,none⟩=some (.slice (some ⟨G3,0,none⟩) 19 19)/\w'.cell? ⟨G3,q,none⟩=some (.int .i64 y)) 9 ?_;rw[hwd];refine ap [0,1,2,3,4,5,6,7,8] ?_
 iterate 9 (refine ar (v:=?_) rfl (by kernel_rfl) (fun _ _ _ h=>h) ?_ hS ?_;rotate_left;(·intro w hSw;(try dsimp only at hSw);go_simp;try with_reducible rfl);try simp only[Act.put])
 refine ai ?_;refine af (i:=9) (by kernel_rfl) rfl (fun K hK=>?_);go_simp;refine hK _ _ (fun h=>absurd rfl h) ?_;clear hK K;refine ak (by kernel_rfl) ?_ _;go_wp2
 go_end0
 exact⟨rfl,HN.out _ (by rw[IntKind.wrap_i64,IntKind.wrap_i64];omega)⟩
theorem Nw (args:Array Value)(w:World):(callFunc 238 args).run Tryz.prog w=.ok (.enter 238 args) w:=by kernel_rfl
theorem Ae (S Tb G1 G2 G3 N1 N2:Nat)(nl:List Int)(c0:Int)(ao:Option Addr)(cap:Nat)(l:List Nat)(b0:Nat)(w0 w:World)(h:tN S Tb G1 G2 G3 N1 N2 nl c0 ao l b0 w0 w [])(h19:nl.length=19)(hr:∀j,0<=nl.getD j 0/\nl.getD j 0<=7)(hc:0<=c0/\c0<=100000)(hl:∀x∈l,x<=15)(h6:l.length<=600): Calls Tryz.prog 234 #[.slice ao l.length cap,.func (.func 238) #[] #[.pointer (some ⟨S,0,none⟩),.pointer (some ⟨Tb,0,none⟩)]] w fun e w'=>e=.returned (.tuple #[])/\tN S Tb G1 G2 G3 N1 N2 nl c0 ao l b0 w0 w' (E l):=by
 refine jN 238 _ ao cap l (tN S Tb G1 G2 G3 N1 N2 nl c0 ao l b0 w0) ⟨?_,Nw,?_,fun u ts h=>h.told.ints⟩ w h hl h6
 ·intro u ts t h hts h18 hx;exact RD S Tb G1 G2 G3 N1 N2 nl c0 ao l b0 w0 u ts t h hts h18 h19 hr hc
 ·intro u ts n h;have hb:Below u.heap.size u (u.drewN n):=below_drewN (Below.refl _ _) n;exact⟨h.sum,h.box,h.n,below_drewN h.be n,h.told.below hb,h.ne⟩
theorem Nx (G1 G2 G3 N1 N2:Nat)(ls ds nl:List Int)(w:World)(h:jd w G1 G2 G3 N1 N2 ls ds nl): Calls Tryz.prog 218 #[tJ (.slice (some ⟨G1,0,none⟩) N1 N1) (.slice (some ⟨G2,0,none⟩) N2 N2) (.slice (some ⟨G3,0,none⟩) 19 19)] w fun e w' =>
   e=.returned (.int .i64 (14+3*(trimF (cP nl 19) 4 19:Nat)+dg nl (E (cI ls ds N1 N2))))/\Below w.heap.size w w':=by
 have c1:=bE (cP nl 19) 4 19;have hcn:=fun (u:World) (hu:Below w.heap.size w u)=>mT nl G3 (some ⟨G1,0,none⟩) (some ⟨G2,0,none⟩) N1 N1 N2 N2 u h.l3 ((hu.block _ (lt_of_block h.n)).trans h.n);have JW:Hid (jd w G1 G2 G3 N1 N2 ls ds nl):=h;generalize trimF (cP nl 19) 4 19=Z at *;clear h
 go_enter Tryz.func218,Tryz.ntmps218
 go_wp2_with fail;have kT:=ae w (.cells #[.slice (some ⟨G1,0,none⟩) N1 N1,.slice (some ⟨G2,0,none⟩) N2 N2,.slice (some ⟨G3,0,none⟩) 19 19] 246);refine (hcn _ kT).mono ?_;rintro e w2 ⟨rfl,hb2⟩;have hbw2:Below w.heap.size w w2:=kT.trans (hb2.mono (by simp));have tM:w2.heap[w.heap.size]?=some (.cells #[.slice (some ⟨G1,0,none⟩) N1 N1,.slice (some ⟨G2,0,none⟩) N2 N2,.slice (some ⟨G3,0,none⟩) 19 19] 246 (0,0)):=(hb2.block _ (by simp)).trans (ah w _);obtain⟨x0,x1,x2,fz,hlt1⟩:=cells3 tM;clear hcn hb2 kT;go_wp2_with fail;have tb:=JW.out;have kS:=ae w2 (.cells #[.int .i64 (14+3*(Z:Int))] 3);have RE:Below w.heap.size w (w2.alloc (.cells #[.int .i64 (14+3*(Z:Int))] 3)):=hbw2.trans (kS.mono hbw2.size);have bs3:(w2.alloc (.cells #[.int .i64 (14+3*(Z:Int))] 3)).heap[w2.heap.size]?=some (.cells #[.int .i64 (14+3*(Z:Int))] 3 (0,0)):=ah w2 _;have Z6:(w2.alloc (.cells #[.int .i64 (14+3*(Z:Int))] 3)).heap[w.heap.size]?=some (.cells #[.slice (some ⟨G1,0,none⟩) N1 N1,.slice (some ⟨G2,0,none⟩) N2 N2,.slice (some ⟨G3,0,none⟩) 19 19] 246 (0,0)):=am tM _;have hs3:w2.heap.size<(w2.alloc (.cells #[.int .i64 (14+3*(Z:Int))] 3)).heap.size:=by simp
 have YB:=tb.below RE;have hG3:=lt_of_block tb.n;clear x0 x1 x2 fz kS tM;generalize hw3:(w2.alloc (.cells #[.int .i64 (14+3*(Z:Int))] 3))=w3 at *;have gg1:=tb.g1.2;have gg2:=tb.g2.2;have htold:=xL ls ds G1 G2 N1 N2 (some ⟨G3,0,none⟩) 19 19 w3 tb.l1 tb.l2 (by omega) (by omega) tb.g1.1 tb.g2.1 YB.s YB.d;have hti:=kW ls ds N1 N2 (fun j=>(tb.r1 j).1) (fun j=>(tb.r2 j).1);have htl:=iM ls ds N1 N2 tb.l1 tb.l2;have hte:=mU ls ds N1 N2 (fun j=>(tb.r1 j).2) (fun j=>(tb.r2 j).2);have a1:=bE ls 257 N1;have b1:=bE ds 1 N2;have htn:Hid ((cI ls ds N1 N2).length<=600):=by show _<=_;omega
 rw[<-hti,<-htl]at htold;clear htl hti a1 b1;refine htold.mono ?_;rintro e w4 ⟨v4,rfl,Ih,hb4⟩;obtain⟨ta,tc,rfl,VC⟩:=tL (B:=w2.heap.size) Ih rfl hs3
 have si:tN w2.heap.size w.heap.size G1 G2 G3 N1 N2 nl (14+3*(Z:Int)) ta (cI ls ds N1 N2) w.heap.size w w4 [] :=
  ⟨by rw[show (14+3*(Z:Int))+dg nl []=14+3*(Z:Int) by simp[dg]];exact (hb4.block _ hs3).trans bs3,(hb4.block _ (lt_of_block Z6)).trans Z6,(YB.below hb4).n,RE.trans (hb4.mono RE.size),VC,by omega,by omega,hbw2.size⟩
 have hls:=Ae w2.heap.size w.heap.size G1 G2 G3 N1 N2 nl (14+3*(Z:Int)) ta tc (cI ls ds N1 N2) w.heap.size w w4 si tb.l3 tb.r3 (by omega) hte htn.out;generalize w2.heap.size=S at *;clear VC Ih hb4 bs3 Z6 si YB tb;go_wp2_with fail;refine hls.mono ?_;rintro e w5 ⟨rfl,h5⟩;obtain⟨s0,sz,sl⟩:=one_cell h5.sum;have UJ:=h5.be;go_wp2
 go_ret
 exact⟨rfl,UJ⟩
def Gs (t:Nat×Nat):Tok:=(false,t.1,0,0)
def jZ (ts:List (Nat×Nat)):List Int:=eW 19 false (ts.map Gs)
theorem Gt (ts:List (Nat×Nat))(t:Nat×Nat):jZ (ts++[t])=(jZ ts).set t.1 ((jZ ts).getD t.1 0+1):=by
 unfold jZ;rw[List.map_append];exact tw 19 false (ts.map Gs) t.1 0 0
theorem rq (ts:List (Nat×Nat)):(jZ ts).length=19:=eH _ _ _
theorem tO (ts:List (Nat×Nat))(j:Nat):0<=(jZ ts).getD j 0/\(jZ ts).getD j 0<=ts.length:=by
 have:=gH 19 false (ts.map Gs) j;rw[List.length_map]at this;exact this
theorem JX (ts:List (Nat×Nat))(t:Nat×Nat)(h:t∈ts)(h18:t.1<=18):0<(jZ ts).getD t.1 0:=by
 unfold jZ;rw[ja 19 false _ t.1 (by omega)];have:0<(ts.map Gs).countP (fun u=>decide (u.1=false/\u.2.1=t.1)):=List.countP_pos_iff.2 ⟨Gs t,List.mem_map_of_mem h,by simp[Gs]⟩;omega
structure vj (Wb G:Nat) (ao:Option Addr) (l:List Nat) (b0:Nat) (w0 w:World) (ts:List (Nat×Nat)):Prop where
 box:w.heap[Wb]?=some (.cells #[.slice (some ⟨G,0,none⟩) 19 19] 24 (0,0))
 n:aP w G (jZ ts)
 be:Below b0 w0 w
 told:Told w G ao l
 ne:Wb≠G/\b0<=G
theorem vj.next {Wb G:Nat}{ao:Option Addr}{l:List Nat}{b0:Nat}{w0 w:World}{ts:List (Nat×Nat)}(h:vj Wb G ao l b0 w0 w ts)(t:Nat×Nat): vj Wb G ao l b0 w0 (w.setCell ⟨G,t.1,none⟩ (.int .i64 ((jZ ts).getD t.1 0+1))) (ts++[t]):=by
 obtain⟨n1,n2⟩:=h.ne;refine⟨(Below.heap_setCell w ⟨G,t.1,none⟩ _ Wb n1).trans h.box,by rw[Gt];exact h.n.set _ _,h.be.setCell (p:=⟨G,t.1,none⟩) n2 _,fun hn=>?_,h.ne⟩;obtain⟨g,cs,fr,e,h1,h2,h3⟩:=h.told hn;exact⟨g,cs,fr,e,h1,(Below.heap_setCell w ⟨G,t.1,none⟩ _ g h1).trans h2,h3⟩
theorem JY (Wb G:Nat)(ao:Option Addr)(l:List Nat)(b0:Nat)(w0 w:World)(ts:List (Nat×Nat))(t:Nat×Nat)(h:vj Wb G ao l b0 w0 w ts)(hts:ts.length<700)(h18:t.1<=18)(x k:Value): Calls Tryz.prog 236 #[.int .i64 t.1,x,k,.pointer (some ⟨Wb,0,none⟩)] w fun e w'=>e=.returned (.tuple #[])/\vj Wb G ao l b0 w0 w' (ts++[t]):=by
 obtain⟨s0,sz,sl⟩:=one_cell h.box;have cn:=h.n.at_ t.1 (by rw[rq];omega);have hfz:∀j,w.frozen? ⟨G,j,none⟩=false:=fun j=>frozen_of_row w G j _ _ h.n;have hr:=tO ts t.1;have HN:Hid (vj Wb G ao l b0 w0 (w.setCell ⟨G,t.1,none⟩ (.int .i64 ((jZ ts).getD t.1 0+1))) (ts++[t])):=h.next t;generalize (jZ ts).getD t.1 0=y at *;generalize hq:t.1=q at *;have Z5:(q:Int)<19:=by omega
 clear h hq
 go_enter Tryz.func236,Tryz.ntmps236
 go_wp2
 go_end0
 exact⟨rfl,HN.out⟩
theorem Ny (args:Array Value)(w:World):(callFunc 236 args).run Tryz.prog w=.ok (.enter 236 args) w:=by kernel_rfl
theorem xP (Wb G:Nat)(ao:Option Addr)(cap:Nat)(l:List Nat)(b0:Nat)(w0 w:World)(h:vj Wb G ao l b0 w0 w [])(hl:∀x∈l,x<=15)(h6:l.length<=600): Calls Tryz.prog 234 #[.slice ao l.length cap,.func (.func 236) #[] #[.pointer (some ⟨Wb,0,none⟩)]] w fun e w'=>e=.returned (.tuple #[])/\vj Wb G ao l b0 w0 w' (E l):=by
 refine jN 236 _ ao cap l (vj Wb G ao l b0 w0) ⟨?_,Ny,?_,fun u ts h=>h.told.ints⟩ w h hl h6
 ·intro u ts t h hts h18 hx;exact JY Wb G ao l b0 w0 u ts t h hts h18 _ _
 ·intro u ts n h;have hb:Below u.heap.size u (u.drewN n):=below_drewN (Below.refl _ _) n;exact⟨h.box,h.n,below_drewN h.be n,h.told.below hb,h.ne⟩
structure Made (sw dw ls ds nl:List Int):Prop where
 s:∃ws,mS sw ws 286/\2<=(heavy ws 286).length/\dK ws 286 15 ls
 d:dK dw 30 15 ds
 n:∃ws,mS (jZ (E (cI ls ds 286 30))) ws 19/\2<=(heavy ws 19).length/\dK ws 19 7 nl
theorem getD_take (l:List Int)(m j:Nat):(l.take m).getD j 0=if j<m then l.getD j 0 else 0:=by
 rw[List.getD_eq_getElem?_getD,List.getElem?_take];by_cases h:j<m
 ·rw[if_pos h,if_pos h,List.getD_eq_getElem?_getD]
 ·rw[if_neg h,if_neg h];rfl
theorem xQ (l:List Int)(m:Nat):∀k,k<=m->Rf.fs (l.take m) k=Rf.fs l k
 | 0,_=>rfl
 | k+1,h=>by rw[Rf.fs,Rf.fs,xQ l m k (by omega),getD_take,if_pos (show k<m by omega)]
theorem xR (l:List Int)(m:Nat):∀n,m<=n->(∀j,m<=j->j<n->l.getD j 0=0)->Rf.fs l n=Rf.fs l m
 | 0,h,_=>by
  have:m=0:=by omega
  rw[this]
 | n+1,h,hz=>by
  by_cases e:m=n+1
  ·rw[e]
  ·rw[Rf.fs,xR l m n (by omega) (fun j h1 h2=>hz j h1 (by omega)),hz n (by omega) (by omega)];simp
theorem wi (l:List Int)(least N:Nat)(hN:l.length=N):Rf.full (l.take (trimF l least N))=decide (Rf.fs l N=32768):=by
 have h1:=bE l least N;unfold Rf.full;rw[List.length_take,show min (trimF l least N) l.length=trimF l least N by omega,xQ l _ _ (Nat.le_refl _),xR l _ N h1 (gL l least N)]
theorem Ek (far:List Int)(j:Nat)(h:∀i,far.getD i 0=if i=j then 1 else 0):∀k,Rf.eQ far k=(if j<k then 1 else 0)/\Rf.my far k=(if j<k then 1 else 0)
 | 0=>by simp[Rf.eQ,Rf.my]
 | k+1=>by
  obtain⟨i1,i2⟩:=Ek far j h k;rw[Rf.eQ,Rf.my,i1,i2,h k];by_cases e:k=j
  ·subst e;simp
  ·rw[if_neg e];by_cases e2:j<k
   ·have e3:j<k+1:=by omega
    simp[e2,e3]
   ·have e3:¬j<k+1:=by omega
    simp only[if_neg e2,if_neg e3];simp
theorem Af (far:List Int)(h:∀i,far.getD i 0=0):∀k,Rf.eQ far k=0
 | 0=>rfl
 | k+1=>by rw[Rf.eQ,Af far h k,h k];rfl
theorem CM {sw dw ls ds nl:List Int}(h:Made sw dw ls ds nl)(RF:0<sw.getD 256 0):Rf.iX (ls.take (trimF ls 257 286)) (ds.take (trimF ds 1 30))=false:=by
 obtain⟨ws,hw1,hw2,hw3⟩:=h.s;have a1:Rf.full (ls.take (trimF ls 257 286))=true:=by rw[wi ls 257 286 hw3.len];exact decide_eq_true (hw3.full hw2)
 have a2:=ik ls 257 286 (by omega)
 have a3:(ls.take (trimF ls 257 286)).getD 256 0≠0:=by
  rw[getD_take,if_pos (by omega)];have:=hw3.pos 256 ((gK ws 286 256).2 ⟨by omega,hw1.keep 256 RF⟩);omega
 have b0:=bE ds 1 30;have bl:(ds.take (trimF ds 1 30)).length=trimF ds 1 30:=by rw[List.length_take,h.d.len];omega
 have bz:=gL ds 1 30;have b1:Rf.full (ds.take (trimF ds 1 30))=decide (Rf.fs ds 30=32768):=wi ds 1 30 h.d.len;unfold Rf.iX;rw[a1,b1,bl,decide_eq_false a3];rcases Nat.lt_or_ge (heavy dw 30).length 2 with hlt|hge
 ·rcases Nat.lt_or_ge (heavy dw 30).length 1 with h0|h1
  ·have e0:heavy dw 30=[]:=List.eq_nil_of_length_eq_zero (by omega)
   have:=Af (ds.take (trimF ds 1 30)) (fun i=>by
    rw[getD_take,h.d.non i (by rw[e0];simp)]
    simp) (trimF ds 1 30)
   rw[this];simp
  ·obtain⟨j,ej⟩:=List.length_eq_one_iff.1 (show (heavy dw 30).length=1 by omega);have hj:ds.getD j 0=1:=h.d.one (by omega) j (by rw[ej];simp);have Z7:j<30:=((gK dw 30 j).1 (by rw[ej];simp)).1
   have hjm:j<trimF ds 1 30:=by
    rcases Nat.lt_or_ge j (trimF ds 1 30) with q|q
    ·exact q
    ·have:=bz j q Z7;omega
   have hs:=Ek (ds.take (trimF ds 1 30)) j (fun i=>by
    rw[getD_take];by_cases e:i=j
    ·subst e;rw[if_pos hjm,if_pos rfl,hj]
    ·rw[if_neg e,h.d.non i (by rw[ej];simpa using e)]
     simp) (trimF ds 1 30)
   rw[hs.1,hs.2,if_pos hjm,if_pos hjm];simp
 ·rw[decide_eq_true (h.d.full hge)];simp
theorem El (T:List UInt8):∀{p q:Nat} {steps:List (Nat×Nat)},Rf.Fits T p steps q->p<=q
 | _,_,[],h=>Nat.le_of_eq h
 | _,_,_::_,h=>Nat.le_trans (Nat.le_add_right _ _) (El T h.2)
theorem tP (T:List UInt8)(o n:Nat):∀{p:Nat} {steps:List (Nat×Nat)},Rf.Fits T (o+p) steps (o+n)->dm n p steps
 | p,[],h=>by
  have h:o+p=o+n:=h;show p<=n;omega
 | p,s::r,h=>by
  obtain⟨h1,h2⟩:=h;rw[Nat.add_assoc]at h2;have hle:=El T h2;refine⟨?_,tP T o n h2⟩;rcases h1 with⟨a,b,_⟩|⟨a,b,c,d,_⟩
  ·exact .inl ⟨a,b,by omega⟩
  ·exact .inr ⟨a,b,c,d,by omega⟩
theorem Em (x:Nat):Rf.nb x 0=[]:=List.eq_nil_of_length_eq_zero (Rf.aC x 0)
theorem En (ls ds:List Int)(T U:List UInt8)(o n:Nat)(hU:∀j,j<n->U.getD j 0=T.getD (o+j) 0):∀(p:Nat) (steps:List (Nat×Nat)),dm n p steps -> aA ls ds (aq U p steps)=Rf.dB (Rf.bd ls) (Rf.bd ds) T (o+p) steps
 | p,[],_=>by simp[aq,aA,Rf.dB,Em]
 | p,s::r,h=>by
  have ih:=En ls ds T U o n hU (p+s.1) r h.2;have e:aA ls ds (dk U p s++aq U (p+s.1) r)=aA ls ds (dk U p s)++aA ls ds (aq U (p+s.1) r):=by simp[aA]
  rw[aq,Rf.dB,e,ih,Nat.add_assoc]
  congr 1
  unfold dk Rf.jX;by_cases h0:s.2=0
  ·have hp:p<n:=by
    rcases h.1 with⟨_,_,q⟩|⟨_,_,q,_⟩
    ·exact q
    ·omega
   rw[if_pos h0,if_pos h0,hU p hp];simp[aA,Em]
  ·rw[if_neg h0,if_neg h0];simp[aA]
end Go.Proofs.YtmfijackgekioaaGreatDoor
