import Derived.Test.YtmfijackgekioaaGreatDoorQ17
set_option maxHeartbeats 4000000
set_option maxRecDepth 100000
namespace Go.Proofs.YtmfijackgekioaaGreatDoor
open Go.RowKit
def cJ (nl:List Int)(k:Nat):List Int:=(List.range k).map (fun i=>nl.getD (Rf.order.getD i 0) 0)
theorem xr (nl:List Int)(k:Nat):(cJ nl k).length=k:=by simp[cJ]
theorem Bx (nl:List Int)(k:Nat):cJ nl (k+1)=cJ nl k++[nl.getD (Rf.order.getD k 0) 0]:=by simp[cJ,List.range_succ]
theorem By (nl:List Int)(k i:Nat)(h:i<k):(cJ nl k).getD i 0=nl.getD (Rf.order.getD i 0) 0:=by
 unfold cJ;rw[aaa,abk,List.getElem?_range h];rfl
theorem Fg (O:Array Value)(k:Nat)(hk:k<19)(v:Int)(h:O[k]?=some (.int .i64 v))(u:World):(Instr.index 233 (.agg O) (.int .i64 (k:Int))).run Tryz.prog u=.ok (.int .i64 v) u:=by
 obtain⟨i0,hi,hz0,hz1,hz2⟩:=aaX Tryz.info3;have h1:(0:Int)<=(k:Int)/\(k:Int)<19:=by omega
 simp[Instr.index,run_underlying Tryz.underlying233,asIntOf,h1,sizeOf,typeInfo,hi,hz1,go_sem,h,hk]
theorem IA {w:World}{base n cap:Nat}{oa:Option Addr}{zs:List Int}(h:w.ownsRow base 3 1 (.slice oa n cap) n (vals zs)):Ints w oa zs:=by
 intro j hj;rcases h.2 with⟨e,e2⟩|⟨g,cap',cur,e,hb,hg,hnc,hcm,hcs,htake⟩
 ·have:=h.1;rw[e2]at this;simp[vals]at this;rw[this]at hj;simp at hj
 ·simp only[abd,abG]at e;obtain⟨rfl,rfl⟩:=e;refine⟨g,0,rfl,?_⟩;have:=h.cells (g:=g) rfl j (.int .i64 zs[j]) (by rw[abk,aai hj];rfl);rw[fX]at this;exact this
theorem mf (nl:List Int)(G3:Nat)(sa da:Option Addr)(sn sc dn dc:Nat)(w:World)(h19:nl.length=19)(h:aR w G3 nl): Calls Tryz.prog 237 #[sR (.slice sa sn sc) (.slice da dn dc) (.slice (some ⟨G3,0,none⟩) 19 19)] w fun e w'=>e=.returned (.int .i64 (trimF (cJ nl 19) 4 19:Nat))/\Below w.heap.size w w':=by
 obtain⟨i0,hi,hz0,hz1,hz2⟩:=aaX Tryz.info3;obtain⟨Z,hZ⟩:∃Z:List Value,Z=List.replicate 19 (.int .i64 0):=⟨_,rfl⟩
 have hmk:∀u:World,(Instr.makeSlice 24 (.int .i64 0) (.int .i64 19)).run Tryz.prog u=.ok (.slice (some ⟨u.heap.size,0,none⟩) 0 19) (u.alloc (.cells Z.toArray 3)):=fun u=>Ii 19 (by omega) Z hZ u;have SR:Z.length=19:=by rw[hZ];simp
 clear hZ;have hlt:=aab h;have kT:=ag w (.cells #[.slice sa sn sc,.slice da dn dc,.slice (some ⟨G3,0,none⟩) 19 19] 246)
 go_enter Tryz.func237,Tryz.ntmps237
 go_wp2_with fail;have hsz2:((w.alloc (.cells #[.slice sa sn sc,.slice da dn dc,.slice (some ⟨G3,0,none⟩) 19 19] 246)).alloc (.cells Z.toArray 3)).heap.size=w.heap.size+1+1:=by simp
 have hb2:Below w.heap.size w ((w.alloc (.cells #[.slice sa sn sc,.slice da dn dc,.slice (some ⟨G3,0,none⟩) 19 19] 246)).alloc (.cells Z.toArray 3)):=kT.alloc (by simp) _;have ol:((w.alloc (.cells #[.slice sa sn sc,.slice da dn dc,.slice (some ⟨G3,0,none⟩) 19 19] 246)).alloc (.cells Z.toArray 3)).heap[w.heap.size]?=some (.cells #[.slice sa sn sc,.slice da dn dc,.slice (some ⟨G3,0,none⟩) 19 19] 246 (0,0)):=aw (ak w _) _
 have hown:((w.alloc (.cells #[.slice sa sn sc,.slice da dn dc,.slice (some ⟨G3,0,none⟩) 19 19] 246)).alloc (.cells Z.toArray 3)).ownsRow (w.heap.size+1) 3 1 (.slice (some ⟨w.heap.size+1,0,none⟩) 0 19) 0 [] :=
  ⟨rfl,.inr ⟨w.heap.size+1,19,Z.toArray,rfl,aad _,sK (by simp),by omega,by unfold maxLen;omega,by simp[SR],by simp⟩⟩
 refine (xg _).mono ?_;rintro e w1 ⟨O,rfl,VP,hO2,_,hb1⟩;rw[hsz2]at hb1;have uJ:Below w.heap.size w w1:=hb2.trans (hb1.mono (by omega));have hs1:=hb1.size;rw[hsz2]at hs1;have Fh:Hid (w1.heap[w.heap.size]?=some (.cells #[.slice sa sn sc,.slice da dn dc,.slice (some ⟨G3,0,none⟩) 19 19] 246 (0,0))):=(hb1.block _ (by omega)).trans ol;have Bz:Hid (w1.ownsRow (w.heap.size+1) 3 1 (.slice (some ⟨w.heap.size+1,0,none⟩) 0 19) 0 (vals (cJ nl 0))):=bK hown (fun g hg=>hb1.block g (by simp[Value.ownBlock]at hg;omega));have HL:Hid (aR w G3 nl):=h;clear ol hown hb1 kT hb2 hmk h;go_wp2
 go_loopw [3,11] (fun ov iv wr=>∃(k:Nat) (oa:Option Addr) (oc:Nat),k<=19/\iv=.int .i64 k/\ov=.slice oa k oc/\Hid (wr.ownsRow (w.heap.size+1) 3 1 (.slice oa k oc) k (vals (cJ nl k)))/\Hid (wr.heap[w.heap.size]?=some (.cells #[.slice sa sn sc,.slice da dn dc,.slice (some ⟨G3,0,none⟩) 19 19] 246 (0,0)))/\Below w.heap.size w wr/\w.heap.size+1<=wr.heap.size) (fun _ iv _=>19-(intOf iv).toNat)
 case atStart=>exact⟨0,_,_,aaj _,rfl,rfl,Bz,Fh,uJ,by omega⟩
 case round =>
  clear Bz Fh uJ hs1;obtain⟨k,oa,oc,hk,rfl,rfl,Bz,Fh,hb,hsz⟩:=hrel;by_cases SU:k<19
  ·have hok:∀u:World,(Instr.index 233 (.agg O) (.int .i64 (k:Int))).run Tryz.prog u=.ok (.int .i64 (Rf.order.getD k 0:Nat)) u:=fun u=>Fg O k SU _ (hO2 k SU) u;have hol:=Rf.oK k;obtain⟨c0,c1,c2,fz,Pj⟩:=cells3 Fh.out;have ZO:aR wr G3 nl:=(hb.block _ hlt).trans HL.out;have hcell:=ZO.at_ (Rf.order.getD k 0) (by omega);have HS:Hid (cJ nl (k+1)=cJ nl k++[nl.getD (Rf.order.getD k 0) 0]):=Bx nl k;generalize nl.getD (Rf.order.getD k 0) 0=y at *;generalize Rf.order.getD k 0=q at *;have hq:(q:Int)<19:=by omega
   have kA:=ag wr (.cells #[.int .i64 y] 3);have Ph:(wr.alloc (.cells #[.int .i64 y] 3)).ownsRow (w.heap.size+1) 3 1 (.slice oa k oc) k (vals (cJ nl k)):=Bz.out.alloc _
   have hsA:Src (wr.alloc (.cells #[.int .i64 y] 3)) 1 (.slice (some ⟨wr.heap.size,0,none⟩) 1 1) 1 (vals [y]):=by
    have:=xo (w:=wr.alloc (.cells #[.int .i64 y] 3)) (g:=wr.heap.size) (zs:=[y]) (ak wr _) 1 1 (by simp);simpa using this
   obtain⟨v',w',hr,ho',hg'⟩:=cj (ty:=24) Tryz.underlying24 hi hz0 hz1 hz2 rfl (by decide) Ph hsA (by unfold maxLen;omega) (by omega) (by simp;omega);obtain⟨ll,j5,rfl⟩:=aD ho';have hb':Below w.heap.size w w':=bH (hb.trans (kA.mono hb.size)) hg' (fun j hj=>by have:=(Ph.lt j hj).1;omega) (aad _)
   have HO':Hid (w'.ownsRow (w.heap.size+1) 3 1 (.slice ll (k+1) j5) (k+1) (vals (cJ nl (k+1)))):=by
    show w'.ownsRow _ _ _ _ _ _;rw[HS.out,vals,abo];exact ho'
   have HB':Hid (w'.heap[w.heap.size]?=some (.cells #[.slice sa sn sc,.slice da dn dc,.slice (some ⟨G3,0,none⟩) 19 19] 246 (0,0))):=by
    refine ((hg'.block _ (by simp;omega) (fun e=>?_)).trans (aaM _ _ _ Pj)).trans Fh.out;have:=(Ph.lt _ e.symm).1;omega
   have hsz':w.heap.size+1<=w'.heap.size:=by have:=hg'.size;simp at this;omega
   have hkI:(k:Int)<19:=by omega
   clear hsA Ph ho' hg' kA Bz Fh ZO HS hO2;go_wp2_with (at_builtin;refine aa6 _ rfl _ _ _ _ rfl _ _ rfl rfl _ _ hr ?_)
   go_roundw
   case rel=>exact⟨k+1,ll,j5,by omega,by go_num,rfl,HO',HB',hb',hsz'⟩
   case measure=>simp[intOf];omega
  ·have e:k=19:=by omega
   subst e;obtain⟨g,j5,hform,hgb⟩:=Bz.out.form (by omega);simp only[abd,abG]at hform;obtain⟨rfl,rfl⟩:=hform;have hint:=IA Bz.out;have htr:=ot (cJ nl 19) 4 19 oc (some ⟨g,0,none⟩) wr (xr nl 19) (by omega) (by omega) hint;go_wp2_with fail;refine htr.mono ?_;rintro e w2 ⟨rfl,m,rfl⟩;go_wp2
   go_ret
   exact⟨rfl,aap hb m⟩
def Told (w:World)(B:Nat)(ao:Option Addr)(l:List Nat):Prop :=
 l≠[]->∃g cs fr,ao=some ⟨g,0,none⟩/\g≠B/\w.heap[g]?=some (.cells cs 3 fr)/\∀j,j<l.length->cs[j]?=some (.int .i64 (l.getD j 0:Nat))
theorem Told.ints {w:World}{B:Nat}{ao:Option Addr}{l:List Nat}(h:Told w B ao l):Ints w ao (mb l):=by
 intro j hj;have hj':j<l.length:=by simpa using hj
 obtain⟨g,cs,fr,e,_,hg,hc⟩:=h (ne_of_lt hj');refine⟨g,0,e,?_⟩;have e2:w.cell? ⟨g,0+j,none⟩=cs[j]?:=by rw[aaF];simp[World.cell?,hg]
 rw[e2,hc j hj',abL,aaa,aai hj'];rfl
theorem Told.fr {w w':World}{B:Nat}{ao:Option Addr}{l:List Nat}(h:Told w B ao l)(k:Fr B w w'):Told w' B ao l:=fun hn=>by
 obtain⟨g,cs,fr,e,h1,h2,h3⟩:=h hn;exact⟨g,cs,fr,e,h1,(k.kept h1 h2 (by decide)).trans h2,h3⟩
theorem Told.below {w w':World}{B:Nat}{ao:Option Addr}{l:List Nat}(h:Told w B ao l)(k:Below w.heap.size w w'):Told w' B ao l:=fun hn=>by
 obtain⟨g,cs,fr,e,h1,h2,h3⟩:=h hn;exact⟨g,cs,fr,e,h1,(k.block _ (aab h2)).trans h2,h3⟩
theorem jy (tb:Nat->List Int):∀(ts:List (Nat×Nat)) (t:Nat×Nat),Rf.aS tb (ts++[t])=Rf.aS tb ts++(tb t.1++Rf.nb t.2 (Rf.lp t))
 | [],t=>by simp[Rf.aS]
 | s::r,t=>by
  rw[acn,Rf.aS,Rf.aS,jy tb r t];simp[List.append_assoc]
structure SV (B:Nat) (W nl:List Int) (fv:Value) (ao:Option Addr) (l:List Nat) (w0 w:World) (ts:List (Nat×Nat)):Prop where
 wr:aB w B (W++Rf.aS (Rf.a8 nl) ts)
 cw:eV w fv B nl 0
 fr:Fr B w0 w
 told:Told w B ao l
 len:(Rf.aS (Rf.a8 nl) ts).length<=22*ts.length
theorem xt (B:Nat)(W nl:List Int)(fv:Value)(ao:Option Addr)(cap:Nat)(l:List Nat)(w:World)(hW:W.length<=100000000)(h19:nl.length=19)(hw:aB w B W)(hc:eV w fv B nl 0)(ht:Told w B ao l)(hl:∀x∈l,x<=15)(h6:l.length<=600): Calls Tryz.prog 234 #[.slice ao l.length cap,fv] w fun e w'=>e=.returned (.tuple #[])/\aB w' B (W++Rf.aS (Rf.a8 nl) (E l))/\Fr B w w':=by
 obtain⟨WB,Lb,C,e1,_⟩:=hc.val;have h0:SV B W nl fv ao l w w []:=⟨by simpa[Rf.aS]using hw,hc,Fr.refl _ _,ht,by simp[Rf.aS]⟩
 have hB:=hw.lt
 have hd:xm 243 #[.pointer (some ⟨WB,0,none⟩),.pointer (some ⟨Lb,0,none⟩)] ao l (SV B W nl fv ao l w):=by
  refine⟨?_,xd,?_,fun u ts h=>h.told.ints⟩
  ·intro u ts t h hts h18 hx;obtain⟨WB',Lb',C',e,b1,b2,n1,_⟩:=h.cw.val;rw[e1]at e;simp at e;obtain⟨rfl,rfl⟩:=e;have hlen:=h.len;have htk:=Bv t;refine (sG t.1 t.2 (Rf.lp t) WB Lb C' nl B (W++Rf.aS (Rf.a8 nl) ts) u b1 b2 n1 h.cw.Nz h.wr (by omega) (by omega) (by rw[aac];omega)).mono ?_;rintro e u' ⟨rfl,hw',hf'⟩;refine⟨rfl,⟨?_,h.cw.fr hf',h.fr.trans hf',h.told.fr hf',?_⟩⟩
   ·rw[jy,<-aaq,<-fj];exact hw'
   ·rw[jy,aac,aac,aac,Rf.bV,Rf.aF,abb];have:=(h.cw.Nz t.1).2;omega
  ·intro u ts n h;have hb:Below u.heap.size u (u.drewN n):=aap (aak _ _) n;exact⟨h.wr.drewN n,h.cw.below hb,h.fr.drewN n,h.told.below hb,h.len⟩
 rw[e1];refine (jw 243 _ ao cap l _ hd w h0 hl h6).mono ?_;rintro e u ⟨rfl,h⟩;exact⟨rfl,h.wr,h.fr⟩
def cW (nl:List Int)(ts:List (Nat×Nat)):Int:=(ts.map (fun t=>nl.getD t.1 0+(Rf.lp t:Nat))).sum
theorem zv (nl:List Int)(ts:List (Nat×Nat))(t:Nat×Nat):cW nl (ts++[t])=cW nl ts+(nl.getD t.1 0+(Rf.lp t:Nat)):=by simp[cW]
theorem oZ (nl:List Int)(h:∀j,0<=nl.getD j 0):∀ts,((Rf.aS (Rf.a8 nl) ts).length:Int)=cW nl ts
 | []=>by simp[Rf.aS,cW]
 | t::r=>by
  have ih:=oZ nl h r;rw[Rf.aS];simp only[aac,Rf.bV,Rf.aF];have:cW nl (t::r)=(nl.getD t.1 0+(Rf.lp t:Nat))+cW nl r:=by simp[cW]
  rw[this,<-ih];have:=h t.1;omega
theorem o6 (nl:List Int):∀(f s:Nat),Rf.cE nl s (f+1)=Rf.cE nl s f++Rf.nb (nl.getD (Rf.order.getD (s+f) 0) 0).toNat 3
 | 0,s=>by simp[Rf.cE]
 | f+1,s=>by
  rw[Rf.cE,o6 nl f (s+1)]
  conv=>rhs;rw[Rf.cE]
  rw[aaq,show s+1+f=s+(f+1) by omega]
def cC (ls ds:List Int)(N1 N2:Nat):List Nat:=(ls.take (trimF ls 257 N1)++ds.take (trimF ds 1 N2)).map Int.toNat
theorem kn (ls ds:List Int)(N1 N2:Nat)(h1:∀j,0<=ls.getD j 0)(h2:∀j,0<=ds.getD j 0):mb (cC ls ds N1 N2)=ls.take (trimF ls 257 N1)++ds.take (trimF ds 1 N2):=by
 unfold cC mb;rw[List.map_map]
 have:∀x∈ls.take (trimF ls 257 N1)++ds.take (trimF ds 1 N2),((fun (x:Nat)=>(x:Int))∘Int.toNat) x=id x:=fun x hx=>by
  have h0:0<=x:=by
   rcases aa8.1 hx with q|q
   ·obtain⟨j,hj,rfl⟩:=abU (acb q);have:=h1 j
    rwa [aaa,aai hj]at this
   ·obtain⟨j,hj,rfl⟩:=abU (acb q);have:=h2 j
    rwa [aaa,aai hj]at this
  simp only[Function.comp,id];omega
 rw[abn this,List.map_id]
theorem iu (ls ds:List Int)(N1 N2:Nat)(h1:ls.length=N1)(h2:ds.length=N2):(cC ls ds N1 N2).length=trimF ls 257 N1+trimF ds 1 N2:=by
 have a:=bj ls 257 N1;have b:=bj ds 1 N2;simp[cC];omega
theorem mg (ls ds:List Int)(N1 N2:Nat)(h1:∀j,ls.getD j 0<=15)(h2:∀j,ds.getD j 0<=15):∀x∈cC ls ds N1 N2,x<=15:=by
 intro x hx;obtain⟨y,hy,rfl⟩:=List.mem_map.1 hx
 have:y<=15:=by
  rcases aa8.1 hy with q|q
  ·obtain⟨j,hj,rfl⟩:=abU (acb q);have:=h1 j
   rwa [aaa,aai hj]at this
  ·obtain⟨j,hj,rfl⟩:=abU (acb q);have:=h2 j
   rwa [aaa,aai hj]at this
 omega
theorem sU {w:World}{base B n:Nat}{v:Value}{l:List Nat}(h:w.ownsRow base 3 1 v n (vals (mb l)))(hl:l.length=n)(hB:B<base):∃ao cap,v=.slice ao n cap/\Told w B ao l:=by
 rcases h.2 with⟨rfl,h0⟩|⟨g,cap,cur,rfl,hb,hg,hnc,hcm,hcs,htake⟩
 ·exact⟨_,_,by rw[h0],fun hn=>absurd (aau (by omega)) hn⟩
 ·refine⟨_,_,rfl,fun _=>⟨g,cur,(0,0),rfl,by omega,hg,fun j hj=>?_⟩⟩
  have q:(cur.toList.take (n*1))[j]?=some (.int .i64 (l.getD j 0:Nat)):=by
   rw[htake,vals,mb,abk,abk,aai hj,aaa,aai hj];rfl
  rw[abx,aaf (by omega)]at q;rw[<-Array.getElem?_toList];exact q
structure iK (w:World) (G1 G2 G3 N1 N2:Nat) (ls ds nl:List Int):Prop where
 s:aR w G1 ls
 d:aR w G2 ds
 n:aR w G3 nl
 l1:ls.length=N1
 l2:ds.length=N2
 l3:nl.length=19
 g1:257<=N1/\N1<=286
 g2:1<=N2/\N2<=30
 r1:∀j,0<=ls.getD j 0/\ls.getD j 0<=15
 r2:∀j,0<=ds.getD j 0/\ds.getD j 0<=15
 r3:∀j,0<=nl.getD j 0/\nl.getD j 0<=7
 full:Rf.fs nl nl.length<=32768
theorem iK.below {w w':World}{G1 G2 G3 N1 N2:Nat}{ls ds nl:List Int}(h:iK w G1 G2 G3 N1 N2 ls ds nl)(k:Below w.heap.size w w'):iK w' G1 G2 G3 N1 N2 ls ds nl :=
 ⟨h.s.keep k,h.d.keep k,h.n.keep k,h.l1,h.l2,h.l3,h.g1,h.g2,h.r1,h.r2,h.r3,h.full⟩
theorem iK.fr {w w':World}{B G1 G2 G3 N1 N2:Nat}{ls ds nl:List Int}(h:iK w G1 G2 G3 N1 N2 ls ds nl)(k:Fr B w w')(hB:w.heap[B]?≠none->∃cs,w.heap[B]?=some (.cells cs 181 (0,0))):iK w' G1 G2 G3 N1 N2 ls ds nl:=by
 have key:∀g zs,aR w g zs->aR w' g zs:=fun g zs hz=>by
  have hne:g≠B:=fun e=>by
   subst e;obtain⟨cs,hcs⟩:=hB (by rw[show w.heap[g]?=_ from hz];simp);rw[show w.heap[g]?=_ from hz]at hcs;simp at hcs
  exact (k.kept hne hz (by decide)).trans hz
 exact⟨key _ _ h.s,key _ _ h.d,key _ _ h.n,h.l1,h.l2,h.l3,h.g1,h.g2,h.r1,h.r2,h.r3,h.full⟩
theorem aB.box {w:World}{B:Nat}{W:List Int}(h:aB w B W):w.heap[B]?≠none->∃cs,w.heap[B]?=some (.cells cs 181 (0,0)):=fun _=>by
 obtain⟨pv,P,h⟩:=h;exact⟨_,h.blk⟩
theorem iL {B:Nat}{w w':World}(hB:B<w.heap.size)(k:Below w.heap.size w w'):Fr B w w':=⟨k.mono (aaI hB),fun j _ hj _=>k.block j hj⟩
theorem IB (G1 G2 G3 N1 N2 B:Nat)(ls ds nl W:List Int)(w:World)(h:iK w G1 G2 G3 N1 N2 ls ds nl)(hw:aB w B W)(hW:W.length<=90000000): Calls Tryz.prog 220 #[sR (.slice (some ⟨G1,0,none⟩) N1 N1) (.slice (some ⟨G2,0,none⟩) N2 N2) (.slice (some ⟨G3,0,none⟩) 19 19),.pointer (some ⟨B,0,none⟩)] w fun e w' =>
   e=.returned (.tuple #[])/\aB w' B (W++Rf.dJ (trimF ls 257 N1-257) (trimF ds 1 N2-1) (trimF (cJ nl 19) 4 19) nl (E (cC ls ds N1 N2)))/\Fr B w w':=by
 have hB:=hw.lt;have kT:=ag w (.cells #[.slice (some ⟨G1,0,none⟩) N1 N1,.slice (some ⟨G2,0,none⟩) N2 N2,.slice (some ⟨G3,0,none⟩) 19 19] 246);have a1:=bj ls 257 N1;have a2:=gP ls 257 N1 h.g1.1;have b1:=bj ds 1 N2;have b2:=gP ds 1 N2 h.g2.1;have c1:=bj (cJ nl 19) 4 19;have c2:=gP (cJ nl 19) 4 19 (by omega);have gg1:=h.g1.2;have gg2:=h.g2.2;have hcnt:=vK ls ds N1 N2 N1 N2 (some ⟨G1,0,none⟩) (some ⟨G2,0,none⟩) _ (some ⟨G3,0,none⟩) 19 19 rfl (w.alloc (.cells #[.slice (some ⟨G1,0,none⟩) N1 N1,.slice (some ⟨G2,0,none⟩) N2 N2,.slice (some ⟨G3,0,none⟩) 19 19] 246)) h.l1 h.l2 (by omega) (by omega) (h.below kT).s.ints (h.below kT).d.ints (fun a e _=>by cases e;exact aab (h.below kT).s) (fun a e _=>by cases e;exact aab (h.below kT).d);have HA:Hid (∃X,X=trimF ls 257 N1):=⟨_,rfl⟩
 have hfin:∀X Y Z:Nat,X=trimF ls 257 N1->Y=trimF ds 1 N2->Z=trimF (cJ nl 19) 4 19->W++Rf.dJ (trimF ls 257 N1-257) (trimF ds 1 N2-1) (trimF (cJ nl 19) 4 19) nl (E (cC ls ds N1 N2))=((((W++Rf.nb (X-257) 5)++Rf.nb (Y-1) 5)++Rf.nb (Z-4) 4)++Rf.cE nl 0 Z)++Rf.aS (Rf.a8 nl) (E (cC ls ds N1 N2)):=fun X Y Z e1 e2 e3=>by
  subst e1 e2 e3;simp only[Rf.dJ,aaq]
 have hcn:=fun (u:World) (hu:Below w.heap.size w u)=>mf nl G3 (some ⟨G1,0,none⟩) (some ⟨G2,0,none⟩) N1 N1 N2 N2 u h.l3 ((hu.block _ (aab h.n)).trans h.n);have eH:Hid (∀X Y Z:Nat,_):=hfin;have IC:Hid (iK w G1 G2 G3 N1 N2 ls ds nl):=h;generalize hX:trimF ls 257 N1=X at *;generalize hY:trimF ds 1 N2=Y at *;generalize hZ:trimF (cJ nl 19) 4 19=Z at *;have SW:Hid (trimF ls 257 N1=X/\trimF ds 1 N2=Y/\trimF (cJ nl 19) 4 19=Z):=⟨hX,hY,hZ⟩
 clear hfin HA hX hY hZ h
 go_enter Tryz.func220,Tryz.ntmps220
 go_wp2_with fail;refine hcnt.mono ?_;rintro e w1 ⟨rfl,hb1⟩;have LY:Below w.heap.size w w1:=kT.trans (hb1.mono (by simp));have ol:w1.heap[w.heap.size]?=some (.cells #[.slice (some ⟨G1,0,none⟩) N1 N1,.slice (some ⟨G2,0,none⟩) N2 N2,.slice (some ⟨G3,0,none⟩) 19 19] 246 (0,0)):=(hb1.block _ (by simp)).trans (ak w _);obtain⟨x0,x1,x2,fz,hlt1⟩:=cells3 ol;clear hcnt hb1 kT;go_wp2_with fail;refine (hcn w1 LY).mono ?_;rintro e w2 ⟨rfl,hb2⟩;have hbw2:Below w.heap.size w w2:=LY.trans (hb2.mono LY.size);have sV:=(hb2.block _ hlt1).trans ol;clear x0 x1 x2 fz hcn ol;have hw2:aB w2 B W:=hw.below hbw2;have eX:(X:Int)-257=((X-257:Nat):Int):=by omega
 have eY:(Y:Int)-1=((Y-1:Nat):Int):=by omega
 have eZ:(Z:Int)-4=((Z-4:Nat):Int):=by omega
 have n1:=dX ((X-257:Nat):Int) 5 B W w2 hw2 (by omega) (by omega);rw[fj]at n1;go_wp2_with fail;refine n1.mono ?_;rintro e w3 ⟨rfl,hw3,f3⟩;have n2:=dX ((Y-1:Nat):Int) 5 B _ w3 hw3 (by omega) (by rw[aac,Rf.aF];omega);rw[fj]at n2;go_wp2_with fail;refine n2.mono ?_;rintro e w4 ⟨rfl,hw4,f4⟩;have n3:=dX ((Z-4:Nat):Int) 4 B _ w4 hw4 (by omega) (by rw[aac,aac,Rf.aF,Rf.aF];omega);rw[fj]at n3;go_wp2_with fail;refine n3.mono ?_;rintro e w5 ⟨rfl,Xc,f5⟩;have F5:Fr B w2 w5:=(f3.trans f4).trans f5;clear n1 n2 n3 hw3 hw4 f3 f4 f5;go_wp2_with fail;refine (xg _).mono ?_;rintro e w6 ⟨O,rfl,VP,hO2,hall,hb6⟩;have SX:(Tryz.prog.info? 233).map (·.size)=some O.size:=by rw[VP];exact Bg
 go_wp2_with (refine wpList_store_row rfl 233 _ _ rfl w6.heap.size O rfl (by rfl) 233 sH (ak w6 _) SX VP.symm hall ?_);have hOb:((w6.alloc (.cells sH 233)).setRow w6.heap.size O).heap[w6.heap.size]?=some (.cells O 233 (0,0)):=setRow_heap _ w6.heap.size _ _ 233 _ (ak w6 _);have BA:Below w6.heap.size w6 ((w6.alloc (.cells sH 233)).setRow w6.heap.size O):=below_setRow (ag w6 _) (aad _) _;generalize ((w6.alloc (.cells sH 233)).setRow w6.heap.size O)=w7 at *;have uK:Below w5.heap.size w5 w7:=hb6.trans (BA.mono hb6.size);have Fc:B<w5.heap.size:=Xc.lt;have hw7:aB w7 B (((W++Rf.nb (X-257) 5)++Rf.nb (Y-1) 5)++Rf.nb (Z-4) 4):=Xc.below uK;have ZP:Fr B w w5:=(iL hB hbw2).trans F5;have F7:Fr B w w7:=ZP.trans (iL Fc uK);have Pn:w.heap.size≠B:=by omega
 have Po:w5.heap[w.heap.size]?=some (.cells #[.slice (some ⟨G1,0,none⟩) N1 N1,.slice (some ⟨G2,0,none⟩) N2 N2,.slice (some ⟨G3,0,none⟩) 19 19] 246 (0,0)):=(F5.kept Pn sV (by decide)).trans sV;have SZ:w7.heap[w.heap.size]?=some (.cells #[.slice (some ⟨G1,0,none⟩) N1 N1,.slice (some ⟨G2,0,none⟩) N2 N2,.slice (some ⟨G3,0,none⟩) 19 19] 246 (0,0)):=(uK.block _ (aab Po)).trans Po;have NM:iK w7 G1 G2 G3 N1 N2 ls ds nl:=IC.out.fr F7 hw.box;have hK7:w6.heap.size≠B:=by have:=hb6.size;omega
 have Xd:(Z:Int)<=19:=by omega
 have ZQ:Hid (aB w7 B ((((W++Rf.nb (X-257) 5)++Rf.nb (Y-1) 5)++Rf.nb (Z-4) 4)++Rf.cE nl 0 0)/\Fr B w w7):=⟨by simpa[Rf.cE]using hw7,F7⟩
 generalize hW3:(((W++Rf.nb (X-257) 5)++Rf.nb (Y-1) 5)++Rf.nb (Z-4) 4)=W3 at *;have ac1:W3.length<=90000014:=by rw[<-hW3];simp only[aac,Rf.aF];omega
 have HW3:Hid ((((W++Rf.nb (X-257) 5)++Rf.nb (Y-1) 5)++Rf.nb (Z-4) 4)=W3):=hW3;have ZR:Hid (w7.heap[w.heap.size]?=_/\w7.heap[w6.heap.size]?=_/\iK w7 G1 G2 G3 N1 N2 ls ds nl):=⟨SZ,hOb,NM⟩
 generalize w6.heap.size=K7 at *;clear hW3 hw7 F7 ZP Po SZ NM hOb BA uK Xc F5 sV hb6 hw2 hbw2 LY hb2 SX hall VP
 have hsl:∀u:World,(Instr.sliceAt 233 (.pointer (some ⟨K7,0,none⟩)) none (some (.int .i64 (Z:Int))) none).run Tryz.prog u=.ok (.slice (some ⟨K7,0,none⟩) Z 19) u:=fun u=>by
  obtain⟨i0,hi,hz0,hz1,hz2⟩:=aaX Tryz.info3;have hz0':(0:Int)<=(Z:Int):=by omega
  simp[Instr.sliceAt,Instr.sureAddr,run_underlying Tryz.underlying233,Instr.sliceBounds,run_sliceBound,sizeOf,typeInfo,hi,Xd,hz0',go_sem]
 rw[hsl];clear hsl;go_wp2
 go_loopw [33] (fun iv wr=>∃i:Nat,i<=Z/\iv=.int .i64 i/\Hid (aB wr B (W3++Rf.cE nl 0 i)/\Fr B w wr)/\Hid (wr.heap[w.heap.size]?=some (.cells #[.slice (some ⟨G1,0,none⟩) N1 N1,.slice (some ⟨G2,0,none⟩) N2 N2,.slice (some ⟨G3,0,none⟩) 19 19] 246 (0,0))/\wr.heap[K7]?=some (.cells O 233 (0,0))/\iK wr G1 G2 G3 N1 N2 ls ds nl)) (fun iv _=>Z-(intOf iv).toNat)
 case atStart=>exact⟨0,aaj _,rfl,ZQ,ZR⟩
 case round =>
  clear ZQ ZR;obtain⟨i,hi,rfl,HS,HM⟩:=hrel;obtain⟨x0,x1,x2,fz,Pj⟩:=cells3 HM.out.1;by_cases hiz:i<Z
  ·have hol:=Rf.oK i;have co:wr.cell? ⟨K7,i,none⟩=some (.int .i64 ((Rf.order.getD i 0:Nat):Int)):=(d8 HM.out.2.1 i).trans (hO2 i (by omega));have cn:=HM.out.2.2.n.at_ (Rf.order.getD i 0) (by have:=HM.out.2.2.l3;omega);have hr3:=HM.out.2.2.r3 (Rf.order.getD i 0);have hsn:=o6 nl i 0;rw[aaF]at hsn;have d9:=dX (nl.getD (Rf.order.getD i 0) 0) 3 B (W3++Rf.cE nl 0 i) wr HS.out.1 (by omega) (by rw[aac,Rf.dq];omega)
   have HSN:Hid ((W3++Rf.cE nl 0 i)++xb (nl.getD (Rf.order.getD i 0) 0) 3=W3++Rf.cE nl 0 (i+1)):=by
    show _=_;rw[hsn,aaq,<-fj,show (((nl.getD (Rf.order.getD i 0) 0).toNat:Nat):Int)=nl.getD (Rf.order.getD i 0) 0 by omega]
   generalize nl.getD (Rf.order.getD i 0) 0=y at *;generalize Rf.order.getD i 0=q at *;have hq:(q:Int)<19:=by omega
   clear hsn;go_wp2_with fail;refine d9.mono ?_;rintro e w8 ⟨rfl,hw8,f8⟩;rw[HSN.out]at hw8;have HM8:Hid (w8.heap[w.heap.size]?=some (.cells #[.slice (some ⟨G1,0,none⟩) N1 N1,.slice (some ⟨G2,0,none⟩) N2 N2,.slice (some ⟨G3,0,none⟩) 19 19] 246 (0,0))/\w8.heap[K7]?=some (.cells O 233 (0,0))/\iK w8 G1 G2 G3 N1 N2 ls ds nl):=⟨(f8.kept Pn HM.out.1 (by decide)).trans HM.out.1,(f8.kept hK7 HM.out.2.1 (by decide)).trans HM.out.2.1,HM.out.2.2.fr f8 HS.out.1.box⟩
   have HS8:Hid (aB w8 B (W3++Rf.cE nl 0 (i+1))/\Fr B w w8):=⟨hw8,HS.out.2.trans f8⟩
   clear hw8 f8 d9 HS HM co cn x0 x1 x2 fz Pj;go_wp2
   go_roundw
   case rel=>exact⟨i+1,by omega,by go_num,HS8,HM8⟩
   case measure=>simp[intOf];omega
  ·have ei:i=Z:=by omega
   subst ei
   have eW:∀u:World,u.heap[w.heap.size]?=some (.cells #[.slice (some ⟨G1,0,none⟩) N1 N1,.slice (some ⟨G2,0,none⟩) N2 N2,.slice (some ⟨G3,0,none⟩) 19 19] 246 (0,0))->u.cell? ⟨w.heap.size,0,none⟩=some (.slice (some ⟨G1,0,none⟩) N1 N1)/\u.cell? ⟨w.heap.size,1,none⟩=some (.slice (some ⟨G2,0,none⟩) N2 N2)/\u.cell? ⟨w.heap.size,2,none⟩=some (.slice (some ⟨G3,0,none⟩) 19 19):=fun u hu=>by
    obtain⟨z0,z1,z2,_⟩:=cells3 hu;exact⟨z0,z1,z2⟩
   have Xe:wr.drew.heap[w.heap.size]?=some (.cells #[.slice (some ⟨G1,0,none⟩) N1 N1,.slice (some ⟨G2,0,none⟩) N2 N2,.slice (some ⟨G3,0,none⟩) 19 19] 246 (0,0)):=HM.out.1;have hS:=eW _ Xe;have tb:=HM.out.2.2;have hrd:Below wr.heap.size wr wr.drew:=⟨rfl,rfl,rfl,aad _,fun _ _=>rfl⟩
   have Xg:=tb.below hrd;have hwd:=HS.out.1.below hrd;have hBr:=HS.out.1.lt;have htold:=xq ls ds G1 G2 N1 N2 (some ⟨G3,0,none⟩) 19 19 wr.drew tb.l1 tb.l2 (by omega) (by omega) tb.g1.1 tb.g2.1 Xg.s Xg.d;have hti:=kn ls ds N1 N2 (fun j=>(tb.r1 j).1) (fun j=>(tb.r2 j).1);have htl:=iu ls ds N1 N2 tb.l1 tb.l2;have hte:=mg ls ds N1 N2 (fun j=>(tb.r1 j).2) (fun j=>(tb.r2 j).2);rw[<-hti,<-htl]at htold;rw[SW.out.1,SW.out.2.1]at htl;have OT:Hid ((cC ls ds N1 N2).length=X+Y):=htl;clear htl;have hlb:=Rf.dq nl i 0;go_wp2;refine aE (fun w'=>w'.cell? ⟨w.heap.size,0,none⟩=some (.slice (some ⟨G1,0,none⟩) N1 N1)/\w'.cell? ⟨w.heap.size,1,none⟩=some (.slice (some ⟨G2,0,none⟩) N2 N2)/\w'.cell? ⟨w.heap.size,2,none⟩=some (.slice (some ⟨G3,0,none⟩) 19 19)) 999 ?_;refine am [0] ?_
   iterate 1 (refine ay hS ?_;try simp only[Act.put])
   refine aj ?_;refine am [2,3,4] ?_
   iterate 3 (refine ay hS ?_;try simp only[Act.put])
   refine aj ?_;refine ai 1 fun K hK=>?_;go_simp;refine htold.mono ?_;rintro e w8 ⟨v8,rfl,ho8,GZ⟩;obtain⟨ta,tc,rfl,Wp⟩:=sU (B:=B) ho8 rfl hBr;have Xh:=(GZ.block _ (aab Xe)).trans Xe;refine hK _ _ (fun _=>eW _ Xh) ?_;clear hK K;have ZS:=Xg.below GZ;have hw8:=hwd.below GZ;have hcw:=js B (some ⟨G3,0,none⟩) 19 nl 19 w8 tb.l3 (by omega) ZS.n.ints (fun a e _=>by cases e;exact aab ZS.n) (fun j=>by have:=tb.r3 j;omega) tb.full hw8.lt;refine ai 5 fun K hK=>?_;go_simp;refine hcw.mono ?_;rintro e w9 ⟨fv,rfl,hc9,VQ⟩;have Xi:=(VQ.block _ (aab Xh)).trans Xh;refine hK _ _ (fun _=>eW _ Xi) ?_;clear hK K;have ZT:=hw8.below VQ;have KH:=xt B (W3++Rf.cE nl 0 i) nl fv ta tc (cC ls ds N1 N2) w9 (by rw[aac,hlb];omega) tb.l3 ZT (hc9.weak (aaj _)) (Wp.below VQ) hte (by have:=OT.out;omega);refine ai 6 fun K hK=>?_;go_simp;refine KH.mono ?_;rintro e S8 ⟨rfl,Xj,f10⟩;have Xk:=(f10.kept Pn Xi (by decide)).trans Xi;refine hK _ _ (fun _=>eW _ Xk) ?_;clear hK K;refine ar ?_;have F10:Fr B w S8:=((HS.out.2.trans (iL hBr hrd)).trans (iL hwd.lt GZ)).trans ((iL hw8.lt VQ).trans f10);go_wp2
   go_end0
   refine⟨rfl,?_,F10⟩;have:=eH.out X Y i rfl rfl rfl;rw[this,HW3.out];exact Xj
theorem p7 (nl:List Int)(h:∀j,0<=nl.getD j 0/\nl.getD j 0<=7):∀ts:List (Nat×Nat),0<=cW nl ts/\cW nl ts<=14*ts.length
 | []=>by simp[cW]
 | t::r=>by
  have ih:=p7 nl h r;have:=h t.1;have htk:=Bv t;have e:cW nl (t::r)=(nl.getD t.1 0+(Rf.lp t:Nat))+cW nl r:=by simp[cW]
  rw[e,aao];omega
structure sW (S Tb G1 G2 G3 N1 N2:Nat) (nl:List Int) (c0:Int) (ao:Option Addr) (l:List Nat) (b0:Nat) (w0 w:World) (ts:List (Nat×Nat)):Prop where
 sum:w.heap[S]?=some (.cells #[.int .i64 (c0+cW nl ts)] 3 (0,0))
 box:w.heap[Tb]?=some (.cells #[.slice (some ⟨G1,0,none⟩) N1 N1,.slice (some ⟨G2,0,none⟩) N2 N2,.slice (some ⟨G3,0,none⟩) 19 19] 246 (0,0))
 n:aR w G3 nl
 be:Below b0 w0 w
 told:Told w S ao l
 ne:Tb≠S/\G3≠S/\b0<=S
theorem sW.next {S Tb G1 G2 G3 N1 N2:Nat}{nl:List Int}{c0:Int}{ao:Option Addr}{l:List Nat}{b0:Nat}{w0 w:World}{ts:List (Nat×Nat)}(h:sW S Tb G1 G2 G3 N1 N2 nl c0 ao l b0 w0 w ts)(t:Nat×Nat)(v:Int)(hv:v=c0+cW nl (ts++[t])): sW S Tb G1 G2 G3 N1 N2 nl c0 ao l b0 w0 (w.setCell ⟨S,0,none⟩ (.int .i64 v)) (ts++[t]):=by
 obtain⟨n1,n2,n3⟩:=h.ne;refine⟨?_,(aag w ⟨S,0,none⟩ _ Tb n1).trans h.box,(aag w ⟨S,0,none⟩ _ G3 n2).trans h.n,h.be.setCell (p:=⟨S,0,none⟩) n3 _,fun hn=>?_,h.ne⟩
 ·rw[hv];exact one_set h.sum _
 ·obtain⟨g,cs,fr,e,h1,h2,h3⟩:=h.told hn;exact⟨g,cs,fr,e,h1,(aag w ⟨S,0,none⟩ _ g h1).trans h2,h3⟩
theorem Pp (S Tb G1 G2 G3 N1 N2:Nat)(nl:List Int)(c0:Int)(ao:Option Addr)(l:List Nat)(b0:Nat)(w0 w:World)(ts:List (Nat×Nat))(t:Nat×Nat)(h:sW S Tb G1 G2 G3 N1 N2 nl c0 ao l b0 w0 w ts)(hts:ts.length<700)(h18:t.1<=18)(h19:nl.length=19)(hr:∀j,0<=nl.getD j 0/\nl.getD j 0<=7)(hc:0<=c0/\c0<=100000): Calls Tryz.prog 238 #[.int .i64 t.1,.int .i64 t.2,.int .i64 (Rf.lp t),.pointer (some ⟨S,0,none⟩),.pointer (some ⟨Tb,0,none⟩)] w fun e w'=>e=.returned (.tuple #[])/\sW S Tb G1 G2 G3 N1 N2 nl c0 ao l b0 w0 w' (ts++[t]):=by
 have hb1:Below w.heap.size w w.drew:=⟨rfl,rfl,rfl,aad _,fun _ _=>rfl⟩
 have hlS:=aab h.sum;have h1:sW S Tb G1 G2 G3 N1 N2 nl c0 ao l b0 w0 w.drew ts:=⟨h.sum,h.box,h.n,h.be.trans (hb1.mono (by have:=h.ne;omega)),h.told.below hb1,h.ne⟩
 clear h hb1 hlS;generalize hwd:w.drew=wd at *;obtain⟨x0,x1,x2,fz,ba⟩:=cells3 h1.box;obtain⟨s0,sz,sl⟩:=one_cell h1.sum;have cn:=h1.n.at_ t.1 (by omega);have hle:=p7 nl hr ts;have hrt:=hr t.1;have htk:=Bv t;have HN:Hid (∀v:Int,v=c0+cW nl ts+(nl.getD t.1 0+(Rf.lp t:Nat))->sW S Tb G1 G2 G3 N1 N2 nl c0 ao l b0 w0 (wd.setCell ⟨S,0,none⟩ (.int .i64 v)) (ts++[t])):=fun v hv=>h1.next t v (by rw[hv,zv];omega);generalize nl.getD t.1 0=y at *;generalize hk:Rf.lp t=k at *;generalize hq:t.1=q at *;generalize cW nl ts=z at *;obtain⟨c,hcz⟩:∃c,c0+z=c:=⟨_,rfl⟩
 rw[hcz]at s0 HN;have hcb:0<=c/\c<=110000:=by omega
 have Xl:(q:Int)<19:=by omega
 clear h1 hk hq hcz hle hc x0 x1;have hS:wd.cell? ⟨S,0,none⟩=some (.int .i64 c)/\wd.cell? ⟨Tb,2,none⟩=some (.slice (some ⟨G3,0,none⟩) 19 19)/\wd.cell? ⟨G3,q,none⟩=some (.int .i64 y):=⟨s0,x2,cn⟩
 go_enter Tryz.func238,Tryz.ntmps238
 go_wp2;refine aE (fun w'=>w'.cell? ⟨S,0,none⟩=some (.int .i64 c)/\w'.cell? ⟨Tb,2,none⟩=some (.slice (some ⟨G3,0,none⟩) 19 19)/\w'.cell? ⟨G3,q,none⟩=some (.int .i64 y)) 9 ?_;rw[hwd];refine am [0,1,2,3,4,5,6,7,8] ?_
 iterate 9 (refine ay hS ?_;try simp only[Act.put])
 refine aj ?_;refine ai 9 fun K hK=>?_;go_simp;refine hK _ _ (fun h=>absurd rfl h) ?_;clear hK K;refine ar ?_;go_wp2
 go_end0
 exact⟨rfl,HN.out _ (by rw[IntKind.wrap_i64,IntKind.wrap_i64];omega)⟩
theorem LZ (args:Array Value)(w:World):(callFunc 238 args).run Tryz.prog w=.ok (.enter 238 args) w:=by kernel_rfl
theorem zw (S Tb G1 G2 G3 N1 N2:Nat)(nl:List Int)(c0:Int)(ao:Option Addr)(cap:Nat)(l:List Nat)(b0:Nat)(w0 w:World)(h:sW S Tb G1 G2 G3 N1 N2 nl c0 ao l b0 w0 w [])(h19:nl.length=19)(hr:∀j,0<=nl.getD j 0/\nl.getD j 0<=7)(hc:0<=c0/\c0<=100000)(hl:∀x∈l,x<=15)(h6:l.length<=600): Calls Tryz.prog 234 #[.slice ao l.length cap,.func (.func 238) #[] #[.pointer (some ⟨S,0,none⟩),.pointer (some ⟨Tb,0,none⟩)]] w fun e w'=>e=.returned (.tuple #[])/\sW S Tb G1 G2 G3 N1 N2 nl c0 ao l b0 w0 w' (E l):=by
 refine jw 238 _ ao cap l (sW S Tb G1 G2 G3 N1 N2 nl c0 ao l b0 w0) ⟨?_,LZ,?_,fun u ts h=>h.told.ints⟩ w h hl h6
 ·intro u ts t h hts h18 hx;exact Pp S Tb G1 G2 G3 N1 N2 nl c0 ao l b0 w0 u ts t h hts h18 h19 hr hc
 ·intro u ts n h;have hb:Below u.heap.size u (u.drewN n):=aap (aak _ _) n;exact⟨h.sum,h.box,h.n,aap h.be n,h.told.below hb,h.ne⟩
theorem L0 (G1 G2 G3 N1 N2:Nat)(ls ds nl:List Int)(w:World)(h:iK w G1 G2 G3 N1 N2 ls ds nl): Calls Tryz.prog 218 #[sR (.slice (some ⟨G1,0,none⟩) N1 N1) (.slice (some ⟨G2,0,none⟩) N2 N2) (.slice (some ⟨G3,0,none⟩) 19 19)] w fun e w' =>
   e=.returned (.int .i64 (14+3*(trimF (cJ nl 19) 4 19:Nat)+cW nl (E (cC ls ds N1 N2))))/\Below w.heap.size w w':=by
 have c1:=bj (cJ nl 19) 4 19;have hcn:=fun (u:World) (hu:Below w.heap.size w u)=>mf nl G3 (some ⟨G1,0,none⟩) (some ⟨G2,0,none⟩) N1 N1 N2 N2 u h.l3 ((hu.block _ (aab h.n)).trans h.n);have IC:Hid (iK w G1 G2 G3 N1 N2 ls ds nl):=h;generalize trimF (cJ nl 19) 4 19=Z at *;clear h
 go_enter Tryz.func218,Tryz.ntmps218
 go_wp2_with fail;have kT:=ag w (.cells #[.slice (some ⟨G1,0,none⟩) N1 N1,.slice (some ⟨G2,0,none⟩) N2 N2,.slice (some ⟨G3,0,none⟩) 19 19] 246);refine (hcn _ kT).mono ?_;rintro e w2 ⟨rfl,hb2⟩;have hbw2:Below w.heap.size w w2:=kT.trans (hb2.mono (by simp));have sV:w2.heap[w.heap.size]?=some (.cells #[.slice (some ⟨G1,0,none⟩) N1 N1,.slice (some ⟨G2,0,none⟩) N2 N2,.slice (some ⟨G3,0,none⟩) 19 19] 246 (0,0)):=(hb2.block _ (by simp)).trans (ak w _);obtain⟨x0,x1,x2,fz,hlt1⟩:=cells3 sV;clear hcn hb2 kT;go_wp2_with fail;have tb:=IC.out;have kS:=ag w2 (.cells #[.int .i64 (14+3*(Z:Int))] 3);have Pq:Below w.heap.size w (w2.alloc (.cells #[.int .i64 (14+3*(Z:Int))] 3)):=hbw2.trans (kS.mono hbw2.size);have ZU:(w2.alloc (.cells #[.int .i64 (14+3*(Z:Int))] 3)).heap[w2.heap.size]?=some (.cells #[.int .i64 (14+3*(Z:Int))] 3 (0,0)):=ak w2 _;have Xn:(w2.alloc (.cells #[.int .i64 (14+3*(Z:Int))] 3)).heap[w.heap.size]?=some (.cells #[.slice (some ⟨G1,0,none⟩) N1 N1,.slice (some ⟨G2,0,none⟩) N2 N2,.slice (some ⟨G3,0,none⟩) 19 19] 246 (0,0)):=aw sV _;have hs3:w2.heap.size<(w2.alloc (.cells #[.int .i64 (14+3*(Z:Int))] 3)).heap.size:=by simp
 have VR:=tb.below Pq;have hG3:=aab tb.n;clear x0 x1 x2 fz kS sV;generalize hw3:(w2.alloc (.cells #[.int .i64 (14+3*(Z:Int))] 3))=w3 at *;have gg1:=tb.g1.2;have gg2:=tb.g2.2;have htold:=xq ls ds G1 G2 N1 N2 (some ⟨G3,0,none⟩) 19 19 w3 tb.l1 tb.l2 (by omega) (by omega) tb.g1.1 tb.g2.1 VR.s VR.d;have hti:=kn ls ds N1 N2 (fun j=>(tb.r1 j).1) (fun j=>(tb.r2 j).1);have htl:=iu ls ds N1 N2 tb.l1 tb.l2;have hte:=mg ls ds N1 N2 (fun j=>(tb.r1 j).2) (fun j=>(tb.r2 j).2);have a1:=bj ls 257 N1;have b1:=bj ds 1 N2;have htn:Hid ((cC ls ds N1 N2).length<=600):=by show _<=_;omega
 rw[<-hti,<-htl]at htold;clear htl hti a1 b1;refine htold.mono ?_;rintro e w4 ⟨v4,rfl,Gw,hb4⟩;obtain⟨ta,tc,rfl,Nr⟩:=sU (B:=w2.heap.size) Gw rfl hs3
 have si:sW w2.heap.size w.heap.size G1 G2 G3 N1 N2 nl (14+3*(Z:Int)) ta (cC ls ds N1 N2) w.heap.size w w4 [] :=
  ⟨by rw[show (14+3*(Z:Int))+cW nl []=14+3*(Z:Int) by simp[cW]];exact (hb4.block _ hs3).trans ZU,(hb4.block _ (aab Xn)).trans Xn,(VR.below hb4).n,Pq.trans (hb4.mono Pq.size),Nr,by omega,by omega,hbw2.size⟩
 have hls:=zw w2.heap.size w.heap.size G1 G2 G3 N1 N2 nl (14+3*(Z:Int)) ta tc (cC ls ds N1 N2) w.heap.size w w4 si tb.l3 tb.r3 (by omega) hte htn.out;generalize w2.heap.size=S at *;clear Nr Gw hb4 ZU Xn si VR tb;go_wp2_with fail;refine hls.mono ?_;rintro e w5 ⟨rfl,h5⟩;obtain⟨s0,sz,sl⟩:=one_cell h5.sum;have HB5:=h5.be;go_wp2
 go_ret
 exact⟨rfl,HB5⟩
def Fi (t:Nat×Nat):Tok:=(false,t.1,0,0)
def jK (ts:List (Nat×Nat)):List Int:=eF 19 false (ts.map Fi)
theorem Fj (ts:List (Nat×Nat))(t:Nat×Nat):jK (ts++[t])=(jK ts).set t.1 ((jK ts).getD t.1 0+1):=by
 unfold jK;rw[abo];exact sI 19 false (ts.map Fi) t.1 0 0
theorem qL (ts:List (Nat×Nat)):(jK ts).length=19:=dZ _ _ _
theorem sX (ts:List (Nat×Nat))(j:Nat):0<=(jK ts).getD j 0/\(jK ts).getD j 0<=ts.length:=by
 have:=fZ 19 false (ts.map Fi) j;rw[abE]at this;exact this
theorem ID (ts:List (Nat×Nat))(t:Nat×Nat)(h:t∈ts)(h18:t.1<=18):0<(jK ts).getD t.1 0:=by
 unfold jK;rw[iH 19 false _ t.1 (by omega)];have:0<(ts.map Fi).countP (fun u=>decide (u.1=false/\u.2.1=t.1)):=List.countP_pos_iff.2 ⟨Fi t,List.mem_map_of_mem h,by simp[Fi]⟩;omega
structure uL (Wb G:Nat) (ao:Option Addr) (l:List Nat) (b0:Nat) (w0 w:World) (ts:List (Nat×Nat)):Prop where
 box:w.heap[Wb]?=some (.cells #[.slice (some ⟨G,0,none⟩) 19 19] 24 (0,0))
 n:aR w G (jK ts)
 be:Below b0 w0 w
 told:Told w G ao l
 ne:Wb≠G/\b0<=G
theorem uL.next {Wb G:Nat}{ao:Option Addr}{l:List Nat}{b0:Nat}{w0 w:World}{ts:List (Nat×Nat)}(h:uL Wb G ao l b0 w0 w ts)(t:Nat×Nat): uL Wb G ao l b0 w0 (w.setCell ⟨G,t.1,none⟩ (.int .i64 ((jK ts).getD t.1 0+1))) (ts++[t]):=by
 obtain⟨n1,n2⟩:=h.ne;refine⟨(aag w ⟨G,t.1,none⟩ _ Wb n1).trans h.box,by rw[Fj];exact h.n.set _ _,h.be.setCell (p:=⟨G,t.1,none⟩) n2 _,fun hn=>?_,h.ne⟩;obtain⟨g,cs,fr,e,h1,h2,h3⟩:=h.told hn;exact⟨g,cs,fr,e,h1,(aag w ⟨G,t.1,none⟩ _ g h1).trans h2,h3⟩
theorem IE (Wb G:Nat)(ao:Option Addr)(l:List Nat)(b0:Nat)(w0 w:World)(ts:List (Nat×Nat))(t:Nat×Nat)(h:uL Wb G ao l b0 w0 w ts)(hts:ts.length<700)(h18:t.1<=18)(x k:Value): Calls Tryz.prog 236 #[.int .i64 t.1,x,k,.pointer (some ⟨Wb,0,none⟩)] w fun e w'=>e=.returned (.tuple #[])/\uL Wb G ao l b0 w0 w' (ts++[t]):=by
 obtain⟨s0,sz,sl⟩:=one_cell h.box;have cn:=h.n.at_ t.1 (by rw[qL];omega);have hfz:∀j,w.frozen? ⟨G,j,none⟩=false:=fun j=>aaE w G j _ _ h.n;have hr:=sX ts t.1;have HN:Hid (uL Wb G ao l b0 w0 (w.setCell ⟨G,t.1,none⟩ (.int .i64 ((jK ts).getD t.1 0+1))) (ts++[t])):=h.next t;generalize (jK ts).getD t.1 0=y at *;generalize hq:t.1=q at *;have Xl:(q:Int)<19:=by omega
 clear h hq
 go_enter Tryz.func236,Tryz.ntmps236
 go_wp2
 go_end0
 exact⟨rfl,HN.out⟩
theorem L5 (args:Array Value)(w:World):(callFunc 236 args).run Tryz.prog w=.ok (.enter 236 args) w:=by kernel_rfl
theorem xu (Wb G:Nat)(ao:Option Addr)(cap:Nat)(l:List Nat)(b0:Nat)(w0 w:World)(h:uL Wb G ao l b0 w0 w [])(hl:∀x∈l,x<=15)(h6:l.length<=600): Calls Tryz.prog 234 #[.slice ao l.length cap,.func (.func 236) #[] #[.pointer (some ⟨Wb,0,none⟩)]] w fun e w'=>e=.returned (.tuple #[])/\uL Wb G ao l b0 w0 w' (E l):=by
 refine jw 236 _ ao cap l (uL Wb G ao l b0 w0) ⟨?_,L5,?_,fun u ts h=>h.told.ints⟩ w h hl h6
 ·intro u ts t h hts h18 hx;exact IE Wb G ao l b0 w0 u ts t h hts h18 _ _
 ·intro u ts n h;have hb:Below u.heap.size u (u.drewN n):=aap (aak _ _) n;exact⟨h.box,h.n,aap h.be n,h.told.below hb,h.ne⟩
structure Made (sw dw ls ds nl:List Int):Prop where
 s:∃ws,me sw ws 286/\2<=(heavy ws 286).length/\dr ws 286 15 ls
 d:dr dw 30 15 ds
 n:∃ws,me (jK (E (cC ls ds 286 30))) ws 19/\2<=(heavy ws 19).length/\dr ws 19 7 nl
theorem getD_take (l:List Int)(m j:Nat):(l.take m).getD j 0=if j<m then l.getD j 0 else 0:=by
 rw[aaa,abx];by_cases h:j<m
 ·rw[aaf h,aaf h,aaa]
 ·rw[aae h,aae h];rfl
theorem xv (l:List Int)(m:Nat):∀k,k<=m->Rf.fs (l.take m) k=Rf.fs l k
 | 0,_=>rfl
 | k+1,h=>by rw[Rf.fs,Rf.fs,xv l m k (by omega),getD_take,aaf (show k<m by omega)]
theorem xx (l:List Int)(m:Nat):∀n,m<=n->(∀j,m<=j->j<n->l.getD j 0=0)->Rf.fs l n=Rf.fs l m
 | 0,h,_=>by
  have:m=0:=by omega
  rw[this]
 | n+1,h,hz=>by
  by_cases e:m=n+1
  ·rw[e]
  ·rw[Rf.fs,xx l m n (by omega) (fun j h1 h2=>hz j h1 (by omega)),hz n (by omega) (by omega)];simp
theorem vL (l:List Int)(least N:Nat)(hN:l.length=N):Rf.full (l.take (trimF l least N))=decide (Rf.fs l N=32768):=by
 have h1:=bj l least N;unfold Rf.full;rw[aaQ,show min (trimF l least N) l.length=trimF l least N by omega,xv l _ _ (aad _),xx l _ N h1 (gj l least N)]
theorem Dh (far:List Int)(j:Nat)(h:∀i,far.getD i 0=if i=j then 1 else 0):∀k,Rf.iY far k=(if j<k then 1 else 0)/\Rf.ib far k=(if j<k then 1 else 0)
 | 0=>by simp[Rf.iY,Rf.ib]
 | k+1=>by
  obtain⟨i1,i2⟩:=Dh far j h k;rw[Rf.iY,Rf.ib,i1,i2,h k];by_cases e:k=j
  ·subst e;simp
  ·rw[aae e];by_cases e2:j<k
   ·have e3:j<k+1:=by omega
    simp[e2,e3]
   ·have e3:¬j<k+1:=by omega
    simp only[aae e2,aae e3];simp
theorem zx (far:List Int)(h:∀i,far.getD i 0=0):∀k,Rf.iY far k=0
 | 0=>rfl
 | k+1=>by rw[Rf.iY,zx far h k,h k];rfl
theorem BB {sw dw ls ds nl:List Int}(h:Made sw dw ls ds nl)(Pr:0<sw.getD 256 0):Rf.cY (ls.take (trimF ls 257 286)) (ds.take (trimF ds 1 30))=false:=by
 obtain⟨ws,hw1,hw2,hw3⟩:=h.s;have a1:Rf.full (ls.take (trimF ls 257 286))=true:=by rw[vL ls 257 286 hw3.len];exact aaw (hw3.full hw2)
 have a2:=gP ls 257 286 (by omega)
 have a3:(ls.take (trimF ls 257 286)).getD 256 0≠0:=by
  rw[getD_take,aaf (by omega)];have:=hw3.pos 256 ((gi ws 286 256).2 ⟨by omega,hw1.keep 256 Pr⟩);omega
 have b0:=bj ds 1 30;have bl:(ds.take (trimF ds 1 30)).length=trimF ds 1 30:=by rw[aaQ,h.d.len];omega
 have bz:=gj ds 1 30;have b1:Rf.full (ds.take (trimF ds 1 30))=decide (Rf.fs ds 30=32768):=vL ds 1 30 h.d.len;unfold Rf.cY;rw[a1,b1,bl,aa4 a3];rcases aaL (heavy dw 30).length 2 with hlt|hge
 ·rcases aaL (heavy dw 30).length 1 with h0|h1
  ·have e0:heavy dw 30=[]:=aau (by omega)
   have:=zx (ds.take (trimF ds 1 30)) (fun i=>by
    rw[getD_take,h.d.non i (by rw[e0];simp)]
    simp) (trimF ds 1 30)
   rw[this];simp
  ·obtain⟨j,ej⟩:=List.length_eq_one_iff.1 (show (heavy dw 30).length=1 by omega);have hj:ds.getD j 0=1:=h.d.one (by omega) j (by rw[ej];simp);have Xo:j<30:=((gi dw 30 j).1 (by rw[ej];simp)).1
   have hjm:j<trimF ds 1 30:=by
    rcases aaL j (trimF ds 1 30) with q|q
    ·exact q
    ·have:=bz j q Xo;omega
   have hs:=Dh (ds.take (trimF ds 1 30)) j (fun i=>by
    rw[getD_take];by_cases e:i=j
    ·subst e;rw[aaf hjm,aaf rfl,hj]
    ·rw[aae e,h.d.non i (by rw[ej];simpa using e)]
     simp) (trimF ds 1 30)
   rw[hs.1,hs.2,aaf hjm,aaf hjm];simp
 ·rw[aaw (h.d.full hge)];simp
theorem Dj (T:List UInt8):∀{p q:Nat} {steps:List (Nat×Nat)},Rf.Fits T p steps q->p<=q
 | _,_,[],h=>Nat.le_of_eq h
 | _,_,_::_,h=>aaz (Nat.le_add_right _ _) (Dj T h.2)
theorem sY (T:List UInt8)(o n:Nat):∀{p:Nat} {steps:List (Nat×Nat)},Rf.Fits T (o+p) steps (o+n)->c8 n p steps
 | p,[],h=>by
  have h:o+p=o+n:=h;show p<=n;omega
 | p,s::r,h=>by
  obtain⟨h1,h2⟩:=h;rw[abI]at h2;have hle:=Dj T h2;refine⟨?_,sY T o n h2⟩;rcases h1 with⟨a,b,_⟩|⟨a,b,c,d,_⟩
  ·exact .inl ⟨a,b,by omega⟩
  ·exact .inr ⟨a,b,c,d,by omega⟩
theorem Dk (x:Nat):Rf.nb x 0=[]:=aau (Rf.aF x 0)
theorem Dl (ls ds:List Int)(T U:List UInt8)(o n:Nat)(hU:∀j,j<n->U.getD j 0=T.getD (o+j) 0):∀(p:Nat) (steps:List (Nat×Nat)),c8 n p steps -> aA ls ds (ax U p steps)=Rf.dl (Rf.a8 ls) (Rf.a8 ds) T (o+p) steps
 | p,[],_=>by simp[ax,aA,Rf.dl,Dk]
 | p,s::r,h=>by
  have ih:=Dl ls ds T U o n hU (p+s.1) r h.2;have e:aA ls ds (cZ U p s++ax U (p+s.1) r)=aA ls ds (cZ U p s)++aA ls ds (ax U (p+s.1) r):=by simp[aA]
  rw[ax,Rf.dl,e,ih,abI]
  congr 1
  unfold cZ Rf.jG;by_cases h0:s.2=0
  ·have hp:p<n:=by
    rcases h.1 with⟨_,_,q⟩|⟨_,_,q,_⟩
    ·exact q
    ·omega
   rw[aaf h0,aaf h0,hU p hp];simp[aA,Dk]
  ·rw[aae h0,aae h0];simp[aA]
end Go.Proofs.YtmfijackgekioaaGreatDoor
