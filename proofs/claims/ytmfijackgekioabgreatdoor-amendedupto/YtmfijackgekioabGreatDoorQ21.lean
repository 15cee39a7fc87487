import Derived.Test.YtmfijackgekioabGreatDoorQ07
import Derived.Test.YtmfijackgekioabGreatDoorQ20
set_option maxHeartbeats 4000000
set_option maxRecDepth 100000
namespace Go.Proofs.YtmfijackgekioabGreatDoor
open Go.RowKit
def dj (nl:List Int)(k:Nat):List Int:=(List.range k).map (fun i=>nl.getD (Rf.order.getD i 0) 0)
theorem yk (nl:List Int)(k:Nat):(dj nl k).length=k:=by simp[dj]
theorem Dg (nl:List Int)(k:Nat):dj nl (k+1)=dj nl k++[nl.getD (Rf.order.getD k 0) 0]:=by simp[dj,List.range_succ]
theorem Dh (nl:List Int)(k i:Nat)(h:i<k):(dj nl k).getD i 0=nl.getD (Rf.order.getD i 0) 0:=by
 unfold dj;rw[aab,abC,List.getElem?_range h];rfl
theorem GU (O:Array Value)(k:Nat)(hk:k<19)(v:Int)(h:O[k]?=some (.int .i64 v))(u:World):(Instr.index 181 (.agg O) (.int .i64 (k:Int))).run Tryz.prog u=.ok (.int .i64 v) u:=by
 obtain⟨i0,hi,hz0,hz1,hz2⟩:=abu Tryz.info3;have h1:(0:Int)<=(k:Int)/\(k:Int)<19:=by omega
 simp[Instr.index,run_underlying Tryz.underlying181,asIntOf,h1,sizeOf,typeInfo,hi,hz1,go_sem,h,hk]
theorem Ks {w:World}{base n cap:Nat}{oa:Option Addr}{zs:List Int}(h:w.ownsRow base 3 1 (.slice oa n cap) n (vals zs)):Ints w oa zs:=by
 intro j hj;rcases h.2 with⟨e,e2⟩|⟨g,cap',cur,e,hb,hg,hnc,hcm,hcs,htake⟩
 ·have:=h.1;rw[e2]at this;simp[vals]at this;rw[this]at hj;simp at hj
 ·simp only[abH,acm]at e;obtain⟨rfl,rfl⟩:=e;refine⟨g,0,rfl,?_⟩;have:=h.cells (g:=g) rfl j (.int .i64 zs[j]) (by rw[abC,aan hj];rfl);rw[eJ]at this;exact this
theorem m9 (nl:List Int)(G3:Nat)(sa da:Option Addr)(sn sc dn dc:Nat)(w:World)(h19:nl.length=19)(h:aQ w G3 nl): Calls Tryz.prog 190 #[tS (.slice sa sn sc) (.slice da dn dc) (.slice (some ⟨G3,0,none⟩) 19 19)] w fun e w'=>e=.returned (.int .i64 (trimF (dj nl 19) 4 19:Nat))/\Below w.heap.size w w':=by
 obtain⟨i0,hi,hz0,hz1,hz2⟩:=abu Tryz.info3;obtain⟨Z,hZ⟩:∃Z:List Value,Z=List.replicate 19 (.int .i64 0):=⟨_,rfl⟩
 have hmk:∀u:World,(Instr.makeSlice 22 (.int .i64 0) (.int .i64 19)).run Tryz.prog u=.ok (.slice (some ⟨u.heap.size,0,none⟩) 0 19) (u.alloc (.cells Z.toArray 3)):=fun u=>zP 19 (by omega) Z hZ u;have YX:Z.length=19:=by rw[hZ];simp
 clear hZ;have hlt:=aaa h;have kT:=ae w (.cells #[.slice sa sn sc,.slice da dn dc,.slice (some ⟨G3,0,none⟩) 19 19] 210)
 go_enter Tryz.func190,Tryz.ntmps190
 go_wp2_with fail;have hsz2:((w.alloc (.cells #[.slice sa sn sc,.slice da dn dc,.slice (some ⟨G3,0,none⟩) 19 19] 210)).alloc (.cells Z.toArray 3)).heap.size=w.heap.size+1+1:=by simp
 have hb2:Below w.heap.size w ((w.alloc (.cells #[.slice sa sn sc,.slice da dn dc,.slice (some ⟨G3,0,none⟩) 19 19] 210)).alloc (.cells Z.toArray 3)):=kT.alloc (by simp) _;have oP:((w.alloc (.cells #[.slice sa sn sc,.slice da dn dc,.slice (some ⟨G3,0,none⟩) 19 19] 210)).alloc (.cells Z.toArray 3)).heap[w.heap.size]?=some (.cells #[.slice sa sn sc,.slice da dn dc,.slice (some ⟨G3,0,none⟩) 19 19] 210 (0,0)):=ak (ah w _) _
 have hown:((w.alloc (.cells #[.slice sa sn sc,.slice da dn dc,.slice (some ⟨G3,0,none⟩) 19 19] 210)).alloc (.cells Z.toArray 3)).ownsRow (w.heap.size+1) 3 1 (.slice (some ⟨w.heap.size+1,0,none⟩) 0 19) 0 [] :=
  ⟨rfl,.inr ⟨w.heap.size+1,19,Z.toArray,rfl,aah _,tL (by simp),by omega,by unfold maxLen;omega,by simp[YX],by simp⟩⟩
 refine (sG _).mono ?_;rintro e w1 ⟨O,rfl,IV,hO2,_,hb1⟩;rw[hsz2]at hb1;have vD:Below w.heap.size w w1:=hb2.trans (hb1.mono (by omega));have hs1:=hb1.size;rw[hsz2]at hs1;have GV:Hid (w1.heap[w.heap.size]?=some (.cells #[.slice sa sn sc,.slice da dn dc,.slice (some ⟨G3,0,none⟩) 19 19] 210 (0,0))):=(hb1.block _ (by omega)).trans oP;have Dj:Hid (w1.ownsRow (w.heap.size+1) 3 1 (.slice (some ⟨w.heap.size+1,0,none⟩) 0 19) 0 (vals (dj nl 0))):=aJ hown (fun g hg=>hb1.block g (by simp[Value.ownBlock]at hg;omega));have HL:Hid (aQ w G3 nl):=h;clear oP hown hb1 kT hb2 hmk h;go_wp2
 go_loopw [3,11] (fun ov iv wr=>∃(k:Nat) (oa:Option Addr) (oc:Nat),k<=19/\iv=.int .i64 k/\ov=.slice oa k oc/\Hid (wr.ownsRow (w.heap.size+1) 3 1 (.slice oa k oc) k (vals (dj nl k)))/\Hid (wr.heap[w.heap.size]?=some (.cells #[.slice sa sn sc,.slice da dn dc,.slice (some ⟨G3,0,none⟩) 19 19] 210 (0,0)))/\Below w.heap.size w wr/\w.heap.size+1<=wr.heap.size) (fun _ iv _=>19-(intOf iv).toNat)
 case atStart=>exact⟨0,_,_,aaq _,rfl,rfl,Dj,GV,vD,by omega⟩
 case round =>
  clear Dj GV vD hs1;obtain⟨k,oa,oc,hk,rfl,rfl,Dj,GV,hb,hsz⟩:=hrel;by_cases VZ:k<19
  ·have hok:∀u:World,(Instr.index 181 (.agg O) (.int .i64 (k:Int))).run Tryz.prog u=.ok (.int .i64 (Rf.order.getD k 0:Nat)) u:=fun u=>GU O k VZ _ (hO2 k VZ) u;have hol:=Rf.py k;obtain⟨c0,c1,c2,fz,MV⟩:=cells3 GV.out;have hLr:aQ wr G3 nl:=(hb.block _ hlt).trans HL.out;have hcell:=hLr.at_ (Rf.order.getD k 0) (by omega);have HS:Hid (dj nl (k+1)=dj nl k++[nl.getD (Rf.order.getD k 0) 0]):=Dg nl k;generalize nl.getD (Rf.order.getD k 0) 0=y at *;generalize Rf.order.getD k 0=q at *;have hq:(q:Int)<19:=by omega
   have kA:=ae wr (.cells #[.int .i64 y] 3);have Sb:(wr.alloc (.cells #[.int .i64 y] 3)).ownsRow (w.heap.size+1) 3 1 (.slice oa k oc) k (vals (dj nl k)):=Dj.out.alloc _
   have hsA:Src (wr.alloc (.cells #[.int .i64 y] 3)) 1 (.slice (some ⟨wr.heap.size,0,none⟩) 1 1) 1 (vals [y]):=by
    have:=yh (w:=wr.alloc (.cells #[.int .i64 y] 3)) (g:=wr.heap.size) (zs:=[y]) (ah wr _) 1 1 (by simp);simpa using this
   obtain⟨v',w',hr,ho',hg'⟩:=cR (ty:=22) Tryz.underlying22 hi hz0 hz1 hz2 rfl (by decide) Sb hsA (by unfold maxLen;omega) (by omega) (by simp;omega);obtain⟨rU,ol,rfl⟩:=aS ho';have hb':Below w.heap.size w w':=cq (hb.trans (kA.mono hb.size)) hg' (fun j hj=>by have:=(Sb.lt j hj).1;omega) (aah _)
   have HO':Hid (w'.ownsRow (w.heap.size+1) 3 1 (.slice rU (k+1) ol) (k+1) (vals (dj nl (k+1)))):=by
    show w'.ownsRow _ _ _ _ _ _;rw[HS.out,vals,ab5];exact ho'
   have HB':Hid (w'.heap[w.heap.size]?=some (.cells #[.slice sa sn sc,.slice da dn dc,.slice (some ⟨G3,0,none⟩) 19 19] 210 (0,0))):=by
    refine ((hg'.block _ (by simp;omega) (fun e=>?_)).trans (abI _ _ _ MV)).trans GV.out;have:=(Sb.lt _ e.symm).1;omega
   have hsz':w.heap.size+1<=w'.heap.size:=by have:=hg'.size;simp at this;omega
   have hkI:(k:Int)<19:=by omega
   clear hsA Sb ho' hg' kA Dj GV hLr HS hO2;go_wp2_with (at_builtin;refine aaX _ rfl _ _ _ _ rfl _ _ rfl rfl _ _ hr ?_)
   go_roundw
   case rel=>exact⟨k+1,rU,ol,by omega,by go_num,rfl,HO',HB',hb',hsz'⟩
   case measure=>simp[intOf];omega
  ·have e:k=19:=by omega
   subst e;obtain⟨g,ol,hform,hgb⟩:=Dj.out.form (by omega);simp only[abH,acm]at hform;obtain⟨rfl,rfl⟩:=hform;have hint:=Ks Dj.out;have htr:=oT (dj nl 19) 4 19 oc (some ⟨g,0,none⟩) wr (yk nl 19) (by omega) (by omega) hint;go_wp2_with fail;refine htr.mono ?_;rintro e w2 ⟨rfl,m,rfl⟩;go_wp2
   go_ret
   exact⟨rfl,aaD hb m⟩
def Told (w:World)(B:Nat)(ao:Option Addr)(l:List Nat):Prop :=
 l≠[]->∃g cs fr,ao=some ⟨g,0,none⟩/\g≠B/\w.heap[g]?=some (.cells cs 3 fr)/\∀j,j<l.length->cs[j]?=some (.int .i64 (l.getD j 0:Nat))
theorem Told.ints {w:World}{B:Nat}{ao:Option Addr}{l:List Nat}(h:Told w B ao l):Ints w ao (mY l):=by
 intro j hj;have hj':j<l.length:=by simpa using hj
 obtain⟨g,cs,fr,e,_,hg,hc⟩:=h (ne_of_lt hj');refine⟨g,0,e,?_⟩;have e2:w.cell? ⟨g,0+j,none⟩=cs[j]?:=by rw[aaO];simp[World.cell?,hg]
 rw[e2,hc j hj',acB,aab,aan hj'];rfl
theorem Told.fr {w w':World}{B:Nat}{ao:Option Addr}{l:List Nat}(h:Told w B ao l)(k:Fr B w w'):Told w' B ao l:=fun hn=>by
 obtain⟨g,cs,fr,e,h1,h2,h3⟩:=h hn;exact⟨g,cs,fr,e,h1,(k.kept h1 h2 (by decide)).trans h2,h3⟩
theorem Told.below {w w':World}{B:Nat}{ao:Option Addr}{l:List Nat}(h:Told w B ao l)(k:Below w.heap.size w w'):Told w' B ao l:=fun hn=>by
 obtain⟨g,cs,fr,e,h1,h2,h3⟩:=h hn;exact⟨g,cs,fr,e,h1,(k.block _ (aaa h2)).trans h2,h3⟩
theorem jW (tb:Nat->List Int):∀(ts:List (Nat×Nat)) (t:Nat×Nat),Rf.aU tb (ts++[t])=Rf.aU tb ts++(tb t.1++Rf.nb t.2 (Rf.mF t))
 | [],t=>by simp[Rf.aU]
 | s::r,t=>by
  rw[abG,Rf.aU,Rf.aU,jW tb r t];simp[List.append_assoc]
structure V0 (B:Nat) (W nl:List Int) (fv:Value) (ao:Option Addr) (l:List Nat) (w0 w:World) (ts:List (Nat×Nat)):Prop where
 wr:aA w B (W++Rf.aU (Rf.bg nl) ts)
 cw:fu w fv B nl 0
 fr:Fr B w0 w
 told:Told w B ao l
 len:(Rf.aU (Rf.bg nl) ts).length<=22*ts.length
theorem ym (B:Nat)(W nl:List Int)(fv:Value)(ao:Option Addr)(cap:Nat)(l:List Nat)(w:World)(hW:W.length<=100000000)(h19:nl.length=19)(hw:aA w B W)(hc:fu w fv B nl 0)(ht:Told w B ao l)(hl:∀x∈l,x<=15)(h6:l.length<=600): Calls Tryz.prog 187 #[.slice ao l.length cap,fv] w fun e w'=>e=.returned (.tuple #[])/\aA w' B (W++Rf.aU (Rf.bg nl) (E l))/\Fr B w w':=by
 obtain⟨WB,Lb,C,e1,_⟩:=hc.val;have h0:V0 B W nl fv ao l w w []:=⟨by simpa[Rf.aU]using hw,hc,Fr.refl _ _,ht,by simp[Rf.aU]⟩
 have hB:=hw.lt
 have hd:yg 195 #[.pointer (some ⟨WB,0,none⟩),.pointer (some ⟨Lb,0,none⟩)] ao l (V0 B W nl fv ao l w):=by
  refine⟨?_,yb,?_,fun u ts h=>h.told.ints⟩
  ·intro u ts t h hts h18 hx;obtain⟨WB',Lb',C',e,b1,b2,n1,_⟩:=h.cw.val;rw[e1]at e;simp at e;obtain⟨rfl,rfl⟩:=e;have hlen:=h.len;have htk:=De t;refine (tH t.1 t.2 (Rf.mF t) WB Lb C' nl B (W++Rf.aU (Rf.bg nl) ts) u b1 b2 n1 h.cw.PV h.wr (by omega) (by omega) (by rw[aac];omega)).mono ?_;rintro e u' ⟨rfl,hw',hf'⟩;refine⟨rfl,⟨?_,h.cw.fr hf',h.fr.trans hf',h.told.fr hf',?_⟩⟩
   ·rw[jW,<-aaw,<-fH];exact hw'
   ·rw[jW,aac,aac,aac,Rf.cM,Rf.aC,acg];have:=(h.cw.PV t.1).2;omega
  ·intro u ts n h;have hb:Below u.heap.size u (u.drewN n):=aaD (aav _ _) n;exact⟨h.wr.drewN n,h.cw.below hb,h.fr.drewN n,h.told.below hb,h.len⟩
 rw[e1];refine (jV 195 _ ao cap l _ hd w h0 hl h6).mono ?_;rintro e u ⟨rfl,h⟩;exact⟨rfl,h.wr,h.fr⟩
def dD (nl:List Int)(ts:List (Nat×Nat)):Int:=(ts.map (fun t=>nl.getD t.1 0+(Rf.mF t:Nat))).sum
theorem AG (nl:List Int)(ts:List (Nat×Nat))(t:Nat×Nat):dD nl (ts++[t])=dD nl ts+(nl.getD t.1 0+(Rf.mF t:Nat)):=by simp[dD]
theorem pN (nl:List Int)(h:∀j,0<=nl.getD j 0):∀ts,((Rf.aU (Rf.bg nl) ts).length:Int)=dD nl ts
 | []=>by simp[Rf.aU,dD]
 | t::r=>by
  have ih:=pN nl h r;rw[Rf.aU];simp only[aac,Rf.cM,Rf.aC];have:dD nl (t::r)=(nl.getD t.1 0+(Rf.mF t:Nat))+dD nl r:=by simp[dD]
  rw[this,<-ih];have:=h t.1;omega
theorem pO (nl:List Int):∀(f s:Nat),Rf.cZ nl s (f+1)=Rf.cZ nl s f++Rf.nb (nl.getD (Rf.order.getD (s+f) 0) 0).toNat 3
 | 0,s=>by simp[Rf.cZ]
 | f+1,s=>by
  rw[Rf.cZ,pO nl f (s+1)]
  conv=>rhs;rw[Rf.cZ]
  rw[aaw,show s+1+f=s+(f+1) by omega]
def cV (ls ds:List Int)(N1 N2:Nat):List Nat:=(ls.take (trimF ls 257 N1)++ds.take (trimF ds 1 N2)).map Int.toNat
theorem lr (ls ds:List Int)(N1 N2:Nat)(h1:∀j,0<=ls.getD j 0)(h2:∀j,0<=ds.getD j 0):mY (cV ls ds N1 N2)=ls.take (trimF ls 257 N1)++ds.take (trimF ds 1 N2):=by
 unfold cV mY;rw[List.map_map]
 have:∀x∈ls.take (trimF ls 257 N1)++ds.take (trimF ds 1 N2),((fun (x:Nat)=>(x:Int))∘Int.toNat) x=id x:=fun x hx=>by
  have h0:0<=x:=by
   rcases abA.1 hx with q|q
   ·obtain⟨j,hj,rfl⟩:=acK (acZ q);have:=h1 j
    rwa [aab,aan hj]at this
   ·obtain⟨j,hj,rfl⟩:=acK (acZ q);have:=h2 j
    rwa [aab,aan hj]at this
  simp only[Function.comp,id];omega
 rw[acJ this,List.map_id]
theorem iU (ls ds:List Int)(N1 N2:Nat)(h1:ls.length=N1)(h2:ds.length=N2):(cV ls ds N1 N2).length=trimF ls 257 N1+trimF ds 1 N2:=by
 have a:=bK ls 257 N1;have b:=bK ds 1 N2;simp[cV];omega
theorem ng (ls ds:List Int)(N1 N2:Nat)(h1:∀j,ls.getD j 0<=15)(h2:∀j,ds.getD j 0<=15):∀x∈cV ls ds N1 N2,x<=15:=by
 intro x hx;obtain⟨y,hy,rfl⟩:=ac3.1 hx
 have:y<=15:=by
  rcases abA.1 hy with q|q
  ·obtain⟨j,hj,rfl⟩:=acK (acZ q);have:=h1 j
   rwa [aab,aan hj]at this
  ·obtain⟨j,hj,rfl⟩:=acK (acZ q);have:=h2 j
   rwa [aab,aan hj]at this
 omega
theorem tU {w:World}{base B n:Nat}{v:Value}{l:List Nat}(h:w.ownsRow base 3 1 v n (vals (mY l)))(hl:l.length=n)(hB:B<base):∃ao cap,v=.slice ao n cap/\Told w B ao l:=by
 rcases h.2 with⟨rfl,h0⟩|⟨g,cap,cur,rfl,hb,hg,hnc,hcm,hcs,htake⟩
 ·exact⟨_,_,by rw[h0],fun hn=>absurd (aaG (by omega)) hn⟩
 ·refine⟨_,_,rfl,fun _=>⟨g,cur,(0,0),rfl,by omega,hg,fun j hj=>?_⟩⟩
  have q:(cur.toList.take (n*1))[j]?=some (.int .i64 (l.getD j 0:Nat)):=by
   rw[htake,vals,mY,abC,abC,aan hj,aab,aan hj];rfl
  rw[abZ,aaj (by omega)]at q;rw[<-acS];exact q
structure jl (w:World) (G1 G2 G3 N1 N2:Nat) (ls ds nl:List Int):Prop where
 s:aQ w G1 ls
 d:aQ w G2 ds
 n:aQ w G3 nl
 l1:ls.length=N1
 l2:ds.length=N2
 l3:nl.length=19
 g1:257<=N1/\N1<=286
 g2:1<=N2/\N2<=30
 r1:∀j,0<=ls.getD j 0/\ls.getD j 0<=15
 r2:∀j,0<=ds.getD j 0/\ds.getD j 0<=15
 r3:∀j,0<=nl.getD j 0/\nl.getD j 0<=7
 full:Rf.fs nl nl.length<=32768
theorem jl.below {w w':World}{G1 G2 G3 N1 N2:Nat}{ls ds nl:List Int}(h:jl w G1 G2 G3 N1 N2 ls ds nl)(k:Below w.heap.size w w'):jl w' G1 G2 G3 N1 N2 ls ds nl :=
 ⟨h.s.keep k,h.d.keep k,h.n.keep k,h.l1,h.l2,h.l3,h.g1,h.g2,h.r1,h.r2,h.r3,h.full⟩
theorem jl.fr {w w':World}{B G1 G2 G3 N1 N2:Nat}{ls ds nl:List Int}(h:jl w G1 G2 G3 N1 N2 ls ds nl)(k:Fr B w w')(hB:w.heap[B]?≠none->∃cs,w.heap[B]?=some (.cells cs 156 (0,0))):jl w' G1 G2 G3 N1 N2 ls ds nl:=by
 have key:∀g zs,aQ w g zs->aQ w' g zs:=fun g zs hz=>by
  have hne:g≠B:=fun e=>by
   subst e;obtain⟨cs,hcs⟩:=hB (by rw[show w.heap[g]?=_ from hz];simp);rw[show w.heap[g]?=_ from hz]at hcs;simp at hcs
  exact (k.kept hne hz (by decide)).trans hz
 exact⟨key _ _ h.s,key _ _ h.d,key _ _ h.n,h.l1,h.l2,h.l3,h.g1,h.g2,h.r1,h.r2,h.r3,h.full⟩
theorem aA.box {w:World}{B:Nat}{W:List Int}(h:aA w B W):w.heap[B]?≠none->∃cs,w.heap[B]?=some (.cells cs 156 (0,0)):=fun _=>by
 obtain⟨pv,P,h⟩:=h;exact⟨_,h.blk⟩
theorem jm {B:Nat}{w w':World}(hB:B<w.heap.size)(k:Below w.heap.size w w'):Fr B w w':=⟨k.mono (acV hB),fun j _ hj _=>k.block j hj⟩
theorem Kt (G1 G2 G3 N1 N2 B:Nat)(ls ds nl W:List Int)(w:World)(h:jl w G1 G2 G3 N1 N2 ls ds nl)(hw:aA w B W)(hW:W.length<=90000000): Calls Tryz.prog 175 #[tS (.slice (some ⟨G1,0,none⟩) N1 N1) (.slice (some ⟨G2,0,none⟩) N2 N2) (.slice (some ⟨G3,0,none⟩) 19 19),.pointer (some ⟨B,0,none⟩)] w fun e w' =>
   e=.returned (.tuple #[])/\aA w' B (W++Rf.ee (trimF ls 257 N1-257) (trimF ds 1 N2-1) (trimF (dj nl 19) 4 19) nl (E (cV ls ds N1 N2)))/\Fr B w w':=by
 have hB:=hw.lt;have kT:=ae w (.cells #[.slice (some ⟨G1,0,none⟩) N1 N1,.slice (some ⟨G2,0,none⟩) N2 N2,.slice (some ⟨G3,0,none⟩) 19 19] 210);have a1:=bK ls 257 N1;have a2:=iA ls 257 N1 h.g1.1;have b1:=bK ds 1 N2;have b2:=iA ds 1 N2 h.g2.1;have c1:=bK (dj nl 19) 4 19;have c2:=iA (dj nl 19) 4 19 (by omega);have gg1:=h.g1.2;have gg2:=h.g2.2;have hcnt:=wO ls ds N1 N2 N1 N2 (some ⟨G1,0,none⟩) (some ⟨G2,0,none⟩) _ (some ⟨G3,0,none⟩) 19 19 rfl (w.alloc (.cells #[.slice (some ⟨G1,0,none⟩) N1 N1,.slice (some ⟨G2,0,none⟩) N2 N2,.slice (some ⟨G3,0,none⟩) 19 19] 210)) h.l1 h.l2 (by omega) (by omega) (h.below kT).s.ints (h.below kT).d.ints (fun a e _=>by cases e;exact aaa (h.below kT).s) (fun a e _=>by cases e;exact aaa (h.below kT).d);have HA:Hid (∃X,X=trimF ls 257 N1):=⟨_,rfl⟩
 have hfin:∀X Y Z:Nat,X=trimF ls 257 N1->Y=trimF ds 1 N2->Z=trimF (dj nl 19) 4 19->W++Rf.ee (trimF ls 257 N1-257) (trimF ds 1 N2-1) (trimF (dj nl 19) 4 19) nl (E (cV ls ds N1 N2))=((((W++Rf.nb (X-257) 5)++Rf.nb (Y-1) 5)++Rf.nb (Z-4) 4)++Rf.cZ nl 0 Z)++Rf.aU (Rf.bg nl) (E (cV ls ds N1 N2)):=fun X Y Z e1 e2 e3=>by
  subst e1 e2 e3;simp only[Rf.ee,aaw]
 have hcn:=fun (u:World) (hu:Below w.heap.size w u)=>m9 nl G3 (some ⟨G1,0,none⟩) (some ⟨G2,0,none⟩) N1 N1 N2 N2 u h.l3 ((hu.block _ (aaa h.n)).trans h.n);have fj:Hid (∀X Y Z:Nat,_):=hfin;have Ku:Hid (jl w G1 G2 G3 N1 N2 ls ds nl):=h;generalize hX:trimF ls 257 N1=X at *;generalize hY:trimF ds 1 N2=Y at *;generalize hZ:trimF (dj nl 19) 4 19=Z at *;have V1:Hid (trimF ls 257 N1=X/\trimF ds 1 N2=Y/\trimF (dj nl 19) 4 19=Z):=⟨hX,hY,hZ⟩
 clear hfin HA hX hY hZ h
 go_enter Tryz.func175,Tryz.ntmps175
 go_wp2_with fail;refine hcnt.mono ?_;rintro e w1 ⟨rfl,hb1⟩;have N0:Below w.heap.size w w1:=kT.trans (hb1.mono (by simp));have oP:w1.heap[w.heap.size]?=some (.cells #[.slice (some ⟨G1,0,none⟩) N1 N1,.slice (some ⟨G2,0,none⟩) N2 N2,.slice (some ⟨G3,0,none⟩) 19 19] 210 (0,0)):=(hb1.block _ (by simp)).trans (ah w _);obtain⟨x0,x1,x2,fz,hlt1⟩:=cells3 oP;clear hcnt hb1 kT;go_wp2_with fail;refine (hcn w1 N0).mono ?_;rintro e w2 ⟨rfl,hb2⟩;have hbw2:Below w.heap.size w w2:=N0.trans (hb2.mono N0.size);have tV:=(hb2.block _ hlt1).trans oP;clear x0 x1 x2 fz hcn oP;have hw2:aA w2 B W:=hw.below hbw2;have eX:(X:Int)-257=((X-257:Nat):Int):=by omega
 have eY:(Y:Int)-1=((Y-1:Nat):Int):=by omega
 have eZ:(Z:Int)-4=((Z-4:Nat):Int):=by omega
 have n1:=eL ((X-257:Nat):Int) 5 B W w2 hw2 (by omega) (by omega);rw[fH]at n1;go_wp2_with fail;refine n1.mono ?_;rintro e w3 ⟨rfl,hw3,f3⟩;have n2:=eL ((Y-1:Nat):Int) 5 B _ w3 hw3 (by omega) (by rw[aac,Rf.aC];omega);rw[fH]at n2;go_wp2_with fail;refine n2.mono ?_;rintro e w4 ⟨rfl,hw4,f4⟩;have n3:=eL ((Z-4:Nat):Int) 4 B _ w4 hw4 (by omega) (by rw[aac,aac,Rf.aC,Rf.aC];omega);rw[fH]at n3;go_wp2_with fail;refine n3.mono ?_;rintro e w5 ⟨rfl,hw5,f5⟩;have F5:Fr B w2 w5:=(f3.trans f4).trans f5;clear n1 n2 n3 hw3 hw4 f3 f4 f5;go_wp2_with fail;refine (sG _).mono ?_;rintro e w6 ⟨O,rfl,IV,hO2,hall,hb6⟩;have JJ:(Tryz.prog.info? 181).map (·.size)=some O.size:=by rw[IV];exact xS
 go_wp2_with (refine wpList_store_row rfl 181 _ _ rfl w6.heap.size O rfl (by rfl) 181 gx (ah w6 _) JJ IV.symm hall ?_);have hOb:((w6.alloc (.cells gx 181)).setRow w6.heap.size O).heap[w6.heap.size]?=some (.cells O 181 (0,0)):=setRow_heap _ w6.heap.size _ _ 181 _ (ah w6 _);have Dk:Below w6.heap.size w6 ((w6.alloc (.cells gx 181)).setRow w6.heap.size O):=below_setRow (ae w6 _) (aah _) _;generalize ((w6.alloc (.cells gx 181)).setRow w6.heap.size O)=w7 at *;have vE:Below w5.heap.size w5 w7:=hb6.trans (Dk.mono hb6.size);have GN:B<w5.heap.size:=hw5.lt;have hw7:aA w7 B (((W++Rf.nb (X-257) 5)++Rf.nb (Y-1) 5)++Rf.nb (Z-4) 4):=hw5.below vE;have F25:Fr B w w5:=(jm hB hbw2).trans F5;have F7:Fr B w w7:=F25.trans (jm GN vE);have Sc:w.heap.size≠B:=by omega
 have Se:w5.heap[w.heap.size]?=some (.cells #[.slice (some ⟨G1,0,none⟩) N1 N1,.slice (some ⟨G2,0,none⟩) N2 N2,.slice (some ⟨G3,0,none⟩) 19 19] 210 (0,0)):=(F5.kept Sc tV (by decide)).trans tV;have V2:w7.heap[w.heap.size]?=some (.cells #[.slice (some ⟨G1,0,none⟩) N1 N1,.slice (some ⟨G2,0,none⟩) N2 N2,.slice (some ⟨G3,0,none⟩) 19 19] 210 (0,0)):=(vE.block _ (aaa Se)).trans Se;have Qc:jl w7 G1 G2 G3 N1 N2 ls ds nl:=Ku.out.fr F7 hw.box;have hK7:w6.heap.size≠B:=by have:=hb6.size;omega
 have aar:(Z:Int)<=19:=by omega
 have HS0:Hid (aA w7 B ((((W++Rf.nb (X-257) 5)++Rf.nb (Y-1) 5)++Rf.nb (Z-4) 4)++Rf.cZ nl 0 0)/\Fr B w w7):=⟨by simpa[Rf.cZ]using hw7,F7⟩
 generalize hW3:(((W++Rf.nb (X-257) 5)++Rf.nb (Y-1) 5)++Rf.nb (Z-4) 4)=W3 at *;have agj:W3.length<=90000014:=by rw[<-hW3];simp only[aac,Rf.aC];omega
 have HW3:Hid ((((W++Rf.nb (X-257) 5)++Rf.nb (Y-1) 5)++Rf.nb (Z-4) 4)=W3):=hW3;have Vc:Hid (w7.heap[w.heap.size]?=_/\w7.heap[w6.heap.size]?=_/\jl w7 G1 G2 G3 N1 N2 ls ds nl):=⟨V2,hOb,Qc⟩
 generalize w6.heap.size=K7 at *;clear hW3 hw7 F7 F25 Se V2 Qc hOb Dk vE hw5 F5 tV hb6 hw2 hbw2 N0 hb2 JJ hall IV
 have hsl:∀u:World,(Instr.sliceAt 181 (.pointer (some ⟨K7,0,none⟩)) none (some (.int .i64 (Z:Int))) none).run Tryz.prog u=.ok (.slice (some ⟨K7,0,none⟩) Z 19) u:=fun u=>by
  obtain⟨i0,hi,hz0,hz1,hz2⟩:=abu Tryz.info3;have hz0':(0:Int)<=(Z:Int):=by omega
  simp[Instr.sliceAt,Instr.sureAddr,run_underlying Tryz.underlying181,Instr.sliceBounds,run_sliceBound,sizeOf,typeInfo,hi,aar,hz0',go_sem]
 rw[hsl];clear hsl;go_wp2
 go_loopw [33] (fun iv wr=>∃i:Nat,i<=Z/\iv=.int .i64 i/\Hid (aA wr B (W3++Rf.cZ nl 0 i)/\Fr B w wr)/\Hid (wr.heap[w.heap.size]?=some (.cells #[.slice (some ⟨G1,0,none⟩) N1 N1,.slice (some ⟨G2,0,none⟩) N2 N2,.slice (some ⟨G3,0,none⟩) 19 19] 210 (0,0))/\wr.heap[K7]?=some (.cells O 181 (0,0))/\jl wr G1 G2 G3 N1 N2 ls ds nl)) (fun iv _=>Z-(intOf iv).toNat)
 case atStart=>exact⟨0,aaq _,rfl,HS0,Vc⟩
 case round =>
  clear HS0 Vc;obtain⟨i,hi,rfl,HS,HM⟩:=hrel;obtain⟨x0,x1,x2,fz,MV⟩:=cells3 HM.out.1;by_cases hiz:i<Z
  ·have hol:=Rf.py i;have co:wr.cell? ⟨K7,i,none⟩=some (.int .i64 ((Rf.order.getD i 0:Nat):Int)):=(aR HM.out.2.1 i).trans (hO2 i (by omega));have cn:=HM.out.2.2.n.at_ (Rf.order.getD i 0) (by have:=HM.out.2.2.l3;omega);have hr3:=HM.out.2.2.r3 (Rf.order.getD i 0);have hsn:=pO nl i 0;rw[aaO]at hsn;have cA:=eL (nl.getD (Rf.order.getD i 0) 0) 3 B (W3++Rf.cZ nl 0 i) wr HS.out.1 (by omega) (by rw[aac,Rf.dS];omega)
   have HSN:Hid ((W3++Rf.cZ nl 0 i)++xZ (nl.getD (Rf.order.getD i 0) 0) 3=W3++Rf.cZ nl 0 (i+1)):=by
    show _=_;rw[hsn,aaw,<-fH,show (((nl.getD (Rf.order.getD i 0) 0).toNat:Nat):Int)=nl.getD (Rf.order.getD i 0) 0 by omega]
   generalize nl.getD (Rf.order.getD i 0) 0=y at *;generalize Rf.order.getD i 0=q at *;have hq:(q:Int)<19:=by omega
   clear hsn;go_wp2_with fail;refine cA.mono ?_;rintro e w8 ⟨rfl,hw8,f8⟩;rw[HSN.out]at hw8;have HM8:Hid (w8.heap[w.heap.size]?=some (.cells #[.slice (some ⟨G1,0,none⟩) N1 N1,.slice (some ⟨G2,0,none⟩) N2 N2,.slice (some ⟨G3,0,none⟩) 19 19] 210 (0,0))/\w8.heap[K7]?=some (.cells O 181 (0,0))/\jl w8 G1 G2 G3 N1 N2 ls ds nl):=⟨(f8.kept Sc HM.out.1 (by decide)).trans HM.out.1,(f8.kept hK7 HM.out.2.1 (by decide)).trans HM.out.2.1,HM.out.2.2.fr f8 HS.out.1.box⟩
   have HS8:Hid (aA w8 B (W3++Rf.cZ nl 0 (i+1))/\Fr B w w8):=⟨hw8,HS.out.2.trans f8⟩
   clear hw8 f8 cA HS HM co cn x0 x1 x2 fz MV;go_wp2
   go_roundw
   case rel=>exact⟨i+1,by omega,by go_num,HS8,HM8⟩
   case measure=>simp[intOf];omega
  ·have ei:i=Z:=by omega
   subst ei
   have fw:∀u:World,u.heap[w.heap.size]?=some (.cells #[.slice (some ⟨G1,0,none⟩) N1 N1,.slice (some ⟨G2,0,none⟩) N2 N2,.slice (some ⟨G3,0,none⟩) 19 19] 210 (0,0))->u.cell? ⟨w.heap.size,0,none⟩=some (.slice (some ⟨G1,0,none⟩) N1 N1)/\u.cell? ⟨w.heap.size,1,none⟩=some (.slice (some ⟨G2,0,none⟩) N2 N2)/\u.cell? ⟨w.heap.size,2,none⟩=some (.slice (some ⟨G3,0,none⟩) 19 19):=fun u hu=>by
    obtain⟨z0,z1,z2,_⟩:=cells3 hu;exact⟨z0,z1,z2⟩
   have bxd:wr.drew.heap[w.heap.size]?=some (.cells #[.slice (some ⟨G1,0,none⟩) N1 N1,.slice (some ⟨G2,0,none⟩) N2 N2,.slice (some ⟨G3,0,none⟩) 19 19] 210 (0,0)):=HM.out.1;have hS:=fw _ bxd;have tb:=HM.out.2.2;have hrd:Below wr.heap.size wr wr.drew:=⟨rfl,rfl,rfl,aah _,fun _ _=>rfl⟩
   have tbd:=tb.below hrd;have hwd:=HS.out.1.below hrd;have hBr:=HS.out.1.lt;have htold:=yi ls ds G1 G2 N1 N2 (some ⟨G3,0,none⟩) 19 19 wr.drew tb.l1 tb.l2 (by omega) (by omega) tb.g1.1 tb.g2.1 tbd.s tbd.d;have hti:=lr ls ds N1 N2 (fun j=>(tb.r1 j).1) (fun j=>(tb.r2 j).1);have htl:=iU ls ds N1 N2 tb.l1 tb.l2;have hte:=ng ls ds N1 N2 (fun j=>(tb.r1 j).2) (fun j=>(tb.r2 j).2);rw[<-hti,<-htl]at htold;rw[V1.out.1,V1.out.2.1]at htl;have RG:Hid ((cV ls ds N1 N2).length=X+Y):=htl;clear htl;have hlb:=Rf.dS nl i 0;go_wp2;refine ax (fun w'=>w'.cell? ⟨w.heap.size,0,none⟩=some (.slice (some ⟨G1,0,none⟩) N1 N1)/\w'.cell? ⟨w.heap.size,1,none⟩=some (.slice (some ⟨G2,0,none⟩) N2 N2)/\w'.cell? ⟨w.heap.size,2,none⟩=some (.slice (some ⟨G3,0,none⟩) 19 19)) 999 ?_;refine ap [0] ?_
   iterate 1 (refine au hS ?_;try simp only[Act.put])
   refine aj ?_;refine ap [2,3,4] ?_
   iterate 3 (refine au hS ?_;try simp only[Act.put])
   refine aj ?_;refine ag 1 fun K hK=>?_;go_simp;refine htold.mono ?_;rintro e w8 ⟨v8,rfl,ho8,Ce⟩;obtain⟨ta,tc,rfl,Zt⟩:=tU (B:=B) ho8 rfl hBr;have bx8:=(Ce.block _ (aaa bxd)).trans bxd;refine hK _ _ (fun _=>fw _ bx8) ?_;clear hK K;have tb8:=tbd.below Ce;have hw8:=hwd.below Ce;have hcw:=jS B (some ⟨G3,0,none⟩) 19 nl 19 w8 tb.l3 (by omega) tb8.n.ints (fun a e _=>by cases e;exact aaa tb8.n) (fun j=>by have:=tb.r3 j;omega) tb.full hw8.lt;refine ag 5 fun K hK=>?_;go_simp;refine hcw.mono ?_;rintro e w9 ⟨fv,rfl,hc9,YY⟩;have bx9:=(YY.block _ (aaa bx8)).trans bx8;refine hK _ _ (fun _=>fw _ bx9) ?_;clear hK K;have hw9:=hw8.below YY;have JR:=ym B (W3++Rf.cZ nl 0 i) nl fv ta tc (cV ls ds N1 N2) w9 (by rw[aac,hlb];omega) tb.l3 hw9 (hc9.weak (aaq _)) (Zt.below YY) hte (by have:=RG.out;omega);refine ag 6 fun K hK=>?_;go_simp;refine JR.mono ?_;rintro e ME ⟨rfl,aax,f10⟩;have aay:=(f10.kept Sc bx9 (by decide)).trans bx9;refine hK _ _ (fun _=>fw _ aay) ?_;clear hK K;refine am ?_;have F10:Fr B w ME:=((HS.out.2.trans (jm hBr hrd)).trans (jm hwd.lt Ce)).trans ((jm hw8.lt YY).trans f10);go_wp2
   go_end0
   refine⟨rfl,?_,F10⟩;have:=fj.out X Y i rfl rfl rfl;rw[this,HW3.out];exact aax
theorem qI (nl:List Int)(h:∀j,0<=nl.getD j 0/\nl.getD j 0<=7):∀ts:List (Nat×Nat),0<=dD nl ts/\dD nl ts<=14*ts.length
 | []=>by simp[dD]
 | t::r=>by
  have ih:=qI nl h r;have:=h t.1;have htk:=De t;have e:dD nl (t::r)=(nl.getD t.1 0+(Rf.mF t:Nat))+dD nl r:=by simp[dD]
  rw[e,aaA];omega
structure tW (S Tb G1 G2 G3 N1 N2:Nat) (nl:List Int) (c0:Int) (ao:Option Addr) (l:List Nat) (b0:Nat) (w0 w:World) (ts:List (Nat×Nat)):Prop where
 sum:w.heap[S]?=some (.cells #[.int .i64 (c0+dD nl ts)] 3 (0,0))
 box:w.heap[Tb]?=some (.cells #[.slice (some ⟨G1,0,none⟩) N1 N1,.slice (some ⟨G2,0,none⟩) N2 N2,.slice (some ⟨G3,0,none⟩) 19 19] 210 (0,0))
 n:aQ w G3 nl
 be:Below b0 w0 w
 told:Told w S ao l
 ne:Tb≠S/\G3≠S/\b0<=S
theorem tW.next {S Tb G1 G2 G3 N1 N2:Nat}{nl:List Int}{c0:Int}{ao:Option Addr}{l:List Nat}{b0:Nat}{w0 w:World}{ts:List (Nat×Nat)}(h:tW S Tb G1 G2 G3 N1 N2 nl c0 ao l b0 w0 w ts)(t:Nat×Nat)(v:Int)(hv:v=c0+dD nl (ts++[t])): tW S Tb G1 G2 G3 N1 N2 nl c0 ao l b0 w0 (w.setCell ⟨S,0,none⟩ (.int .i64 v)) (ts++[t]):=by
 obtain⟨n1,n2,n3⟩:=h.ne;refine⟨?_,(aak w ⟨S,0,none⟩ _ Tb n1).trans h.box,(aak w ⟨S,0,none⟩ _ G3 n2).trans h.n,h.be.setCell (p:=⟨S,0,none⟩) n3 _,fun hn=>?_,h.ne⟩
 ·rw[hv];exact one_set h.sum _
 ·obtain⟨g,cs,fr,e,h1,h2,h3⟩:=h.told hn;exact⟨g,cs,fr,e,h1,(aak w ⟨S,0,none⟩ _ g h1).trans h2,h3⟩
theorem Sf (S Tb G1 G2 G3 N1 N2:Nat)(nl:List Int)(c0:Int)(ao:Option Addr)(l:List Nat)(b0:Nat)(w0 w:World)(ts:List (Nat×Nat))(t:Nat×Nat)(h:tW S Tb G1 G2 G3 N1 N2 nl c0 ao l b0 w0 w ts)(hts:ts.length<700)(h18:t.1<=18)(h19:nl.length=19)(hr:∀j,0<=nl.getD j 0/\nl.getD j 0<=7)(hc:0<=c0/\c0<=100000): Calls Tryz.prog 191 #[.int .i64 t.1,.int .i64 t.2,.int .i64 (Rf.mF t),.pointer (some ⟨S,0,none⟩),.pointer (some ⟨Tb,0,none⟩)] w fun e w'=>e=.returned (.tuple #[])/\tW S Tb G1 G2 G3 N1 N2 nl c0 ao l b0 w0 w' (ts++[t]):=by
 have hb1:Below w.heap.size w w.drew:=⟨rfl,rfl,rfl,aah _,fun _ _=>rfl⟩
 have hlS:=aaa h.sum;have h1:tW S Tb G1 G2 G3 N1 N2 nl c0 ao l b0 w0 w.drew ts:=⟨h.sum,h.box,h.n,h.be.trans (hb1.mono (by have:=h.ne;omega)),h.told.below hb1,h.ne⟩
 clear h hb1 hlS;generalize hwd:w.drew=wd at *;obtain⟨x0,x1,x2,fz,ba⟩:=cells3 h1.box;obtain⟨s0,sz,sl⟩:=one_cell h1.sum;have cn:=h1.n.at_ t.1 (by omega);have hle:=qI nl hr ts;have hrt:=hr t.1;have htk:=De t;have HN:Hid (∀v:Int,v=c0+dD nl ts+(nl.getD t.1 0+(Rf.mF t:Nat))->tW S Tb G1 G2 G3 N1 N2 nl c0 ao l b0 w0 (wd.setCell ⟨S,0,none⟩ (.int .i64 v)) (ts++[t])):=fun v hv=>h1.next t v (by rw[hv,AG];omega);generalize nl.getD t.1 0=y at *;generalize hk:Rf.mF t=k at *;generalize hq:t.1=q at *;generalize dD nl ts=z at *;obtain⟨c,hcz⟩:∃c,c0+z=c:=⟨_,rfl⟩
 rw[hcz]at s0 HN;have hcb:0<=c/\c<=110000:=by omega
 have aaz:(q:Int)<19:=by omega
 clear h1 hk hq hcz hle hc x0 x1;have hS:wd.cell? ⟨S,0,none⟩=some (.int .i64 c)/\wd.cell? ⟨Tb,2,none⟩=some (.slice (some ⟨G3,0,none⟩) 19 19)/\wd.cell? ⟨G3,q,none⟩=some (.int .i64 y):=⟨s0,x2,cn⟩
 go_enter Tryz.func191,Tryz.ntmps191
 go_wp2;refine ax (fun w'=>w'.cell? ⟨S,0,none⟩=some (.int .i64 c)/\w'.cell? ⟨Tb,2,none⟩=some (.slice (some ⟨G3,0,none⟩) 19 19)/\w'.cell? ⟨G3,q,none⟩=some (.int .i64 y)) 9 ?_;rw[hwd];refine ap [0,1,2,3,4,5,6,7,8] ?_
 iterate 9 (refine au hS ?_;try simp only[Act.put])
 refine aj ?_;refine ag 9 fun K hK=>?_;go_simp;refine hK _ _ (fun h=>absurd rfl h) ?_;clear hK K;refine am ?_;go_wp2
 go_end0
 exact⟨rfl,HN.out _ (by rw[acX,acX];omega)⟩
theorem N3 (args:Array Value)(w:World):(callFunc 191 args).run Tryz.prog w=.ok (.enter 191 args) w:=by kernel_rfl
theorem AH (S Tb G1 G2 G3 N1 N2:Nat)(nl:List Int)(c0:Int)(ao:Option Addr)(cap:Nat)(l:List Nat)(b0:Nat)(w0 w:World)(h:tW S Tb G1 G2 G3 N1 N2 nl c0 ao l b0 w0 w [])(h19:nl.length=19)(hr:∀j,0<=nl.getD j 0/\nl.getD j 0<=7)(hc:0<=c0/\c0<=100000)(hl:∀x∈l,x<=15)(h6:l.length<=600): Calls Tryz.prog 187 #[.slice ao l.length cap,.func (.func 191) #[] #[.pointer (some ⟨S,0,none⟩),.pointer (some ⟨Tb,0,none⟩)]] w fun e w'=>e=.returned (.tuple #[])/\tW S Tb G1 G2 G3 N1 N2 nl c0 ao l b0 w0 w' (E l):=by
 refine jV 191 _ ao cap l (tW S Tb G1 G2 G3 N1 N2 nl c0 ao l b0 w0) ⟨?_,N3,?_,fun u ts h=>h.told.ints⟩ w h hl h6
 ·intro u ts t h hts h18 hx;exact Sf S Tb G1 G2 G3 N1 N2 nl c0 ao l b0 w0 u ts t h hts h18 h19 hr hc
 ·intro u ts n h;have hb:Below u.heap.size u (u.drewN n):=aaD (aav _ _) n;exact⟨h.sum,h.box,h.n,aaD h.be n,h.told.below hb,h.ne⟩
theorem N4 (G1 G2 G3 N1 N2:Nat)(ls ds nl:List Int)(w:World)(h:jl w G1 G2 G3 N1 N2 ls ds nl): Calls Tryz.prog 173 #[tS (.slice (some ⟨G1,0,none⟩) N1 N1) (.slice (some ⟨G2,0,none⟩) N2 N2) (.slice (some ⟨G3,0,none⟩) 19 19)] w fun e w' =>
   e=.returned (.int .i64 (14+3*(trimF (dj nl 19) 4 19:Nat)+dD nl (E (cV ls ds N1 N2))))/\Below w.heap.size w w':=by
 have c1:=bK (dj nl 19) 4 19;have hcn:=fun (u:World) (hu:Below w.heap.size w u)=>m9 nl G3 (some ⟨G1,0,none⟩) (some ⟨G2,0,none⟩) N1 N1 N2 N2 u h.l3 ((hu.block _ (aaa h.n)).trans h.n);have Ku:Hid (jl w G1 G2 G3 N1 N2 ls ds nl):=h;generalize trimF (dj nl 19) 4 19=Z at *;clear h
 go_enter Tryz.func173,Tryz.ntmps173
 go_wp2_with fail;have kT:=ae w (.cells #[.slice (some ⟨G1,0,none⟩) N1 N1,.slice (some ⟨G2,0,none⟩) N2 N2,.slice (some ⟨G3,0,none⟩) 19 19] 210);refine (hcn _ kT).mono ?_;rintro e w2 ⟨rfl,hb2⟩;have hbw2:Below w.heap.size w w2:=kT.trans (hb2.mono (by simp));have tV:w2.heap[w.heap.size]?=some (.cells #[.slice (some ⟨G1,0,none⟩) N1 N1,.slice (some ⟨G2,0,none⟩) N2 N2,.slice (some ⟨G3,0,none⟩) 19 19] 210 (0,0)):=(hb2.block _ (by simp)).trans (ah w _);obtain⟨x0,x1,x2,fz,hlt1⟩:=cells3 tV;clear hcn hb2 kT;go_wp2_with fail;have tb:=Ku.out;have kS:=ae w2 (.cells #[.int .i64 (14+3*(Z:Int))] 3);have Sg:Below w.heap.size w (w2.alloc (.cells #[.int .i64 (14+3*(Z:Int))] 3)):=hbw2.trans (kS.mono hbw2.size);have bs3:(w2.alloc (.cells #[.int .i64 (14+3*(Z:Int))] 3)).heap[w2.heap.size]?=some (.cells #[.int .i64 (14+3*(Z:Int))] 3 (0,0)):=ah w2 _;have bx3:(w2.alloc (.cells #[.int .i64 (14+3*(Z:Int))] 3)).heap[w.heap.size]?=some (.cells #[.slice (some ⟨G1,0,none⟩) N1 N1,.slice (some ⟨G2,0,none⟩) N2 N2,.slice (some ⟨G3,0,none⟩) 19 19] 210 (0,0)):=ak tV _;have hs3:w2.heap.size<(w2.alloc (.cells #[.int .i64 (14+3*(Z:Int))] 3)).heap.size:=by simp
 have YZ:=tb.below Sg;have hG3:=aaa tb.n;clear x0 x1 x2 fz kS tV;generalize hw3:(w2.alloc (.cells #[.int .i64 (14+3*(Z:Int))] 3))=w3 at *;have gg1:=tb.g1.2;have gg2:=tb.g2.2;have htold:=yi ls ds G1 G2 N1 N2 (some ⟨G3,0,none⟩) 19 19 w3 tb.l1 tb.l2 (by omega) (by omega) tb.g1.1 tb.g2.1 YZ.s YZ.d;have hti:=lr ls ds N1 N2 (fun j=>(tb.r1 j).1) (fun j=>(tb.r2 j).1);have htl:=iU ls ds N1 N2 tb.l1 tb.l2;have hte:=ng ls ds N1 N2 (fun j=>(tb.r1 j).2) (fun j=>(tb.r2 j).2);have a1:=bK ls 257 N1;have b1:=bK ds 1 N2;have htn:Hid ((cV ls ds N1 N2).length<=600):=by show _<=_;omega
 rw[<-hti,<-htl]at htold;clear htl hti a1 b1;refine htold.mono ?_;rintro e w4 ⟨v4,rfl,IU,hb4⟩;obtain⟨ta,tc,rfl,V3⟩:=tU (B:=w2.heap.size) IU rfl hs3
 have si:tW w2.heap.size w.heap.size G1 G2 G3 N1 N2 nl (14+3*(Z:Int)) ta (cV ls ds N1 N2) w.heap.size w w4 [] :=
  ⟨by rw[show (14+3*(Z:Int))+dD nl []=14+3*(Z:Int) by simp[dD]];exact (hb4.block _ hs3).trans bs3,(hb4.block _ (aaa bx3)).trans bx3,(YZ.below hb4).n,Sg.trans (hb4.mono Sg.size),V3,by omega,by omega,hbw2.size⟩
 have hls:=AH w2.heap.size w.heap.size G1 G2 G3 N1 N2 nl (14+3*(Z:Int)) ta tc (cV ls ds N1 N2) w.heap.size w w4 si tb.l3 tb.r3 (by omega) hte htn.out;generalize w2.heap.size=S at *;clear V3 IU hb4 bs3 bx3 si YZ tb;go_wp2_with fail;refine hls.mono ?_;rintro e w5 ⟨rfl,h5⟩;obtain⟨s0,sz,sl⟩:=one_cell h5.sum;have Vb:=h5.be;go_wp2
 go_ret
 exact⟨rfl,Vb⟩
def GX (t:Nat×Nat):Tok:=(false,t.1,0,0)
def ki (ts:List (Nat×Nat)):List Int:=fg 19 false (ts.map GX)
theorem GY (ts:List (Nat×Nat))(t:Nat×Nat):ki (ts++[t])=(ki ts).set t.1 ((ki ts).getD t.1 0+1):=by
 unfold ki;rw[ab5];exact tI 19 false (ts.map GX) t.1 0 0
theorem rC (ts:List (Nat×Nat)):(ki ts).length=19:=eQ _ _ _
theorem tX (ts:List (Nat×Nat))(j:Nat):0<=(ki ts).getD j 0/\(ki ts).getD j 0<=ts.length:=by
 have:=gO 19 false (ts.map GX) j;rw[abO]at this;exact this
theorem Kv (ts:List (Nat×Nat))(t:Nat×Nat)(h:t∈ts)(h18:t.1<=18):0<(ki ts).getD t.1 0:=by
 unfold ki;rw[ji 19 false _ t.1 (by omega)];have:0<(ts.map GX).countP (fun u=>decide (u.1=false/\u.2.1=t.1)):=List.countP_pos_iff.2 ⟨GX t,List.mem_map_of_mem h,by simp[GX]⟩;omega
structure vF (Wb G:Nat) (ao:Option Addr) (l:List Nat) (b0:Nat) (w0 w:World) (ts:List (Nat×Nat)):Prop where
 box:w.heap[Wb]?=some (.cells #[.slice (some ⟨G,0,none⟩) 19 19] 22 (0,0))
 n:aQ w G (ki ts)
 be:Below b0 w0 w
 told:Told w G ao l
 ne:Wb≠G/\b0<=G
theorem vF.next {Wb G:Nat}{ao:Option Addr}{l:List Nat}{b0:Nat}{w0 w:World}{ts:List (Nat×Nat)}(h:vF Wb G ao l b0 w0 w ts)(t:Nat×Nat): vF Wb G ao l b0 w0 (w.setCell ⟨G,t.1,none⟩ (.int .i64 ((ki ts).getD t.1 0+1))) (ts++[t]):=by
 obtain⟨n1,n2⟩:=h.ne;refine⟨(aak w ⟨G,t.1,none⟩ _ Wb n1).trans h.box,by rw[GY];exact h.n.set _ _,h.be.setCell (p:=⟨G,t.1,none⟩) n2 _,fun hn=>?_,h.ne⟩;obtain⟨g,cs,fr,e,h1,h2,h3⟩:=h.told hn;exact⟨g,cs,fr,e,h1,(aak w ⟨G,t.1,none⟩ _ g h1).trans h2,h3⟩
theorem Kw (Wb G:Nat)(ao:Option Addr)(l:List Nat)(b0:Nat)(w0 w:World)(ts:List (Nat×Nat))(t:Nat×Nat)(h:vF Wb G ao l b0 w0 w ts)(hts:ts.length<700)(h18:t.1<=18)(x k:Value): Calls Tryz.prog 189 #[.int .i64 t.1,x,k,.pointer (some ⟨Wb,0,none⟩)] w fun e w'=>e=.returned (.tuple #[])/\vF Wb G ao l b0 w0 w' (ts++[t]):=by
 obtain⟨s0,sz,sl⟩:=one_cell h.box;have cn:=h.n.at_ t.1 (by rw[rC];omega);have hfz:∀j,w.frozen? ⟨G,j,none⟩=false:=fun j=>aaI w G j _ _ h.n;have hr:=tX ts t.1;have HN:Hid (vF Wb G ao l b0 w0 (w.setCell ⟨G,t.1,none⟩ (.int .i64 ((ki ts).getD t.1 0+1))) (ts++[t])):=h.next t;generalize (ki ts).getD t.1 0=y at *;generalize hq:t.1=q at *;have aaz:(q:Int)<19:=by omega
 clear h hq
 go_enter Tryz.func189,Tryz.ntmps189
 go_wp2
 go_end0
 exact⟨rfl,HN.out⟩
theorem N5 (args:Array Value)(w:World):(callFunc 189 args).run Tryz.prog w=.ok (.enter 189 args) w:=by kernel_rfl
theorem yo (Wb G:Nat)(ao:Option Addr)(cap:Nat)(l:List Nat)(b0:Nat)(w0 w:World)(h:vF Wb G ao l b0 w0 w [])(hl:∀x∈l,x<=15)(h6:l.length<=600): Calls Tryz.prog 187 #[.slice ao l.length cap,.func (.func 189) #[] #[.pointer (some ⟨Wb,0,none⟩)]] w fun e w'=>e=.returned (.tuple #[])/\vF Wb G ao l b0 w0 w' (E l):=by
 refine jV 189 _ ao cap l (vF Wb G ao l b0 w0) ⟨?_,N5,?_,fun u ts h=>h.told.ints⟩ w h hl h6
 ·intro u ts t h hts h18 hx;exact Kw Wb G ao l b0 w0 u ts t h hts h18 _ _
 ·intro u ts n h;have hb:Below u.heap.size u (u.drewN n):=aaD (aav _ _) n;exact⟨h.box,h.n,aaD h.be n,h.told.below hb,h.ne⟩
structure Made (sw dw ls ds nl:List Int):Prop where
 s:∃ws,m8 sw ws 286/\2<=(heavy ws 286).length/\dU ws 286 15 ls
 d:dU dw 30 15 ds
 n:∃ws,m8 (ki (E (cV ls ds 286 30))) ws 19/\2<=(heavy ws 19).length/\dU ws 19 7 nl
theorem getD_take (l:List Int)(m j:Nat):(l.take m).getD j 0=if j<m then l.getD j 0 else 0:=by
 rw[aab,abZ];by_cases h:j<m
 ·rw[aaj h,aaj h,aab]
 ·rw[aai h,aai h];rfl
theorem yp (l:List Int)(m:Nat):∀k,k<=m->Rf.fs (l.take m) k=Rf.fs l k
 | 0,_=>rfl
 | k+1,h=>by rw[Rf.fs,Rf.fs,yp l m k (by omega),getD_take,aaj (show k<m by omega)]
theorem yq (l:List Int)(m:Nat):∀n,m<=n->(∀j,m<=j->j<n->l.getD j 0=0)->Rf.fs l n=Rf.fs l m
 | 0,h,_=>by
  have:m=0:=by omega
  rw[this]
 | n+1,h,hz=>by
  by_cases e:m=n+1
  ·rw[e]
  ·rw[Rf.fs,yq l m n (by omega) (fun j h1 h2=>hz j h1 (by omega)),hz n (by omega) (by omega)];simp
theorem wP (l:List Int)(least N:Nat)(hN:l.length=N):Rf.full (l.take (trimF l least N))=decide (Rf.fs l N=32768):=by
 have h1:=bK l least N;unfold Rf.full;rw[aa7,show min (trimF l least N) l.length=trimF l least N by omega,yp l _ _ (aah _),yq l _ N h1 (gT l least N)]
theorem EO (far:List Int)(j:Nat)(h:∀i,far.getD i 0=if i=j then 1 else 0):∀k,Rf.fc far k=(if j<k then 1 else 0)/\Rf.mH far k=(if j<k then 1 else 0)
 | 0=>by simp[Rf.fc,Rf.mH]
 | k+1=>by
  obtain⟨i1,i2⟩:=EO far j h k;rw[Rf.fc,Rf.mH,i1,i2,h k];by_cases e:k=j
  ·subst e;simp
  ·rw[aai e];by_cases e2:j<k
   ·have e3:j<k+1:=by omega
    simp[e2,e3]
   ·have e3:¬j<k+1:=by omega
    simp only[aai e2,aai e3];simp
theorem AJ (far:List Int)(h:∀i,far.getD i 0=0):∀k,Rf.fc far k=0
 | 0=>rfl
 | k+1=>by rw[Rf.fc,AJ far h k,h k];rfl
theorem Dl {sw dw ls ds nl:List Int}(h:Made sw dw ls ds nl)(Sh:0<sw.getD 256 0):Rf.jb (ls.take (trimF ls 257 286)) (ds.take (trimF ds 1 30))=false:=by
 obtain⟨ws,hw1,hw2,hw3⟩:=h.s;have a1:Rf.full (ls.take (trimF ls 257 286))=true:=by rw[wP ls 257 286 hw3.len];exact abj (hw3.full hw2)
 have a2:=iA ls 257 286 (by omega)
 have a3:(ls.take (trimF ls 257 286)).getD 256 0≠0:=by
  rw[getD_take,aaj (by omega)];have:=hw3.pos 256 ((gS ws 286 256).2 ⟨by omega,hw1.keep 256 Sh⟩);omega
 have b0:=bK ds 1 30;have bl:(ds.take (trimF ds 1 30)).length=trimF ds 1 30:=by rw[aa7,h.d.len];omega
 have bz:=gT ds 1 30;have b1:Rf.full (ds.take (trimF ds 1 30))=decide (Rf.fs ds 30=32768):=wP ds 1 30 h.d.len;unfold Rf.jb;rw[a1,b1,bl,abN a3];rcases aba (heavy dw 30).length 2 with hlt|hge
 ·rcases aba (heavy dw 30).length 1 with h0|h1
  ·have e0:heavy dw 30=[]:=aaG (by omega)
   have:=AJ (ds.take (trimF ds 1 30)) (fun i=>by
    rw[getD_take,h.d.non i (by rw[e0];simp)]
    simp) (trimF ds 1 30)
   rw[this];simp
  ·obtain⟨j,ej⟩:=List.length_eq_one_iff.1 (show (heavy dw 30).length=1 by omega);have hj:ds.getD j 0=1:=h.d.one (by omega) j (by rw[ej];simp);have aaB:j<30:=((gS dw 30 j).1 (by rw[ej];simp)).1
   have hjm:j<trimF ds 1 30:=by
    rcases aba j (trimF ds 1 30) with q|q
    ·exact q
    ·have:=bz j q aaB;omega
   have hs:=EO (ds.take (trimF ds 1 30)) j (fun i=>by
    rw[getD_take];by_cases e:i=j
    ·subst e;rw[aaj hjm,aaj rfl,hj]
    ·rw[aai e,h.d.non i (by rw[ej];simpa using e)]
     simp) (trimF ds 1 30)
   rw[hs.1,hs.2,aaj hjm,aaj hjm];simp
 ·rw[abj (h.d.full hge)];simp
theorem EP (T:List UInt8):∀{p q:Nat} {steps:List (Nat×Nat)},Rf.Fits T p steps q->p<=q
 | _,_,[],h=>Nat.le_of_eq h
 | _,_,_::_,h=>abe (Nat.le_add_right _ _) (EP T h.2)
theorem tY (T:List UInt8)(o n:Nat):∀{p:Nat} {steps:List (Nat×Nat)},Rf.Fits T (o+p) steps (o+n)->dG n p steps
 | p,[],h=>by
  have h:o+p=o+n:=h;show p<=n;omega
 | p,s::r,h=>by
  obtain⟨h1,h2⟩:=h;rw[acy]at h2;have hle:=EP T h2;refine⟨?_,tY T o n h2⟩;rcases h1 with⟨a,b,_⟩|⟨a,b,c,d,_⟩
  ·exact .inl ⟨a,b,by omega⟩
  ·exact .inr ⟨a,b,c,d,by omega⟩
theorem ER (x:Nat):Rf.nb x 0=[]:=aaG (Rf.aC x 0)
theorem ES (ls ds:List Int)(T U:List UInt8)(o n:Nat)(hU:∀j,j<n->U.getD j 0=T.getD (o+j) 0):∀(p:Nat) (steps:List (Nat×Nat)),dG n p steps -> ay ls ds (ar U p steps)=Rf.dN (Rf.bg ls) (Rf.bg ds) T (o+p) steps
 | p,[],_=>by simp[ar,ay,Rf.dN,ER]
 | p,s::r,h=>by
  have ih:=ES ls ds T U o n hU (p+s.1) r h.2;have e:ay ls ds (dF U p s++ar U (p+s.1) r)=ay ls ds (dF U p s)++ay ls ds (ar U (p+s.1) r):=by simp[ay]
  rw[ar,Rf.dN,e,ih,acy]
  congr 1
  unfold dF Rf.j9;by_cases h0:s.2=0
  ·have hp:p<n:=by
    rcases h.1 with⟨_,_,q⟩|⟨_,_,q,_⟩
    ·exact q
    ·omega
   rw[aaj h0,aaj h0,hU p hp];simp[ay,ER]
  ·rw[aai h0,aai h0];simp[ay]
end Go.Proofs.YtmfijackgekioabGreatDoor
