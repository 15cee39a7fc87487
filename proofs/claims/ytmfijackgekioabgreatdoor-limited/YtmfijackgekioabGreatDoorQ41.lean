import Derived.Test.YtmfijackgekioabGreatDoorQ39
import Derived.Test.YtmfijackgekioabGreatDoorLt
set_option maxHeartbeats 1000000
set_option maxRecDepth 100000
namespace Go.Proofs.YtmfijackgekioabGreatDoor
open Go.RowKit Go.Maps
abbrev bC (h:Hd)(pv sv:Value):Array Value:=#[.int .i64 h.wd,.int .i64 h.ht,.int .i64 h.kd,.int .i64 h.dp,.bool h.ps,pv,sv]
def vE (h:Hd):List UInt8:=[UInt8.ofNat h.dp.toNat,UInt8.ofNat h.kd.toNat,0,0,if h.ps=true then 1 else 0]
theorem sE {u:World}{j:Nat}{d k p:Int}{h:Hd}(hb:u.heap[j]?=some (.cells #[.int .u8 d,.int .u8 k,.int .u8 0,.int .u8 0,.int .u8 p] 5 (0,0)))(e:(vE h).map cx=[.int .u8 d,.int .u8 k,.int .u8 0,.int .u8 0,.int .u8 p]): (convert 36 9 (.slice (some ⟨j,0,none⟩) 5 5)).run Tryz.prog u=.ok (.string ⟨(vE h).toArray⟩) u:=by
 refine fR (base:=j) (n:=5) (l:=vE h) ⟨rfl,.inr ⟨j,5,_,rfl,aaf _,hb,aaf _,by unfold maxLen;omega,rfl,?_⟩⟩ rfl;rw[e];rfl
theorem IV {h:Hd}(hf:jH h):(vE h).map cx=[.int .u8 h.dp,.int .u8 h.kd,.int .u8 0,.int .u8 0,.int .u8 (if h.ps=true then 1 else 0)]:=by
 have hd:=Pm.cK _ _ hf.ch;have hk:=zB hf.ch;simp only[vE,acR,List.map_nil,cx];rw[vx (x:=h.dp) (by omega) (by omega),vx (x:=h.kd) (by omega) (by omega)];cases h.ps<;>rfl
theorem Ez (h:Hd)(pv sv:Value)(w:World)(hf:jH h): Calls Tryz.prog 50 #[.agg (bC h pv sv)] w fun e w'=>e=.returned (.string (aT h))/\Below w.heap.size w w':=by
 have Vk:=IV hf;have hd:=Pm.cK _ _ hf.ch;have hk:=zB hf.ch;obtain⟨W,hW⟩:∃W:Nat,h.wd=(W:Int):=⟨h.wd.toNat,by have:=hf.wd;omega⟩
 obtain⟨H,hH⟩:∃H:Nat,h.ht=(H:Int):=⟨h.ht.toNat,by have:=hf.ht;omega⟩
 have w1:=hf.wd;have h1:=hf.ht
 have HE:Hid (aT h=(⟨(four (W:Int)).toArray⟩++⟨(four (H:Int)).toArray⟩:ByteArray)++⟨(vE h).toArray⟩):=by
  refine ba_eq ?_;rw[je,je,<-hW,<-hH];rfl
 have Yx:=fun u=>qk W u (by omega);have Yy:=fun u=>qk H u (by omega);have hl4:∀a,(four a).length=4:=fun _=>rfl;obtain⟨p,hp⟩:∃p:Int,p=if h.ps=true then 1 else 0:=⟨_,rfl⟩
 rw[<-hp]at Vk;have wd8:IntKind.u8.wrap h.dp=h.dp:=by rw[ab7];omega
 have wk8:IntKind.u8.wrap h.kd=h.kd:=by rw[ab7];omega
 obtain⟨k0,q0,q1⟩:=bM w (.cells (bC h pv sv) 24) (.cells #[.int .u8 h.dp,.int .u8 h.kd,.int .u8 0,.int .u8 0,.int .u8 p] 5);obtain⟨x0,x1,x2,x3,x4,x5,x6⟩:=aR (ah w (.cells (bC h pv sv) 24));have z2:((w.alloc (.cells (bC h pv sv) 24)).alloc (.cells #[.int .u8 h.dp,.int .u8 h.kd,.int .u8 0,.int .u8 0,.int .u8 p] 5)).heap.size=w.heap.size+2:=by simp
 have HQ:Hid (_/\_/\_):=⟨k0,q0,q1⟩
 have HV:Hid (_):=Vk;have hrl:(vE h).length=5:=rfl;clear k0 q0 q1 Vk;rcases Bool.eq_false_or_eq_true h.ps with hps|hps
 ·rw[hps]at hp x4;rw[aai rfl]at hp;subst hp
  go_enter Tryz.func50,Tryz.ntmps50
  go_wp2_with fail;have hS:((w.alloc (.cells (bC h pv sv) 24)).alloc (.cells #[.int .u8 h.dp,.int .u8 h.kd,.int .u8 0,.int .u8 0,.int .u8 1] 5)).drew.heap[w.heap.size]?=some (.cells (bC h pv sv) 24 (0,0))/\((w.alloc (.cells (bC h pv sv) 24)).alloc (.cells #[.int .u8 h.dp,.int .u8 h.kd,.int .u8 0,.int .u8 0,.int .u8 1] 5)).drew.heap[w.heap.size+1]?=some (.cells #[.int .u8 h.dp,.int .u8 h.kd,.int .u8 0,.int .u8 0,.int .u8 1] 5 (0,0)):=⟨HQ.out.2.1,HQ.out.2.2⟩
  have kS:Below w.heap.size w ((w.alloc (.cells (bC h pv sv) 24)).alloc (.cells #[.int .u8 h.dp,.int .u8 h.kd,.int .u8 0,.int .u8 0,.int .u8 1] 5)).drew:=HQ.out.1.drew;have zS:((w.alloc (.cells (bC h pv sv) 24)).alloc (.cells #[.int .u8 h.dp,.int .u8 h.kd,.int .u8 0,.int .u8 0,.int .u8 1] 5)).drew.heap.size=w.heap.size+2:=z2;refine ax (fun u=>u.heap[w.heap.size]?=some (.cells (bC h pv sv) 24 (0,0))/\u.heap[w.heap.size+1]?=some (.cells #[.int .u8 h.dp,.int .u8 h.kd,.int .u8 0,.int .u8 0,.int .u8 1] 5 (0,0))) 99 ?_;generalize World.drew _=v0 at *;refine ap [0,1,3,4] ?_
  iterate 4 (refine ay (v:=?_) (T:=?_) ?ht ?hy hS ?_;(case hy=>intro w hSw;(have xP := aR hSw.1; rw [hW, hH] at xP); go_simp;try with_reducible rfl);case ht=>go_simp;try with_reducible rfl)
  refine aj ?_;refine ap [7,8] ?_
  iterate 2 (refine ay (v:=?_) (T:=?_) ?ht ?hy hS ?_;(case hy=>intro w hSw;have xP := sE (h := h) hSw.2 HV.out; go_simp;try with_reducible rfl);case ht=>go_simp;try with_reducible rfl)
  refine aj ?_;refine ag 2 fun K hK=>?_;go_simp;refine (Yx _).mono ?_;rintro e v1 ⟨rfl,b1⟩;have zb:=b1.size;have S1:v1.heap[w.heap.size]?=some (.cells (bC h pv sv) 24 (0,0))/\v1.heap[w.heap.size+1]?=some (.cells #[.int .u8 h.dp,.int .u8 h.kd,.int .u8 0,.int .u8 0,.int .u8 1] 5 (0,0)):=⟨(b1.block _ (by omega)).trans hS.1,(b1.block _ (by omega)).trans hS.2⟩
  refine hK _ _ (fun _=>S1) ?_;clear hK K;refine ag 5 fun K hK=>?_;go_simp;refine (Yy _).mono ?_;rintro e v2 ⟨rfl,b2⟩;have S2:v2.heap[w.heap.size]?=some (.cells (bC h pv sv) 24 (0,0))/\v2.heap[w.heap.size+1]?=some (.cells #[.int .u8 h.dp,.int .u8 h.kd,.int .u8 0,.int .u8 0,.int .u8 1] 5 (0,0)):=⟨(b2.block _ (by omega)).trans S1.1,(b2.block _ (by omega)).trans S1.2⟩
  have HB:Hid (Below w.heap.size w v2):=(kS.trans (b1.mono (by omega))).trans (b2.mono (by omega));refine hK _ _ (fun _=>S2) ?_;clear hK K b1 b2 kS;refine ap [6,9,10] ?_
  iterate 3 (refine ay (v:=?_) (T:=?_) ?ht ?hy S2 ?_;(case hy=>intro w hSw;(try dsimp only at hSw); go_simp;try with_reducible rfl);case ht=>go_simp;try with_reducible rfl)
  refine aj ?_;refine am ?_;go_wp2
  go_ret
  exact⟨by rw[HE.out];rfl,HB.out⟩
 ·rw[hps]at hp x4;rw[aag (by decide)]at hp;subst hp
  go_enter Tryz.func50,Tryz.ntmps50
  go_wp2_with fail;have hS:((w.alloc (.cells (bC h pv sv) 24)).alloc (.cells #[.int .u8 h.dp,.int .u8 h.kd,.int .u8 0,.int .u8 0,.int .u8 0] 5)).drew.heap[w.heap.size]?=some (.cells (bC h pv sv) 24 (0,0))/\((w.alloc (.cells (bC h pv sv) 24)).alloc (.cells #[.int .u8 h.dp,.int .u8 h.kd,.int .u8 0,.int .u8 0,.int .u8 0] 5)).drew.heap[w.heap.size+1]?=some (.cells #[.int .u8 h.dp,.int .u8 h.kd,.int .u8 0,.int .u8 0,.int .u8 0] 5 (0,0)):=⟨HQ.out.2.1,HQ.out.2.2⟩
  have kS:Below w.heap.size w ((w.alloc (.cells (bC h pv sv) 24)).alloc (.cells #[.int .u8 h.dp,.int .u8 h.kd,.int .u8 0,.int .u8 0,.int .u8 0] 5)).drew:=HQ.out.1.drew;have zS:((w.alloc (.cells (bC h pv sv) 24)).alloc (.cells #[.int .u8 h.dp,.int .u8 h.kd,.int .u8 0,.int .u8 0,.int .u8 0] 5)).drew.heap.size=w.heap.size+2:=z2;refine ax (fun u=>u.heap[w.heap.size]?=some (.cells (bC h pv sv) 24 (0,0))/\u.heap[w.heap.size+1]?=some (.cells #[.int .u8 h.dp,.int .u8 h.kd,.int .u8 0,.int .u8 0,.int .u8 0] 5 (0,0))) 99 ?_;generalize World.drew _=v0 at *;refine ap [0,1,3,4] ?_
  iterate 4 (refine ay (v:=?_) (T:=?_) ?ht ?hy hS ?_;(case hy=>intro w hSw;(have xP := aR hSw.1; rw [hW, hH] at xP); go_simp;try with_reducible rfl);case ht=>go_simp;try with_reducible rfl)
  refine aj ?_;refine ap [7,8] ?_
  iterate 2 (refine ay (v:=?_) (T:=?_) ?ht ?hy hS ?_;(case hy=>intro w hSw;have xP := sE (h := h) hSw.2 HV.out; go_simp;try with_reducible rfl);case ht=>go_simp;try with_reducible rfl)
  refine aj ?_;refine ag 2 fun K hK=>?_;go_simp;refine (Yx _).mono ?_;rintro e v1 ⟨rfl,b1⟩;have zb:=b1.size;have S1:v1.heap[w.heap.size]?=some (.cells (bC h pv sv) 24 (0,0))/\v1.heap[w.heap.size+1]?=some (.cells #[.int .u8 h.dp,.int .u8 h.kd,.int .u8 0,.int .u8 0,.int .u8 0] 5 (0,0)):=⟨(b1.block _ (by omega)).trans hS.1,(b1.block _ (by omega)).trans hS.2⟩
  refine hK _ _ (fun _=>S1) ?_;clear hK K;refine ag 5 fun K hK=>?_;go_simp;refine (Yy _).mono ?_;rintro e v2 ⟨rfl,b2⟩;have S2:v2.heap[w.heap.size]?=some (.cells (bC h pv sv) 24 (0,0))/\v2.heap[w.heap.size+1]?=some (.cells #[.int .u8 h.dp,.int .u8 h.kd,.int .u8 0,.int .u8 0,.int .u8 0] 5 (0,0)):=⟨(b2.block _ (by omega)).trans S1.1,(b2.block _ (by omega)).trans S1.2⟩
  have HB:Hid (Below w.heap.size w v2):=(kS.trans (b1.mono (by omega))).trans (b2.mono (by omega));refine hK _ _ (fun _=>S2) ?_;clear hK K b1 b2 kS;refine ap [6,9,10] ?_
  iterate 3 (refine ay (v:=?_) (T:=?_) ?ht ?hy S2 ?_;(case hy=>intro w hSw;(try dsimp only at hSw); go_simp;try with_reducible rfl);case ht=>go_simp;try with_reducible rfl)
  refine aj ?_;refine am ?_;go_wp2
  go_ret
  exact⟨by rw[HE.out];rfl,HB.out⟩
theorem PA {p:List Int}{i:Nat}(hi:i<p.length)(h:Pm.eD p 256=true):(p.take i++List.replicate (p.length-i) 0).set i (IntKind.u8.wrap p[i])=p.take (i+1)++List.replicate (p.length-(i+1)) 0:=by
 unfold Pm.eD at h;rw[List.all_eq_true]at h;have hx:=h _ (abl hi);simp only[aaQ,aaP]at hx;have e:IntKind.u8.wrap p[i]=p[i]:=by rw[ab7];omega
 have hl:(p.take i).length=i:=by rw[aaX];omega
 rw[e,adg,aag (by omega),hl,Nat.sub_self,show p.length-i=(p.length-(i+1))+1 by omega,List.replicate_succ,List.set_cons_zero,aa7 hi,aar];rfl
theorem IW (ao:Option Addr)(cap:Nat)(p:List Int)(w:World)(hi:Ints w ao p)(ha:∀a,ao=some a->p≠[]->a.block<w.heap.size)(hp:Pm.eD p 256=true)(hl:p.length<=1000000): Calls Tryz.prog 51 #[.slice ao p.length cap] w fun e w'=>e=.returned (.string (cq p))/\Below w.heap.size w w':=by
 obtain⟨n,hn⟩:∃n,n=p.length:=⟨_,rfl⟩
 rw[<-hn]at hl ⊢;obtain⟨Z,hZ⟩:∃Z:List Value,Z=List.replicate n (.int .u8 0):=⟨_,rfl⟩
 have hmk:=fun u=>zq n (by omega) Z hZ u;have k0:=ae w (.cells Z.toArray 5)
 have q0:cL (w.alloc (.cells Z.toArray 5)) w.heap.size (p.take 0++List.replicate (n-0) 0):=by
  have e:Z=cZ (p.take 0++List.replicate (n-0) 0):=by rw[hZ];simp[cZ]
  unfold cL;rw[<-e];exact ah w _
 have HH:Hid (_/\_/\_/\_):=⟨hi,ha,k0,q0⟩
 have HP:Hid (_/\_):=⟨hp,hn⟩
 clear hi ha k0 q0 hZ hp hn
 go_enter Tryz.func51,Tryz.ntmps51
 go_wp2
 go_loopw [11] (fun ix wr=>∃i:Nat,i<=n/\ix=.int .i64 i/\Hid (cL wr w.heap.size (p.take i++List.replicate (n-i) 0))/\Hid (Below w.heap.size w wr)) (fun ix _=>n-(intOf ix).toNat)
 case atStart=>exact⟨0,aao _,rfl,HH.out.2.2.2,HH.out.2.2.1⟩
 case round =>
  obtain⟨i,hin,rfl,HB,HK⟩:=hrel;by_cases hlt:i<n
  ·have hlt':(i:Int)<(n:Int):=by omega
   have hlt2:i<p.length:=by rw[<-HP.out.2];exact hlt
   obtain⟨b,off,rfl,hc⟩:=(HH.out.1.below HK.out HH.out.2.1) i hlt2;have lb:=aac HB.out;have fz:=HB.out.frozen i;obtain⟨O,hO⟩:∃O,wr.cell? ⟨w.heap.size,i,none⟩=some (.int .u8 O):=⟨_,HB.out.cell i (by rw[aae,aaX,aaB];omega)⟩
   have HN:Hid (cL (wr.setCell ⟨w.heap.size,i,none⟩ (.int .u8 (IntKind.u8.wrap p[i]))) w.heap.size (p.take (i+1)++List.replicate (n-(i+1)) 0)/\Below w.heap.size w (wr.setCell ⟨w.heap.size,i,none⟩ (.int .u8 (IntKind.u8.wrap p[i])))):=by
    refine⟨?_,HK.out.setCell (p:=⟨w.heap.size,i,none⟩) (aaf _) _⟩;have:=HB.out.set i (IntKind.u8.wrap p[i]);rw[HP.out.2,PA hlt2 HP.out.1,<-HP.out.2]at this;exact this
   generalize p[i]=V at *;go_wp2
   go_roundw
   case rel=>exact⟨i+1,by omega,by go_num,HN.out.1,HN.out.2⟩
   case measure=>simp[intOf];omega
  ·have hie:i=n:=by omega
   subst hie
   have hall:∀y∈p,0<=y/\y<256:=by
    have h:=HP.out.1;unfold Pm.eD at h;rw[List.all_eq_true]at h;intro y hy;have hx:=h y hy;simp only[aaQ,aaP]at hx;exact hx
   have hst:(convert 36 9 (.slice (some ⟨w.heap.size,0,none⟩) i i)).run Tryz.prog wr=.ok (.string (cq p)) wr:=by
    have hB:=HB.out;rw[HP.out.2,List.take_length,Nat.sub_self,List.replicate_zero,abm]at hB;have hv:=qx hall;refine fR (base:=w.heap.size) (n:=i) (l:=p.map fun y=>UInt8.ofNat y.toNat) ⟨by rw[abZ,abZ,HP.out.2,Nat.mul_one],.inr ⟨w.heap.size,i,(cZ p).toArray,rfl,aaf _,hB,aaf _,by unfold maxLen;omega,by rw[List.size_toArray,abZ,HP.out.2,Nat.mul_one],?_⟩⟩ (by rw[abZ,HP.out.2]);rw[<-hv,HP.out.2,Nat.mul_one];show (cZ p).take p.length=cZ p;exact aa5 (by rw[abZ];exact aaf _)
   clear hall;go_wp2
   go_ret
   exact⟨rfl,HK.out⟩
abbrev j5 (b:Nat):Value:=.func (.func 86) #[] #[.pointer (some ⟨b,0,none⟩)]
theorem vF (args:Array Value)(w:World):(callFunc 86 args).run Tryz.prog w=.ok (.enter 86 args) w:=by kernel_rfl
theorem MG (B b:Nat)(l:List UInt8)(c:Ch)(v:Value)(w:World)(h:mR w B b l v)(hB:B<=w.heap.size)(hz:l.length+12+c.name.size+c.data.size<=900000000): Calls Tryz.prog 86 #[.agg #[.string c.name,.string c.data],.pointer (some ⟨b,0,none⟩)] w fun e w'=>e=.returned (.tuple #[])/\∃v',mR w' B b (l++fg c) v'/\ld B b w w':=acn B b l c v w h hB hz
theorem Ul (B b bP:Nat)(l:List UInt8)(d:ByteArray)(v:Value)(w:World)(h:mR w B b l v)(hP:bK w bP (j5 b) 80)(hB:B<=w.heap.size)(hz:l.length+16+d.size<=900000000): Calls Tryz.prog 53 #[.string d,.pointer (some ⟨bP,0,none⟩)] w fun e w'=>e=.returned (.tuple #[])/\∃v',mR w' B b (l++fg ⟨aE cj,d⟩) v'/\ld B b w w':=by
 have hcall:=vF;have sq:=MG B b l ⟨aE cj,d⟩ v w h hB (by show _+12+4+_<=_;omega);have c0:=hP.cell;dsimp only[aE]at sq;clear h hP
 go_enter Tryz.func53,Tryz.ntmps53
 go_wp2_with fail;refine sq.mono ?_;rintro e w1 ⟨rfl,v',h1,h2⟩;have HF:Hid (_/\_):=⟨h1,h2⟩
 clear h1 h2 sq;go_wp2
 go_end0
 exact⟨rfl,v',HF.out⟩
theorem EA (args:Array Value)(w:World):(callFunc 53 args).run Tryz.prog w=.ok (.enter 53 args) w:=by kernel_rfl
theorem rG (L:List Ch)(c:Ch):aC (L++[c])=aC L++fg c:=by rw[nY];show _++(fg c++[])=_;rw[abm]
theorem IX (X:ByteArray)(q s:Nat):X.extract 0 q++X.extract q (q+s)=X.extract 0 (q+s):=by
 refine ba_eq ?_;rw[je,cF,cF,cF,ac6,ac6];have:=acD q (X.data.toList.take (q+s));rw[List.take_take,Nat.min_eq_left (by omega)]at this;exact this
theorem tw (X:ByteArray):X.extract 0 X.size=X:=by
 refine ba_eq ?_;rw[cF,ac6,aa5 (by rw[ba];exact aaf _)]
structure IY (X:ByteArray) (q most:Nat) (ds:List ByteArray):Prop where
 cat:eO ds=X.extract 0 q
 few:∀d∈ds,1<=d.size/\d.size<=most
theorem vG (B b bP:Nat)(l:List UInt8)(X:ByteArray)(most:Nat)(v:Value)(w:World)(h:mR w B b l v)(hP:bK w bP (j5 b) 80)(hPb:bP≠b)(hB:B<=w.heap.size)(hm:1<=most/\most<=1048576)(hX:X.size<=10000000)(hl:l.length<=100000000): Calls Tryz.prog 52 #[.string X,.int .i64 (most:Nat),.func (.func 53) #[] #[.pointer (some ⟨bP,0,none⟩)]] w fun e w'=>e=.returned (.tuple #[])/\∃ds v',IY X X.size most ds/\mR w' B b (l++aC (eG ds)) v'/\ld B b w w':=by
 have hcall:=EA;have HH:Hid (_/\_):=⟨h,hP⟩
 have HX:Hid (_/\_):=⟨hX,hl⟩
 clear h hP hX hl
 go_enter Tryz.func52,Tryz.ntmps52
 go_wp2
 go_loopw [0] (fun bv wr=>∃(q:Nat) (r:ByteArray) (ds:List ByteArray) (v':Value),bv=.string r/\r.size+q=X.size/\Hid (r=X.extract q X.size)/\Hid (IY X q most ds)/\Hid (mR wr B b (l++aC (eG ds)) v'/\(aC (eG ds)).length<=13*q)/\Hid (ld B b w wr)) (fun bv _=>Tw bv)
 case atStart=>exact⟨0,X,[],v,rfl,rfl,(tw X).symm,⟨by show (⟨#[]⟩:ByteArray)=_;refine ba_eq ?_;rw[cF,List.take_zero];rfl,fun d hd=>absurd hd (abC)⟩,⟨by show mR _ _ _ (l++[]) _;rw[abm];exact HH.out.1,aao _⟩,ld.refl _ _ _⟩
 case round =>
  obtain⟨q,r,ds,v',rfl,hq,HR,HP,Yz,YA⟩:=hrel;by_cases h0:r.size=0
  ·have h0i:¬(r.size:Int)>0:=by omega
   have HF:Hid (IY X X.size most ds):=by show IY _ _ _ _;rw[<-hq,h0,aaR];exact HP.out
   clear HP;go_wp2
   go_end0
   exact⟨rfl,ds,HF.out,⟨v',Yz.out.1⟩,YA.out⟩
  ·have h0i:(r.size:Int)>0:=by omega
   obtain⟨s,hs⟩:∃s,s=min most r.size:=⟨_,rfl⟩
   have hsi:min (most:Int) (r.size:Int)=(s:Int):=by omega
   have hs1:(s:Int)<=(r.size:Int):=by omega
   have hs2:1<=s/\s<=most/\s<=r.size:=by omega
   have zz:=YA.out.size
   have hpc:=Ul B b bP (l++aC (eG ds)) (r.extract 0 s) v' wr Yz.out.1 (YA.out.typ _ _ _ _ HH.out.2 (by decide) hPb) (by omega) (by
    rw[aae,aaO];have:=Yz.out.2;have:=HX.out
    omega)
   have TJ:(r.extract 0 s).size=s:=by rw[aaO];omega
   have er:r.extract 0 s=X.extract q (q+s):=by
    rw[HR.out];refine ba_eq ?_;rw[cF,cF,cF,ac6,aa5 (l:=X.data.toList) (by rw[ba];exact aaf _),List.drop_take,Nat.add_sub_cancel_left]
   have er2:r.extract s r.size=X.extract (q+s) X.size:=by
    rw[HR.out];refine ba_eq ?_;rw[cF,aa5 (by rw[ba];exact aaf _),cF,cF,aa5 (l:=X.data.toList) (by rw[ba];exact aaf _),List.drop_drop]
   have HN:Hid (IY X (q+s) most (ds++[r.extract 0 s])):=by
    refine⟨?_,fun d hd=>?_⟩
    ·rw[Bv,HP.out.cat,er];exact IX X q s
    ·rcases abw.1 hd with hd|hd
     ·exact HP.out.few d hd
     ·rcases abR.1 hd with rfl;omega
   have HL:Hid ((aC (eG (ds++[r.extract 0 s]))).length<=13*(q+s)/\l++aC (eG ds)++fg ⟨aE cj,r.extract 0 s⟩=l++aC (eG (ds++[r.extract 0 s]))):=by
    have e:eG (ds++[r.extract 0 s])=eG ds++[⟨aE cj,r.extract 0 s⟩]:=aca;rw[e,rG];refine⟨?_,by rw[aar]⟩;rw[aae,dQ ⟨rfl,rfl,by show (r.extract 0 s).size<=_;omega⟩];show _+(12+(r.extract 0 s).size)<=_;have:=Yz.out.2;omega
   have HER:Hid (r.extract s r.size=X.extract (q+s) X.size/\(r.extract s r.size).size+(q+s)=X.size):=⟨er2,by rw[aaO];omega⟩
   have hsn:(r.extract s r.size).size<r.size:=by rw[aaO];omega
   clear er er2 TJ hs;go_wp2_with fail;refine hpc.mono ?_;rintro e w1 ⟨rfl,v2,h1,h2⟩;have HF:Hid (mR w1 B b (l++aC (eG (ds++[r.extract 0 s]))) v2/\(aC (eG (ds++[r.extract 0 s]))).length<=13*(q+s)):=⟨by rw[<-HL.out.2];exact h1,HL.out.1⟩
   have HG:Hid (ld B b w w1):=YA.out.trans h2;clear h1 h2 hpc HL Yz YA;go_wp2
   go_roundw
   case rel=>exact⟨q+s,_,_,v2,rfl,HER.out.2,HER.out.1,HN,HF,HG⟩
   case measure=>exact hsn
structure sU (w:World) (M bW bS P0 b:Nat) (h:Hd) (pv sv:Value) (X:ByteArray) (lv fl ck:Int):Prop where
 m:w.heap[M]?=some (.cells (bC h pv sv) 24 (0,0))
 x:bK w bW (.string X) 9
 s:w.heap[bS]?=some (.cells #[.int .i64 lv,.int .i64 fl,.int .i64 ck] 29 (0,0))
 p:bK w P0 (j5 b) 80
theorem sU.fr {w w':World}{M bW bS P0 b B:Nat}{h:Hd}{pv sv:Value}{X:ByteArray}{lv fl ck:Int}(e:sU w M bW bS P0 b h pv sv X lv fl ck)(k:ld B b w w')(hne:M≠b/\bW≠b/\bS≠b/\P0≠b):sU w' M bW bS P0 b h pv sv X lv fl ck :=
 ⟨k.typ _ _ _ _ e.m (by decide) hne.1,k.typ _ _ _ _ e.x (by decide) hne.2.1,k.typ _ _ _ _ e.s (by decide) hne.2.2.1,k.typ _ _ _ _ e.p (by decide) hne.2.2.2⟩
theorem sU.below {w w':World}{M bW bS P0 b:Nat}{h:Hd}{pv sv:Value}{X:ByteArray}{lv fl ck:Int}(e:sU w M bW bS P0 b h pv sv X lv fl ck)(k:Below w.heap.size w w'):sU w' M bW bS P0 b h pv sv X lv fl ck :=
 ⟨(k.block _ (aac e.m)).trans e.m,(k.block _ (aac e.x)).trans e.x,(k.block _ (aac e.s)).trans e.s,(k.block _ (aac e.p)).trans e.p⟩
theorem oA {w:World}{T:Nat}{a b c:Value}{t:TypeId}(h:w.heap[T]?=some (.cells #[a,b,c] t (0,0))):w.cell? ⟨T,0,none⟩=some a/\w.cell? ⟨T,1,none⟩=some b/\w.cell? ⟨T,2,none⟩=some c :=
 ⟨aas _ _ _ _ _ _ h,aas _ _ _ _ _ _ h,aas _ _ _ _ _ _ h⟩
theorem rH {w:World}{M bW bS P0 b:Nat}{h:Hd}{pv sv:Value}{X:ByteArray}{lv fl ck:Int}(e:sU w M bW bS P0 b h pv sv X lv fl ck): (w.cell? ⟨M,0,none⟩=some (.int .i64 h.wd)/\w.cell? ⟨M,1,none⟩=some (.int .i64 h.ht)/\w.cell? ⟨M,2,none⟩=some (.int .i64 h.kd)/\w.cell? ⟨M,3,none⟩=some (.int .i64 h.dp)/\w.cell? ⟨M,4,none⟩=some (.bool h.ps)/\w.cell? ⟨M,5,none⟩=some pv/\w.cell? ⟨M,6,none⟩=some sv) /\ w.cell? ⟨bW,0,none⟩=some (.string X)/\w.cell? ⟨bS,2,none⟩=some (.int .i64 ck)/\w.cell? ⟨P0,0,none⟩=some (j5 b):=by
 obtain⟨a0,a1,a2,a3,a4,a5,a6⟩:=aR e.m;exact⟨⟨a0,a1,a2,a3,a4,a5,a6⟩,e.x.cell,(oA e.s).2.2,e.p.cell⟩
theorem yb {X:ByteArray}{most:Nat}{ds:List ByteArray}(h:IY X X.size most ds)(hX:0<X.size):ds≠[]:=fun e=>by
 have:=h.cat;rw[e,tw]at this;have:=abY ByteArray.size this;show False;rw[<-this]at hX;exact absurd hX (by show ¬0<0;omega)
theorem zI {X:ByteArray}{most:Nat}{ds:List ByteArray}(h:IY X X.size most ds):(aC (eG ds)).length<=13*X.size:=by
 have key:∀ds:List ByteArray,(∀d∈ds,1<=d.size/\d.size<=most)->(aC (eG ds)).length<=13*(eO ds).size:=by
  intro ds
  induction ds with
  | nil=>intro _;exact aao _
  | cons d r ih =>
   intro hd;have h1:=ih (fun x hx=>hd x (ab3 _ hx));have h2:=hd d abo;show (fg ⟨aE cj,d⟩++aC (eG r)).length<=13*(d++eO r).size;rw[aae,ByteArray.size_append]
   have h3:(fg ⟨aE cj,d⟩).length=12+d.size:=by
    unfold fg;simp only[aae,ba];show 4+(4+(_+4))=_;omega
   omega
 have:=key ds h.few;rw[h.cat,tw]at this;exact this
theorem MH (h:Hd):(fg ⟨aE bX,aT h⟩).length=25:=by rw[dQ ⟨rfl,rfl,by show 13<=_;omega⟩];rfl
theorem YB (B b M bW bS:Nat)(l:List UInt8)(h:Hd)(aq:List Int)(pa:Option Addr)(pc:Nat)(sv v:Value)(X:ByteArray)(lv fl:Int)(ck:Nat)(w:World)(hb:mR w B b l v)(hm:w.heap[M]?=some (.cells (bC h (.slice pa aq.length pc) sv) 24 (0,0)))(hW:bK w bW (.string X) 9)(hS:w.heap[bS]?=some (.cells #[.int .i64 lv,.int .i64 fl,.int .i64 ck] 29 (0,0)))(hne:M≠b/\bW≠b/\bS≠b)(hB:B<=w.heap.size)(hf:jH h)(hpa:Ints w pa aq)(hpl:∀a,pa=some a->aq≠[]->a.block<B)(hpb:h.kd=3->Pm.eD aq 256=true)(hpn:aq.length<=1000000)(hX:X.size<=10000000)(hck:1<=ck/\ck<=1048576)(hl:l.length<=1000): Calls Tryz.prog 49 #[j5 b,.pointer (some ⟨M,0,none⟩),.pointer (some ⟨bW,0,none⟩),.pointer (some ⟨bS,0,none⟩)] w fun e w'=>e=.returned (.tuple #[])/\∃ds v',IY X X.size ck ds/\mR w' B b (l++aC (aN h aq ds)) v'/\ld B b w w':=by
 have hcall:=vF;have hhb:=fun u=>Ez h (.slice pa aq.length pc) sv u hf;have k0:=ae w (.cells #[j5 b] 80);have q0:=ah w (.cells #[j5 b] 80);have z0:(w.alloc (.cells #[j5 b] 80)).heap.size=w.heap.size+1:=by simp
 have lb:=hb.lt;have E0:sU (w.alloc (.cells #[j5 b] 80)) M bW bS w.heap.size b h (.slice pa aq.length pc) sv X lv fl ck:=⟨(k0.block _ (aac hm)).trans hm,(k0.block _ (aac hW)).trans hW,(k0.block _ (aac hS)).trans hS,q0⟩
 have b0:=hb.below k0;have t0:ld B b w (w.alloc (.cells #[j5 b] 80)):=ld.aH k0 hB;have YC:M≠b/\bW≠b/\bS≠b/\w.heap.size≠b:=⟨hne.1,hne.2.1,hne.2.2,by omega⟩
 have HI:Hid (_/\_/\_):=⟨hpa,hpl,hpb⟩
 have HT:Hid (_):=t0;have Vl:Hid (_):=YC;clear hb hm hW hS k0 q0 t0 hne YC hpa hpl hpb hf
 go_enter Tryz.func49,Tryz.ntmps49
 go_wp2_with fail;have S0:sU (w.alloc (.cells #[j5 b] 80)).drew M bW bS w.heap.size b h (.slice pa aq.length pc) sv X lv fl ck:=⟨E0.m,E0.x,E0.s,E0.p⟩
 have B0:mR (w.alloc (.cells #[j5 b] 80)).drew B b l v:=b0.kept (fun _ _=>rfl);have T0:ld B b w (w.alloc (.cells #[j5 b] 80)).drew:=⟨HT.out.below.drew,fun j cs t fr hj h5 hjb=>HT.out.typ j cs t fr hj h5 hjb⟩
 have Z0:(w.alloc (.cells #[j5 b] 80)).drew.heap.size=w.heap.size+1:=z0;refine ax (fun u=>sU u M bW bS w.heap.size b h (.slice pa aq.length pc) sv X lv fl ck) 99 ?_;generalize World.drew _=v0 at *;clear E0 b0 z0 HT;refine ap [0,1] ?_
 iterate 2 (refine ay (v:=?_) (T:=?_) ?ht ?hy S0 ?_;(case hy=>intro w hSw;have xP := rH hSw; go_simp;try with_reducible rfl);case ht=>go_simp;try with_reducible rfl)
 refine aj ?_;refine ag 2 fun K hK=>?_;go_simp;refine (hhb _).mono ?_;rintro e v1 ⟨rfl,b1⟩;have z1:=b1.size;have S1:=S0.below b1;have B1:=B0.below b1;have T1:=T0.trans (ld.aH (B:=B) (b:=b) b1 (by omega));have sq:=MG B b l ⟨aE bX,aT h⟩ v v1 B1 (by omega) (by show _+12+4+13<=_;omega);refine hK _ _ (fun _=>S1) ?_;clear hK K hhb b1 S0 B0 T0 B1;refine ap [3] ?_
 iterate 1 (refine ay (v:=?_) (T:=?_) ?ht ?hy S1 ?_;(case hy=>intro w hSw;(try dsimp only at hSw); go_simp;try with_reducible rfl);case ht=>go_simp;try with_reducible rfl)
 refine aj ?_;dsimp only[aE]at sq;refine ag 4 fun K hK=>?_;go_simp;refine sq.mono ?_;rintro e v2 ⟨rfl,ZU,B2,t2⟩;have S2:=S1.fr t2 Vl.out;have T2:=T1.trans t2;have z2:=t2.size;refine hK _ _ (fun _=>S2) ?_;clear hK K sq S1 T1 t2;refine am ?_;obtain⟨⟨m0,m1,m2,m3,m4,m5,m6⟩,xw,xs,xp⟩:=rH S2;have lh:=MH h;have HB2:Hid (mR v2 B b (l++fg ⟨aE bX,aT h⟩) ZU):=B2;have HS2:Hid (_/\_):=⟨S2,T2⟩
 clear B2 S2 T2;by_cases h3:h.kd=3
 ·have h3b:(h.kd==3)=true:=beq_iff_eq.2 h3;have hpb:=HI.out.2.2 h3;have bw:Below B w v2:=HS2.out.2.below;go_wp2_with fail;have S3:sU v2.drew M bW bS w.heap.size b h (.slice pa aq.length pc) sv X lv fl ck:=⟨HS2.out.1.m,HS2.out.1.x,HS2.out.1.s,HS2.out.1.p⟩
  have B3:mR v2.drew B b (l++fg ⟨aE bX,aT h⟩) ZU:=HB2.out.kept (fun _ _=>rfl);have T3:ld B b w v2.drew:=⟨bw.drew,fun j cs t fr hj h5 hjb=>HS2.out.2.typ j cs t fr hj h5 hjb⟩
  have Z3:v2.drew.heap.size=v2.heap.size:=rfl;have hpp:=IW pa pc aq v2.drew (HI.out.1.below T3.below HI.out.2.1) (fun a e e2=>by have:=HI.out.2.1 a e e2;omega) hpb hpn;refine ax (fun u=>sU u M bW bS w.heap.size b h (.slice pa aq.length pc) sv X lv fl ck) 99 ?_;generalize v2.drew=v2' at *;refine ap [0,1,2] ?_
  iterate 3 (refine ay (v:=?_) (T:=?_) ?ht ?hy S3 ?_;(case hy=>intro w hSw;have xP := rH hSw; go_simp;try with_reducible rfl);case ht=>go_simp;try with_reducible rfl)
  refine aj ?_;refine ag 3 fun K hK=>?_;go_simp;refine hpp.mono ?_;rintro e v3 ⟨rfl,b3⟩;have z3:=b3.size;have S4:=S3.below b3;have B4:=B3.below b3;have T4:=T3.trans (ld.aH (B:=B) (b:=b) b3 (by omega));have hps:=my aq;have sq:=MG B b _ ⟨aE cM,cq aq⟩ ZU v3 B4 (by omega) (by rw[aae,lh];show _+12+4+(cq aq).size<=_;omega);refine hK _ _ (fun _=>S4) ?_;clear hK K hpp b3 S3 B3 T3 B4;refine ap [4] ?_
  iterate 1 (refine ay (v:=?_) (T:=?_) ?ht ?hy S4 ?_;(case hy=>intro w hSw;(try dsimp only at hSw); go_simp;try with_reducible rfl);case ht=>go_simp;try with_reducible rfl)
  refine aj ?_;dsimp only[aE]at sq;refine ag 5 fun K hK=>?_;go_simp;refine sq.mono ?_;rintro e v4 ⟨rfl,vb4,B4,t4⟩;have S5:=S4.fr t4 Vl.out;have T5:=T4.trans t4;have z4:=t4.size;refine hK _ _ (fun _=>S5) ?_;clear hK K sq S4 T4 t4;refine am ?_;obtain⟨⟨m0,m1,m2,m3,m4,m5,m6⟩,xw,xs,xp⟩:=rH S5
  have hlen:(l++fg ⟨aE bX,aT h⟩++fg ⟨aE cM,cq aq⟩).length<=2000000:=by
   rw[aae,aae,lh,dQ ⟨rfl,rfl,by show (cq aq).size<=_;omega⟩];show _+_+(12+(cq aq).size)<=_;omega
  have Ej:=vG B b w.heap.size _ X ck vb4 v4 B4 S5.p Vl.out.2.2.2 (by omega) hck hX (by dsimp only[aE]at hlen ⊢;omega);have YD:Hid (_/\_):=⟨S5,T5⟩
  dsimp only[aE]at hlen;clear S5 T5 B4 HS2 HB2;go_wp2_with fail;refine Ej.mono ?_;rintro e v5 ⟨rfl,ds,vb5,hpc,B5,t5⟩;have S5:=YD.out.1.fr t5 Vl.out;obtain⟨⟨m0,m1,m2,m3,m4,m5,m6⟩,xw,xs,xp⟩:=rH S5;have z5:=t5.size
  have hdl:(aC (eG ds)).length<=140000000:=by
   have hX2:=hX;have hle:=zI hpc;omega
  have hpe:=MG B b _ ⟨aE jW,⟨#[]⟩⟩ vb5 v5 B5 (by omega) (by rw[aae];show _+_+12+4+0<=_;omega);have HG:Hid (_/\_):=⟨hpc,YD.out.2.trans t5⟩
  clear S5 t5 hpc B5 Ej;dsimp only[aE]at hpe;go_wp2_with fail;refine hpe.mono ?_;rintro e v6 ⟨rfl,YE,B6,t6⟩
  have HF:Hid (mR v6 B b (l++aC (aN h aq ds)) YE/\ld B b w v6):=by
   refine⟨?_,HG.out.2.trans t6⟩;have e:aN h aq ds=⟨aE bX,aT h⟩::⟨aE cM,cq aq⟩::(eG ds++sQ):=by unfold aN;rw[aai h3];rfl
   have e2:aC (aN h aq ds)=fg ⟨aE bX,aT h⟩++(fg ⟨aE cM,cq aq⟩++(aC (eG ds)++fg ⟨aE jW,⟨#[]⟩⟩)):=by
    rw[e];show fg _++(fg _++aC (eG ds++sQ))=_;rw[rG]
   rw[e2];have YF:=B6;simp only[aar]at YF;exact YF
  clear B6 t6 hpe;go_wp2
  go_end0
  exact⟨rfl,ds,YE,HG.out.1,HF.out.1,HF.out.2⟩
 ·have h3b:(h.kd==3)=false:=aa2.2 h3;have hlen:(l++fg ⟨aE bX,aT h⟩).length<=2000000:=by rw[aae,lh];omega
  have Ej:=vG B b w.heap.size _ X ck ZU v2 HB2.out HS2.out.1.p Vl.out.2.2.2 (by omega) hck hX (by omega);have YD:Hid (_/\_):=HS2.out;clear HS2 HB2;go_wp2_with fail;refine Ej.mono ?_;rintro e v5 ⟨rfl,ds,vb5,hpc,B5,t5⟩;have S5:=YD.out.1.fr t5 Vl.out;obtain⟨⟨m0,m1,m2,m3,m4,m5,m6⟩,xw,xs,xp⟩:=rH S5;have z5:=t5.size
  have hdl:(aC (eG ds)).length<=140000000:=by
   have hX2:=hX;have hle:=zI hpc;omega
  have hpe:=MG B b _ ⟨aE jW,⟨#[]⟩⟩ vb5 v5 B5 (by omega) (by rw[aae];show _+_+12+4+0<=_;omega);have HG:Hid (_/\_):=⟨hpc,YD.out.2.trans t5⟩
  clear S5 t5 hpc B5 Ej;dsimp only[aE]at hpe;go_wp2_with fail;refine hpe.mono ?_;rintro e v6 ⟨rfl,YE,B6,t6⟩
  have HF:Hid (mR v6 B b (l++aC (aN h aq ds)) YE/\ld B b w v6):=by
   refine⟨?_,HG.out.2.trans t6⟩;have e:aN h aq ds=⟨aE bX,aT h⟩::(eG ds++sQ):=by unfold aN;rw[aag h3];rfl
   have e2:aC (aN h aq ds)=fg ⟨aE bX,aT h⟩++(aC (eG ds)++fg ⟨aE jW,⟨#[]⟩⟩):=by
    rw[e];show fg _++aC (eG ds++sQ)=_;rw[rG]
   rw[e2];have YF:=B6;simp only[aar]at YF;exact YF
  clear B6 t6 hpe;go_wp2
  go_end0
  exact⟨rfl,ds,YE,HG.out.1,HF.out.1,HF.out.2⟩
end Go.Proofs.YtmfijackgekioabGreatDoor
