import Derived.Test.YtmfijackgekioabGreatDoorQ38
import Derived.Test.YtmfijackgekioabGreatDoorQ40
import Derived.Test.YtmfijackgekioabGreatDoorLt
set_option maxHeartbeats 1000000
set_option maxRecDepth 100000
namespace Go.Proofs.YtmfijackgekioabGreatDoor
open Go.RowKit Go.Maps
abbrev bq (h:Hd)(pv sv:Value):Array Value:=#[.int .i64 h.wd,.int .i64 h.ht,.int .i64 h.kd,.int .i64 h.dp,.bool h.ps,pv,sv]
def vb (h:Hd):List UInt8:=[UInt8.ofNat h.dp.toNat,UInt8.ofNat h.kd.toNat,0,0,if h.ps=true then 1 else 0]
theorem rR {u:World}{j:Nat}{d k p:Int}{h:Hd}(hb:u.heap[j]?=some (.cells #[.int .u8 d,.int .u8 k,.int .u8 0,.int .u8 0,.int .u8 p] 5 (0,0)))(e:(vb h).map cm=[.int .u8 d,.int .u8 k,.int .u8 0,.int .u8 0,.int .u8 p]): (convert 36 9 (.slice (some ⟨j,0,none⟩) 5 5)).run Tryz.prog u=.ok (.string ⟨(vb h).toArray⟩) u:=by
 refine fM (base:=j) (n:=5) (l:=vb h) ⟨rfl,.inr ⟨j,5,_,rfl,aah _,hb,aah _,by unfold maxLen;omega,rfl,?_⟩⟩ rfl;rw[e];rfl
theorem Io {h:Hd}(hf:ma h):(vb h).map cm=[.int .u8 h.dp,.int .u8 h.kd,.int .u8 0,.int .u8 0,.int .u8 (if h.ps=true then 1 else 0)]:=by
 have hd:=Pm.cF _ _ hf.ch;have hk:=yX hf.ch;simp only[vb,acI,List.map_nil,cm];rw[uS (x:=h.dp) (by omega) (by omega),uS (x:=h.kd) (by omega) (by omega)];cases h.ps<;>rfl
theorem D9 (h:Hd)(pv sv:Value)(w:World)(hf:ma h): Calls Tryz.prog 50 #[.agg (bq h pv sv)] w fun e w'=>e=.returned (.string (aY h))/\Below w.heap.size w w':=by
 have UN:=Io hf;have hd:=Pm.cF _ _ hf.ch;have hk:=yX hf.ch;obtain⟨W,hW⟩:∃W:Nat,h.wd=(W:Int):=⟨h.wd.toNat,by have:=hf.wd;omega⟩
 obtain⟨H,hH⟩:∃H:Nat,h.ht=(H:Int):=⟨h.ht.toNat,by have:=hf.ht;omega⟩
 have w1:=hf.wd;have h1:=hf.ht
 have HE:Hid (aY h=(⟨(four (W:Int)).toArray⟩++⟨(four (H:Int)).toArray⟩:ByteArray)++⟨(vb h).toArray⟩):=by
  refine ba_eq ?_;rw[jK,jK,<-hW,<-hH];rfl
 have XN:=fun u=>pW W u (by omega);have XO:=fun u=>pW H u (by omega);have hl4:∀a,(four a).length=4:=fun _=>rfl;obtain⟨p,hp⟩:∃p:Int,p=if h.ps=true then 1 else 0:=⟨_,rfl⟩
 rw[<-hp]at UN;have wd8:IntKind.u8.wrap h.dp=h.dp:=by rw[ab2];omega
 have wk8:IntKind.u8.wrap h.kd=h.kd:=by rw[ab2];omega
 obtain⟨k0,q0,q1⟩:=bH w (.cells (bq h pv sv) 24) (.cells #[.int .u8 h.dp,.int .u8 h.kd,.int .u8 0,.int .u8 0,.int .u8 p] 5);obtain⟨x0,x1,x2,x3,x4,x5,x6⟩:=aP (ah w (.cells (bq h pv sv) 24));have z2:((w.alloc (.cells (bq h pv sv) 24)).alloc (.cells #[.int .u8 h.dp,.int .u8 h.kd,.int .u8 0,.int .u8 0,.int .u8 p] 5)).heap.size=w.heap.size+2:=by simp
 have HQ:Hid (_/\_/\_):=⟨k0,q0,q1⟩
 have HV:Hid (_):=UN;have hrl:(vb h).length=5:=rfl;clear k0 q0 q1 UN;rcases Bool.eq_false_or_eq_true h.ps with hps|hps
 ·rw[hps]at hp x4;rw[aaj rfl]at hp;subst hp
  go_enter Tryz.func50,Tryz.ntmps50
  go_wp2_with fail;have hS:((w.alloc (.cells (bq h pv sv) 24)).alloc (.cells #[.int .u8 h.dp,.int .u8 h.kd,.int .u8 0,.int .u8 0,.int .u8 1] 5)).drew.heap[w.heap.size]?=some (.cells (bq h pv sv) 24 (0,0))/\((w.alloc (.cells (bq h pv sv) 24)).alloc (.cells #[.int .u8 h.dp,.int .u8 h.kd,.int .u8 0,.int .u8 0,.int .u8 1] 5)).drew.heap[w.heap.size+1]?=some (.cells #[.int .u8 h.dp,.int .u8 h.kd,.int .u8 0,.int .u8 0,.int .u8 1] 5 (0,0)):=⟨HQ.out.2.1,HQ.out.2.2⟩
  have kS:Below w.heap.size w ((w.alloc (.cells (bq h pv sv) 24)).alloc (.cells #[.int .u8 h.dp,.int .u8 h.kd,.int .u8 0,.int .u8 0,.int .u8 1] 5)).drew:=HQ.out.1.drew;have zS:((w.alloc (.cells (bq h pv sv) 24)).alloc (.cells #[.int .u8 h.dp,.int .u8 h.kd,.int .u8 0,.int .u8 0,.int .u8 1] 5)).drew.heap.size=w.heap.size+2:=z2;refine ax (fun u=>u.heap[w.heap.size]?=some (.cells (bq h pv sv) 24 (0,0))/\u.heap[w.heap.size+1]?=some (.cells #[.int .u8 h.dp,.int .u8 h.kd,.int .u8 0,.int .u8 0,.int .u8 1] 5 (0,0))) 99 ?_;generalize World.drew _=v0 at *;refine ap [0,1,3,4] ?_
  iterate 4 (refine bU (v:=?_) (T:=?_) ?ht ?hy hS ?_;(case hy=>intro w hSw;(have xr := aP hSw.1; rw [hW, hH] at xr); go_simp;try with_reducible rfl);case ht=>go_simp;try with_reducible rfl)
  refine aj ?_;refine ap [7,8] ?_
  iterate 2 (refine bU (v:=?_) (T:=?_) ?ht ?hy hS ?_;(case hy=>intro w hSw;have xr := rR (h := h) hSw.2 HV.out; go_simp;try with_reducible rfl);case ht=>go_simp;try with_reducible rfl)
  refine aj ?_;refine ag 2 fun K hK=>?_;go_simp;refine (XN _).mono ?_;rintro e v1 ⟨rfl,b1⟩;have zb:=b1.size;have S1:v1.heap[w.heap.size]?=some (.cells (bq h pv sv) 24 (0,0))/\v1.heap[w.heap.size+1]?=some (.cells #[.int .u8 h.dp,.int .u8 h.kd,.int .u8 0,.int .u8 0,.int .u8 1] 5 (0,0)):=⟨(b1.block _ (by omega)).trans hS.1,(b1.block _ (by omega)).trans hS.2⟩
  refine hK _ _ (fun _=>S1) ?_;clear hK K;refine ag 5 fun K hK=>?_;go_simp;refine (XO _).mono ?_;rintro e v2 ⟨rfl,b2⟩;have S2:v2.heap[w.heap.size]?=some (.cells (bq h pv sv) 24 (0,0))/\v2.heap[w.heap.size+1]?=some (.cells #[.int .u8 h.dp,.int .u8 h.kd,.int .u8 0,.int .u8 0,.int .u8 1] 5 (0,0)):=⟨(b2.block _ (by omega)).trans S1.1,(b2.block _ (by omega)).trans S1.2⟩
  have HB:Hid (Below w.heap.size w v2):=(kS.trans (b1.mono (by omega))).trans (b2.mono (by omega));refine hK _ _ (fun _=>S2) ?_;clear hK K b1 b2 kS;refine ap [6,9,10] ?_
  iterate 3 refine aT S2 ?_
  refine aj ?_;refine am ?_;go_wp2
  go_ret
  exact⟨by rw[HE.out];rfl,HB.out⟩
 ·rw[hps]at hp x4;rw[aai (by decide)]at hp;subst hp
  go_enter Tryz.func50,Tryz.ntmps50
  go_wp2_with fail;have hS:((w.alloc (.cells (bq h pv sv) 24)).alloc (.cells #[.int .u8 h.dp,.int .u8 h.kd,.int .u8 0,.int .u8 0,.int .u8 0] 5)).drew.heap[w.heap.size]?=some (.cells (bq h pv sv) 24 (0,0))/\((w.alloc (.cells (bq h pv sv) 24)).alloc (.cells #[.int .u8 h.dp,.int .u8 h.kd,.int .u8 0,.int .u8 0,.int .u8 0] 5)).drew.heap[w.heap.size+1]?=some (.cells #[.int .u8 h.dp,.int .u8 h.kd,.int .u8 0,.int .u8 0,.int .u8 0] 5 (0,0)):=⟨HQ.out.2.1,HQ.out.2.2⟩
  have kS:Below w.heap.size w ((w.alloc (.cells (bq h pv sv) 24)).alloc (.cells #[.int .u8 h.dp,.int .u8 h.kd,.int .u8 0,.int .u8 0,.int .u8 0] 5)).drew:=HQ.out.1.drew;have zS:((w.alloc (.cells (bq h pv sv) 24)).alloc (.cells #[.int .u8 h.dp,.int .u8 h.kd,.int .u8 0,.int .u8 0,.int .u8 0] 5)).drew.heap.size=w.heap.size+2:=z2;refine ax (fun u=>u.heap[w.heap.size]?=some (.cells (bq h pv sv) 24 (0,0))/\u.heap[w.heap.size+1]?=some (.cells #[.int .u8 h.dp,.int .u8 h.kd,.int .u8 0,.int .u8 0,.int .u8 0] 5 (0,0))) 99 ?_;generalize World.drew _=v0 at *;refine ap [0,1,3,4] ?_
  iterate 4 (refine bU (v:=?_) (T:=?_) ?ht ?hy hS ?_;(case hy=>intro w hSw;(have xr := aP hSw.1; rw [hW, hH] at xr); go_simp;try with_reducible rfl);case ht=>go_simp;try with_reducible rfl)
  refine aj ?_;refine ap [7,8] ?_
  iterate 2 (refine bU (v:=?_) (T:=?_) ?ht ?hy hS ?_;(case hy=>intro w hSw;have xr := rR (h := h) hSw.2 HV.out; go_simp;try with_reducible rfl);case ht=>go_simp;try with_reducible rfl)
  refine aj ?_;refine ag 2 fun K hK=>?_;go_simp;refine (XN _).mono ?_;rintro e v1 ⟨rfl,b1⟩;have zb:=b1.size;have S1:v1.heap[w.heap.size]?=some (.cells (bq h pv sv) 24 (0,0))/\v1.heap[w.heap.size+1]?=some (.cells #[.int .u8 h.dp,.int .u8 h.kd,.int .u8 0,.int .u8 0,.int .u8 0] 5 (0,0)):=⟨(b1.block _ (by omega)).trans hS.1,(b1.block _ (by omega)).trans hS.2⟩
  refine hK _ _ (fun _=>S1) ?_;clear hK K;refine ag 5 fun K hK=>?_;go_simp;refine (XO _).mono ?_;rintro e v2 ⟨rfl,b2⟩;have S2:v2.heap[w.heap.size]?=some (.cells (bq h pv sv) 24 (0,0))/\v2.heap[w.heap.size+1]?=some (.cells #[.int .u8 h.dp,.int .u8 h.kd,.int .u8 0,.int .u8 0,.int .u8 0] 5 (0,0)):=⟨(b2.block _ (by omega)).trans S1.1,(b2.block _ (by omega)).trans S1.2⟩
  have HB:Hid (Below w.heap.size w v2):=(kS.trans (b1.mono (by omega))).trans (b2.mono (by omega));refine hK _ _ (fun _=>S2) ?_;clear hK K b1 b2 kS;refine ap [6,9,10] ?_
  iterate 3 refine aT S2 ?_
  refine aj ?_;refine am ?_;go_wp2
  go_ret
  exact⟨by rw[HE.out];rfl,HB.out⟩
theorem OY {p:List Int}{i:Nat}(hi:i<p.length)(h:Pm.eu p 256=true):(p.take i++List.replicate (p.length-i) 0).set i (IntKind.u8.wrap p[i])=p.take (i+1)++List.replicate (p.length-(i+1)) 0:=by
 unfold Pm.eu at h;rw[List.all_eq_true]at h;have hx:=h _ (abo hi);simp only[aaS,aaW]at hx;have e:IntKind.u8.wrap p[i]=p[i]:=by rw[ab2];omega
 have hl:(p.take i).length=i:=by rw[aa7];omega
 rw[e,List.set_append,aai (by omega),hl,Nat.sub_self,show p.length-i=(p.length-(i+1))+1 by omega,List.replicate_succ,List.set_cons_zero,aaT hi,aaw];rfl
theorem Ip (ao:Option Addr)(cap:Nat)(p:List Int)(w:World)(hi:Ints w ao p)(ha:∀a,ao=some a->p≠[]->a.block<w.heap.size)(hp:Pm.eu p 256=true)(hl:p.length<=1000000): Calls Tryz.prog 51 #[.slice ao p.length cap] w fun e w'=>e=.returned (.string (ct p))/\Below w.heap.size w w':=by
 obtain⟨n,hn⟩:∃n,n=p.length:=⟨_,rfl⟩
 rw[<-hn]at hl ⊢;obtain⟨Z,hZ⟩:∃Z:List Value,Z=List.replicate n (.int .u8 0):=⟨_,rfl⟩
 have hmk:=fun u=>yQ n (by omega) Z hZ u;have k0:=ae w (.cells Z.toArray 5)
 have q0:cH (w.alloc (.cells Z.toArray 5)) w.heap.size (p.take 0++List.replicate (n-0) 0):=by
  have e:Z=cY (p.take 0++List.replicate (n-0) 0):=by rw[hZ];simp[cY]
  unfold cH;rw[<-e];exact ah w _
 have HH:Hid (_/\_/\_/\_):=⟨hi,ha,k0,q0⟩
 have HP:Hid (_/\_):=⟨hp,hn⟩
 clear hi ha k0 q0 hZ hp hn
 go_enter Tryz.func51,Tryz.ntmps51
 go_wp2
 go_loopw [11] (fun ix wr=>∃i:Nat,i<=n/\ix=.int .i64 i/\Hid (cH wr w.heap.size (p.take i++List.replicate (n-i) 0))/\Hid (Below w.heap.size w wr)) (fun ix _=>n-(intOf ix).toNat)
 case atStart=>exact⟨0,aaq _,rfl,HH.out.2.2.2,HH.out.2.2.1⟩
 case round =>
  obtain⟨i,hin,rfl,HB,HK⟩:=hrel;by_cases hlt:i<n
  ·have hlt':(i:Int)<(n:Int):=by omega
   have hlt2:i<p.length:=by rw[<-HP.out.2];exact hlt
   obtain⟨b,off,rfl,hc⟩:=(HH.out.1.below HK.out HH.out.2.1) i hlt2;have lb:=aaa HB.out;have fz:=HB.out.frozen i;obtain⟨O,hO⟩:∃O,wr.cell? ⟨w.heap.size,i,none⟩=some (.int .u8 O):=⟨_,HB.out.cell i (by rw[aac,aa7,aaE];omega)⟩
   have HN:Hid (cH (wr.setCell ⟨w.heap.size,i,none⟩ (.int .u8 (IntKind.u8.wrap p[i]))) w.heap.size (p.take (i+1)++List.replicate (n-(i+1)) 0)/\Below w.heap.size w (wr.setCell ⟨w.heap.size,i,none⟩ (.int .u8 (IntKind.u8.wrap p[i])))):=by
    refine⟨?_,HK.out.setCell (p:=⟨w.heap.size,i,none⟩) (aah _) _⟩;have:=HB.out.set i (IntKind.u8.wrap p[i]);rw[HP.out.2,OY hlt2 HP.out.1,<-HP.out.2]at this;exact this
   generalize p[i]=V at *;go_wp2
   go_roundw
   case rel=>exact⟨i+1,by omega,by go_num,HN.out.1,HN.out.2⟩
   case measure=>simp[intOf];omega
  ·have hie:i=n:=by omega
   subst hie
   have hall:∀y∈p,0<=y/\y<256:=by
    have h:=HP.out.1;unfold Pm.eu at h;rw[List.all_eq_true]at h;intro y hy;have hx:=h y hy;simp only[aaS,aaW]at hx;exact hx
   have hst:(convert 36 9 (.slice (some ⟨w.heap.size,0,none⟩) i i)).run Tryz.prog wr=.ok (.string (ct p)) wr:=by
    have hB:=HB.out;rw[HP.out.2,List.take_length,Nat.sub_self,List.replicate_zero,abp]at hB;have hv:=p9 hall;refine fM (base:=w.heap.size) (n:=i) (l:=p.map fun y=>UInt8.ofNat y.toNat) ⟨by rw[abO,abO,HP.out.2,Nat.mul_one],.inr ⟨w.heap.size,i,(cY p).toArray,rfl,aah _,hB,aah _,by unfold maxLen;omega,by rw[List.size_toArray,abO,HP.out.2,Nat.mul_one],?_⟩⟩ (by rw[abO,HP.out.2]);rw[<-hv,HP.out.2,Nat.mul_one];show (cY p).take p.length=cY p;exact abf (by rw[abO];exact aah _)
   clear hall;go_wp2
   go_ret
   exact⟨rfl,HK.out⟩
abbrev jN (b:Nat):Value:=.func (.func 86) #[] #[.pointer (some ⟨b,0,none⟩)]
theorem vd (args:Array Value)(w:World):(callFunc 86 args).run Tryz.prog w=.ok (.enter 86 args) w:=by kernel_rfl
theorem Me (B b:Nat)(l:List UInt8)(c:Ch)(v:Value)(w:World)(h:mG w B b l v)(hB:B<=w.heap.size)(hz:l.length+12+c.name.size+c.data.size<=900000000): Calls Tryz.prog 86 #[.agg #[.string c.name,.string c.data],.pointer (some ⟨b,0,none⟩)] w fun e w'=>e=.returned (.tuple #[])/\∃v',mG w' B b (l++kR c) v'/\kK B b w w':=abM B b l c v w h hB hz
theorem TH (B b bP:Nat)(l:List UInt8)(d:ByteArray)(v:Value)(w:World)(h:mG w B b l v)(hP:bG w bP (jN b) 80)(hB:B<=w.heap.size)(hz:l.length+16+d.size<=900000000): Calls Tryz.prog 53 #[.string d,.pointer (some ⟨bP,0,none⟩)] w fun e w'=>e=.returned (.tuple #[])/\∃v',mG w' B b (l++kR ⟨aE cJ,d⟩) v'/\kK B b w w':=by
 have hcall:=vd;have rL:=Me B b l ⟨aE cJ,d⟩ v w h hB (by show _+12+4+_<=_;omega);have c0:=hP.cell;dsimp only[aE]at rL;clear h hP
 go_enter Tryz.func53,Tryz.ntmps53
 go_wp2_with fail;refine rL.mono ?_;rintro e w1 ⟨rfl,v',h1,h2⟩;have HF:Hid (_/\_):=⟨h1,h2⟩
 clear h1 h2 rL;go_wp2
 go_end0
 exact⟨rfl,v',HF.out⟩
theorem Ea (args:Array Value)(w:World):(callFunc 53 args).run Tryz.prog w=.ok (.enter 53 args) w:=by kernel_rfl
theorem qW (L:List Ch)(c:Ch):aH (L++[c])=aH L++kR c:=by rw[uW];show _++(kR c++[])=_;rw[abp]
theorem Iq (X:ByteArray)(q s:Nat):X.extract 0 q++X.extract q (q+s)=X.extract 0 (q+s):=by
 refine ba_eq ?_;rw[jK,c9,c9,c9,acU,acU];have:=acM q (X.data.toList.take (q+s));rw[List.take_take,Nat.min_eq_left (by omega)]at this;exact this
theorem sP (X:ByteArray):X.extract 0 X.size=X:=by
 refine ba_eq ?_;rw[c9,acU,abf (by rw[cj];exact aah _)]
structure Ir (X:ByteArray) (q most:Nat) (ds:List ByteArray):Prop where
 cat:eG ds=X.extract 0 q
 few:∀d∈ds,1<=d.size/\d.size<=most
theorem ve (B b bP:Nat)(l:List UInt8)(X:ByteArray)(most:Nat)(v:Value)(w:World)(h:mG w B b l v)(hP:bG w bP (jN b) 80)(hPb:bP≠b)(hB:B<=w.heap.size)(hm:1<=most/\most<=1048576)(hX:X.size<=10000000)(hl:l.length<=100000000): Calls Tryz.prog 52 #[.string X,.int .i64 (most:Nat),.func (.func 53) #[] #[.pointer (some ⟨bP,0,none⟩)]] w fun e w'=>e=.returned (.tuple #[])/\∃ds v',Ir X X.size most ds/\mG w' B b (l++aH (eW ds)) v'/\kK B b w w':=by
 have hcall:=Ea;have HH:Hid (_/\_):=⟨h,hP⟩
 have HX:Hid (_/\_):=⟨hX,hl⟩
 clear h hP hX hl
 go_enter Tryz.func52,Tryz.ntmps52
 go_wp2
 go_loopw [0] (fun bv wr=>∃(q:Nat) (r:ByteArray) (ds:List ByteArray) (v':Value),bv=.string r/\r.size+q=X.size/\Hid (r=X.extract q X.size)/\Hid (Ir X q most ds)/\Hid (mG wr B b (l++aH (eW ds)) v'/\(aH (eW ds)).length<=13*q)/\Hid (kK B b w wr)) (fun bv _=>SN bv)
 case atStart=>exact⟨0,X,[],v,rfl,rfl,(sP X).symm,⟨by show (⟨#[]⟩:ByteArray)=_;refine ba_eq ?_;rw[c9,List.take_zero];rfl,fun d hd=>absurd hd (abw)⟩,⟨by show mG _ _ _ (l++[]) _;rw[abp];exact HH.out.1,aaq _⟩,kK.refl _ _ _⟩
 case round =>
  obtain⟨q,r,ds,v',rfl,hq,HR,HP,XP,XQ⟩:=hrel;by_cases h0:r.size=0
  ·have h0i:¬(r.size:Int)>0:=by omega
   have HF:Hid (Ir X X.size most ds):=by show Ir _ _ _ _;rw[<-hq,h0,aaO];exact HP.out
   clear HP;go_wp2
   go_end0
   exact⟨rfl,ds,HF.out,⟨v',XP.out.1⟩,XQ.out⟩
  ·have h0i:(r.size:Int)>0:=by omega
   obtain⟨s,hs⟩:∃s,s=min most r.size:=⟨_,rfl⟩
   have hsi:min (most:Int) (r.size:Int)=(s:Int):=by omega
   have hs1:(s:Int)<=(r.size:Int):=by omega
   have hs2:1<=s/\s<=most/\s<=r.size:=by omega
   have zz:=XQ.out.size
   have hpc:=TH B b bP (l++aH (eW ds)) (r.extract 0 s) v' wr XP.out.1 (XQ.out.typ _ _ _ _ HH.out.2 (by decide) hPb) (by omega) (by
    rw[aac,aaL];have:=XP.out.2;have:=HX.out
    omega)
   have S9:(r.extract 0 s).size=s:=by rw[aaL];omega
   have er:r.extract 0 s=X.extract q (q+s):=by
    rw[HR.out];refine ba_eq ?_;rw[c9,c9,c9,acU,abf (l:=X.data.toList) (by rw[cj];exact aah _),List.drop_take,Nat.add_sub_cancel_left]
   have er2:r.extract s r.size=X.extract (q+s) X.size:=by
    rw[HR.out];refine ba_eq ?_;rw[c9,abf (by rw[cj];exact aah _),c9,c9,abf (l:=X.data.toList) (by rw[cj];exact aah _),List.drop_drop]
   have HN:Hid (Ir X (q+s) most (ds++[r.extract 0 s])):=by
    refine⟨?_,fun d hd=>?_⟩
    ·rw[A5,HP.out.cat,er];exact Iq X q s
    ·rcases abA.1 hd with hd|hd
     ·exact HP.out.few d hd
     ·rcases abK.1 hd with rfl;omega
   have HL:Hid ((aH (eW (ds++[r.extract 0 s]))).length<=13*(q+s)/\l++aH (eW ds)++kR ⟨aE cJ,r.extract 0 s⟩=l++aH (eW (ds++[r.extract 0 s]))):=by
    have e:eW (ds++[r.extract 0 s])=eW ds++[⟨aE cJ,r.extract 0 s⟩]:=ab5;rw[e,qW];refine⟨?_,by rw[aaw]⟩;rw[aac,gJ ⟨rfl,rfl,by show (r.extract 0 s).size<=_;omega⟩];show _+(12+(r.extract 0 s).size)<=_;have:=XP.out.2;omega
   have HER:Hid (r.extract s r.size=X.extract (q+s) X.size/\(r.extract s r.size).size+(q+s)=X.size):=⟨er2,by rw[aaL];omega⟩
   have hsn:(r.extract s r.size).size<r.size:=by rw[aaL];omega
   clear er er2 S9 hs;go_wp2_with fail;refine hpc.mono ?_;rintro e w1 ⟨rfl,v2,h1,h2⟩;have HF:Hid (mG w1 B b (l++aH (eW (ds++[r.extract 0 s]))) v2/\(aH (eW (ds++[r.extract 0 s]))).length<=13*(q+s)):=⟨by rw[<-HL.out.2];exact h1,HL.out.1⟩
   have HG:Hid (kK B b w w1):=XQ.out.trans h2;clear h1 h2 hpc HL XP XQ;go_wp2
   go_roundw
   case rel=>exact⟨q+s,_,_,v2,rfl,HER.out.2,HER.out.1,HN,HF,HG⟩
   case measure=>exact hsn
structure sr (w:World) (M bW bS P0 b:Nat) (h:Hd) (pv sv:Value) (X:ByteArray) (lv fl ck:Int):Prop where
 m:w.heap[M]?=some (.cells (bq h pv sv) 24 (0,0))
 x:bG w bW (.string X) 9
 s:w.heap[bS]?=some (.cells #[.int .i64 lv,.int .i64 fl,.int .i64 ck] 29 (0,0))
 p:bG w P0 (jN b) 80
theorem sr.fr {w w':World}{M bW bS P0 b B:Nat}{h:Hd}{pv sv:Value}{X:ByteArray}{lv fl ck:Int}(e:sr w M bW bS P0 b h pv sv X lv fl ck)(k:kK B b w w')(hne:M≠b/\bW≠b/\bS≠b/\P0≠b):sr w' M bW bS P0 b h pv sv X lv fl ck :=
 ⟨k.typ _ _ _ _ e.m (by decide) hne.1,k.typ _ _ _ _ e.x (by decide) hne.2.1,k.typ _ _ _ _ e.s (by decide) hne.2.2.1,k.typ _ _ _ _ e.p (by decide) hne.2.2.2⟩
theorem sr.below {w w':World}{M bW bS P0 b:Nat}{h:Hd}{pv sv:Value}{X:ByteArray}{lv fl ck:Int}(e:sr w M bW bS P0 b h pv sv X lv fl ck)(k:Below w.heap.size w w'):sr w' M bW bS P0 b h pv sv X lv fl ck :=
 ⟨(k.block _ (aaa e.m)).trans e.m,(k.block _ (aaa e.x)).trans e.x,(k.block _ (aaa e.s)).trans e.s,(k.block _ (aaa e.p)).trans e.p⟩
theorem n9 {w:World}{T:Nat}{a b c:Value}{t:TypeId}(h:w.heap[T]?=some (.cells #[a,b,c] t (0,0))):w.cell? ⟨T,0,none⟩=some a/\w.cell? ⟨T,1,none⟩=some b/\w.cell? ⟨T,2,none⟩=some c :=
 ⟨aat _ _ _ _ _ _ h,aat _ _ _ _ _ _ h,aat _ _ _ _ _ _ h⟩
theorem qX {w:World}{M bW bS P0 b:Nat}{h:Hd}{pv sv:Value}{X:ByteArray}{lv fl ck:Int}(e:sr w M bW bS P0 b h pv sv X lv fl ck): (w.cell? ⟨M,0,none⟩=some (.int .i64 h.wd)/\w.cell? ⟨M,1,none⟩=some (.int .i64 h.ht)/\w.cell? ⟨M,2,none⟩=some (.int .i64 h.kd)/\w.cell? ⟨M,3,none⟩=some (.int .i64 h.dp)/\w.cell? ⟨M,4,none⟩=some (.bool h.ps)/\w.cell? ⟨M,5,none⟩=some pv/\w.cell? ⟨M,6,none⟩=some sv) /\ w.cell? ⟨bW,0,none⟩=some (.string X)/\w.cell? ⟨bS,2,none⟩=some (.int .i64 ck)/\w.cell? ⟨P0,0,none⟩=some (jN b):=by
 obtain⟨a0,a1,a2,a3,a4,a5,a6⟩:=aP e.m;exact⟨⟨a0,a1,a2,a3,a4,a5,a6⟩,e.x.cell,(n9 e.s).2.2,e.p.cell⟩
theorem xF {X:ByteArray}{most:Nat}{ds:List ByteArray}(h:Ir X X.size most ds)(hX:0<X.size):ds≠[]:=fun e=>by
 have:=h.cat;rw[e,sP]at this;have:=abV ByteArray.size this;show False;rw[<-this]at hX;exact absurd hX (by show ¬0<0;omega)
theorem zj {X:ByteArray}{most:Nat}{ds:List ByteArray}(h:Ir X X.size most ds):(aH (eW ds)).length<=13*X.size:=by
 have key:∀ds:List ByteArray,(∀d∈ds,1<=d.size/\d.size<=most)->(aH (eW ds)).length<=13*(eG ds).size:=by
  intro ds
  induction ds with
  | nil=>intro _;exact aaq _
  | cons d r ih =>
   intro hd;have h1:=ih (fun x hx=>hd x (acu _ hx));have h2:=hd d abJ;show (kR ⟨aE cJ,d⟩++aH (eW r)).length<=13*(d++eG r).size;rw[aac,ByteArray.size_append]
   have h3:(kR ⟨aE cJ,d⟩).length=12+d.size:=by
    unfold kR;simp only[aac,cj];show 4+(4+(_+4))=_;omega
   omega
 have:=key ds h.few;rw[h.cat,sP]at this;exact this
theorem Mf (h:Hd):(kR ⟨aE cI,aY h⟩).length=25:=by rw[gJ ⟨rfl,rfl,by show 13<=_;omega⟩];rfl
theorem XR (B b M bW bS:Nat)(l:List UInt8)(h:Hd)(aq:List Int)(pa:Option Addr)(pc:Nat)(sv v:Value)(X:ByteArray)(lv fl:Int)(ck:Nat)(w:World)(hb:mG w B b l v)(hm:w.heap[M]?=some (.cells (bq h (.slice pa aq.length pc) sv) 24 (0,0)))(hW:bG w bW (.string X) 9)(hS:w.heap[bS]?=some (.cells #[.int .i64 lv,.int .i64 fl,.int .i64 ck] 29 (0,0)))(hne:M≠b/\bW≠b/\bS≠b)(hB:B<=w.heap.size)(hf:ma h)(hpa:Ints w pa aq)(hpl:∀a,pa=some a->aq≠[]->a.block<B)(hpb:h.kd=3->Pm.eu aq 256=true)(hpn:aq.length<=1000000)(hX:X.size<=10000000)(hck:1<=ck/\ck<=1048576)(hl:l.length<=1000): Calls Tryz.prog 49 #[jN b,.pointer (some ⟨M,0,none⟩),.pointer (some ⟨bW,0,none⟩),.pointer (some ⟨bS,0,none⟩)] w fun e w'=>e=.returned (.tuple #[])/\∃ds v',Ir X X.size ck ds/\mG w' B b (l++aH (bj h aq ds)) v'/\kK B b w w':=by
 have hcall:=vd;have hhb:=fun u=>D9 h (.slice pa aq.length pc) sv u hf;have k0:=ae w (.cells #[jN b] 80);have q0:=ah w (.cells #[jN b] 80);have z0:(w.alloc (.cells #[jN b] 80)).heap.size=w.heap.size+1:=by simp
 have lb:=hb.lt;have E0:sr (w.alloc (.cells #[jN b] 80)) M bW bS w.heap.size b h (.slice pa aq.length pc) sv X lv fl ck:=⟨(k0.block _ (aaa hm)).trans hm,(k0.block _ (aaa hW)).trans hW,(k0.block _ (aaa hS)).trans hS,q0⟩
 have b0:=hb.below k0;have t0:kK B b w (w.alloc (.cells #[jN b] 80)):=kK.aF k0 hB;have XS:M≠b/\bW≠b/\bS≠b/\w.heap.size≠b:=⟨hne.1,hne.2.1,hne.2.2,by omega⟩
 have HI:Hid (_/\_/\_):=⟨hpa,hpl,hpb⟩
 have HT:Hid (_):=t0;have UO:Hid (_):=XS;clear hb hm hW hS k0 q0 t0 hne XS hpa hpl hpb hf
 go_enter Tryz.func49,Tryz.ntmps49
 go_wp2_with fail;have S0:sr (w.alloc (.cells #[jN b] 80)).drew M bW bS w.heap.size b h (.slice pa aq.length pc) sv X lv fl ck:=⟨E0.m,E0.x,E0.s,E0.p⟩
 have B0:mG (w.alloc (.cells #[jN b] 80)).drew B b l v:=b0.kept (fun _ _=>rfl);have T0:kK B b w (w.alloc (.cells #[jN b] 80)).drew:=⟨HT.out.below.drew,fun j cs t fr hj h5 hjb=>HT.out.typ j cs t fr hj h5 hjb⟩
 have Z0:(w.alloc (.cells #[jN b] 80)).drew.heap.size=w.heap.size+1:=z0;refine ax (fun u=>sr u M bW bS w.heap.size b h (.slice pa aq.length pc) sv X lv fl ck) 99 ?_;generalize World.drew _=v0 at *;clear E0 b0 z0 HT;refine ap [0,1] ?_
 iterate 2 (refine bU (v:=?_) (T:=?_) ?ht ?hy S0 ?_;(case hy=>intro w hSw;have xr := qX hSw; go_simp;try with_reducible rfl);case ht=>go_simp;try with_reducible rfl)
 refine aj ?_;refine ag 2 fun K hK=>?_;go_simp;refine (hhb _).mono ?_;rintro e v1 ⟨rfl,b1⟩;have z1:=b1.size;have S1:=S0.below b1;have B1:=B0.below b1;have T1:=T0.trans (kK.aF (B:=B) (b:=b) b1 (by omega));have rL:=Me B b l ⟨aE cI,aY h⟩ v v1 B1 (by omega) (by show _+12+4+13<=_;omega);refine hK _ _ (fun _=>S1) ?_;clear hK K hhb b1 S0 B0 T0 B1;refine ap [3] ?_
 iterate 1 refine aT S1 ?_
 refine aj ?_;dsimp only[aE]at rL;refine ag 4 fun K hK=>?_;go_simp;refine rL.mono ?_;rintro e v2 ⟨rfl,Zj,B2,t2⟩;have S2:=S1.fr t2 UO.out;have T2:=T1.trans t2;have z2:=t2.size;refine hK _ _ (fun _=>S2) ?_;clear hK K rL S1 T1 t2;refine am ?_;obtain⟨⟨m0,m1,m2,m3,m4,m5,m6⟩,xw,xs,xp⟩:=qX S2;have lh:=Mf h;have HB2:Hid (mG v2 B b (l++kR ⟨aE cI,aY h⟩) Zj):=B2;have HS2:Hid (_/\_):=⟨S2,T2⟩
 clear B2 S2 T2;by_cases h3:h.kd=3
 ·have h3b:(h.kd==3)=true:=beq_iff_eq.2 h3;have hpb:=HI.out.2.2 h3;have bw:Below B w v2:=HS2.out.2.below;go_wp2_with fail;have S3:sr v2.drew M bW bS w.heap.size b h (.slice pa aq.length pc) sv X lv fl ck:=⟨HS2.out.1.m,HS2.out.1.x,HS2.out.1.s,HS2.out.1.p⟩
  have B3:mG v2.drew B b (l++kR ⟨aE cI,aY h⟩) Zj:=HB2.out.kept (fun _ _=>rfl);have T3:kK B b w v2.drew:=⟨bw.drew,fun j cs t fr hj h5 hjb=>HS2.out.2.typ j cs t fr hj h5 hjb⟩
  have Z3:v2.drew.heap.size=v2.heap.size:=rfl;have hpp:=Ip pa pc aq v2.drew (HI.out.1.below T3.below HI.out.2.1) (fun a e e2=>by have:=HI.out.2.1 a e e2;omega) hpb hpn;refine ax (fun u=>sr u M bW bS w.heap.size b h (.slice pa aq.length pc) sv X lv fl ck) 99 ?_;generalize v2.drew=v2' at *;refine ap [0,1,2] ?_
  iterate 3 (refine bU (v:=?_) (T:=?_) ?ht ?hy S3 ?_;(case hy=>intro w hSw;have xr := qX hSw; go_simp;try with_reducible rfl);case ht=>go_simp;try with_reducible rfl)
  refine aj ?_;refine ag 3 fun K hK=>?_;go_simp;refine hpp.mono ?_;rintro e v3 ⟨rfl,b3⟩;have z3:=b3.size;have S4:=S3.below b3;have B4:=B3.below b3;have T4:=T3.trans (kK.aF (B:=B) (b:=b) b3 (by omega));have hps:=mb aq;have rL:=Me B b _ ⟨aE cP,ct aq⟩ Zj v3 B4 (by omega) (by rw[aac,lh];show _+12+4+(ct aq).size<=_;omega);refine hK _ _ (fun _=>S4) ?_;clear hK K hpp b3 S3 B3 T3 B4;refine ap [4] ?_
  iterate 1 refine aT S4 ?_
  refine aj ?_;dsimp only[aE]at rL;refine ag 5 fun K hK=>?_;go_simp;refine rL.mono ?_;rintro e v4 ⟨rfl,vb4,B4,t4⟩;have S5:=S4.fr t4 UO.out;have T5:=T4.trans t4;have z4:=t4.size;refine hK _ _ (fun _=>S5) ?_;clear hK K rL S4 T4 t4;refine am ?_;obtain⟨⟨m0,m1,m2,m3,m4,m5,m6⟩,xw,xs,xp⟩:=qX S5
  have hlen:(l++kR ⟨aE cI,aY h⟩++kR ⟨aE cP,ct aq⟩).length<=2000000:=by
   rw[aac,aac,lh,gJ ⟨rfl,rfl,by show (ct aq).size<=_;omega⟩];show _+_+(12+(ct aq).size)<=_;omega
  have DR:=ve B b w.heap.size _ X ck vb4 v4 B4 S5.p UO.out.2.2.2 (by omega) hck hX (by dsimp only[aE]at hlen ⊢;omega);have XT:Hid (_/\_):=⟨S5,T5⟩
  dsimp only[aE]at hlen;clear S5 T5 B4 HS2 HB2;go_wp2_with fail;refine DR.mono ?_;rintro e v5 ⟨rfl,ds,vb5,hpc,B5,t5⟩;have S5:=XT.out.1.fr t5 UO.out;obtain⟨⟨m0,m1,m2,m3,m4,m5,m6⟩,xw,xs,xp⟩:=qX S5;have z5:=t5.size
  have hdl:(aH (eW ds)).length<=140000000:=by
   have hX2:=hX;have hle:=zj hpc;omega
  have hpe:=Me B b _ ⟨aE nD,⟨#[]⟩⟩ vb5 v5 B5 (by omega) (by rw[aac];show _+_+12+4+0<=_;omega);have HG:Hid (_/\_):=⟨hpc,XT.out.2.trans t5⟩
  clear S5 t5 hpc B5 DR;dsimp only[aE]at hpe;go_wp2_with fail;refine hpe.mono ?_;rintro e v6 ⟨rfl,XW,B6,t6⟩
  have HF:Hid (mG v6 B b (l++aH (bj h aq ds)) XW/\kK B b w v6):=by
   refine⟨?_,HG.out.2.trans t6⟩;have e:bj h aq ds=⟨aE cI,aY h⟩::⟨aE cP,ct aq⟩::(eW ds++vK):=by unfold bj;rw[aaj h3];rfl
   have e2:aH (bj h aq ds)=kR ⟨aE cI,aY h⟩++(kR ⟨aE cP,ct aq⟩++(aH (eW ds)++kR ⟨aE nD,⟨#[]⟩⟩)):=by
    rw[e];show kR _++(kR _++aH (eW ds++vK))=_;rw[qW]
   rw[e2];have XX:=B6;simp only[aaw]at XX;exact XX
  clear B6 t6 hpe;go_wp2
  go_end0
  exact⟨rfl,ds,XW,HG.out.1,HF.out.1,HF.out.2⟩
 ·have h3b:(h.kd==3)=false:=aaP.2 h3;have hlen:(l++kR ⟨aE cI,aY h⟩).length<=2000000:=by rw[aac,lh];omega
  have DR:=ve B b w.heap.size _ X ck Zj v2 HB2.out HS2.out.1.p UO.out.2.2.2 (by omega) hck hX (by omega);have XT:Hid (_/\_):=HS2.out;clear HS2 HB2;go_wp2_with fail;refine DR.mono ?_;rintro e v5 ⟨rfl,ds,vb5,hpc,B5,t5⟩;have S5:=XT.out.1.fr t5 UO.out;obtain⟨⟨m0,m1,m2,m3,m4,m5,m6⟩,xw,xs,xp⟩:=qX S5;have z5:=t5.size
  have hdl:(aH (eW ds)).length<=140000000:=by
   have hX2:=hX;have hle:=zj hpc;omega
  have hpe:=Me B b _ ⟨aE nD,⟨#[]⟩⟩ vb5 v5 B5 (by omega) (by rw[aac];show _+_+12+4+0<=_;omega);have HG:Hid (_/\_):=⟨hpc,XT.out.2.trans t5⟩
  clear S5 t5 hpc B5 DR;dsimp only[aE]at hpe;go_wp2_with fail;refine hpe.mono ?_;rintro e v6 ⟨rfl,XW,B6,t6⟩
  have HF:Hid (mG v6 B b (l++aH (bj h aq ds)) XW/\kK B b w v6):=by
   refine⟨?_,HG.out.2.trans t6⟩;have e:bj h aq ds=⟨aE cI,aY h⟩::(eW ds++vK):=by unfold bj;rw[aai h3];rfl
   have e2:aH (bj h aq ds)=kR ⟨aE cI,aY h⟩++(aH (eW ds)++kR ⟨aE nD,⟨#[]⟩⟩):=by
    rw[e];show kR _++aH (eW ds++vK)=_;rw[qW]
   rw[e2];have XX:=B6;simp only[aaw]at XX;exact XX
  clear B6 t6 hpe;go_wp2
  go_end0
  exact⟨rfl,ds,XW,HG.out.1,HF.out.1,HF.out.2⟩
end Go.Proofs.YtmfijackgekioabGreatDoor
