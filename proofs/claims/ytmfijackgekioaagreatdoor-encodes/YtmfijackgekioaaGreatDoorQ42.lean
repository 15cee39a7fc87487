import Derived.Test.YtmfijackgekioaaGreatDoorQ41
import Derived.Test.YtmfijackgekioaaGreatDoorLt
set_option maxHeartbeats 1000000
set_option maxRecDepth 100000
namespace Go.Proofs.YtmfijackgekioaaGreatDoor
open Go.RowKit Go.Maps
abbrev dD (h:Hd)(pv sv:Value):Array Value:=#[.int .i64 h.wd,.int .i64 h.ht,.int .i64 h.kd,.int .i64 h.dp,.bool h.ps,pv,sv]
def ur (h:Hd):List UInt8:=[UInt8.ofNat h.dp.toNat,UInt8.ofNat h.kd.toNat,0,0,if h.ps=true then 1 else 0]
theorem rg {u:World}{j:Nat}{d k p:Int}{h:Hd}(hb:u.heap[j]?=some (.cells #[.int .u8 d,.int .u8 k,.int .u8 0,.int .u8 0,.int .u8 p] 5 (0,0)))(e:(ur h).map bG=[.int .u8 d,.int .u8 k,.int .u8 0,.int .u8 0,.int .u8 p]): (convert 107 9 (.slice (some ⟨j,0,none⟩) 5 5)).run Tryz.prog u=.ok (.string ⟨(ur h).toArray⟩) u:=by
 refine dI (base:=j) (n:=5) (l:=ur h) ⟨rfl,.inr ⟨j,5,_,rfl,aad _,hb,aad _,by unfold maxLen;omega,rfl,?_⟩⟩ rfl;rw[e];rfl
theorem F6 {h:Hd}(hf:qm h):(ur h).map bG=[.int .u8 h.dp,.int .u8 h.kd,.int .u8 0,.int .u8 0,.int .u8 (if h.ps=true then 1 else 0)]:=by
 have hd:=Pm.bp _ _ hf.ch;have hk:=xW hf.ch;simp only[ur,ach,List.map_nil,bG];rw[ui (x:=h.dp) (by omega) (by omega),ui (x:=h.kd) (by omega) (by omega)];cases h.ps<;>rfl
theorem Ct (h:Hd)(pv sv:Value)(w:World)(hf:qm h): Calls Tryz.prog 65 #[.agg (dD h pv sv)] w fun e w'=>e=.returned (.string (cL h))/\Below w.heap.size w w':=by
 have YV:=F6 hf;have hd:=Pm.bp _ _ hf.ch;have hk:=xW hf.ch;obtain⟨W,hW⟩:∃W:Nat,h.wd=(W:Int):=⟨h.wd.toNat,by have:=hf.wd;omega⟩
 obtain⟨H,hH⟩:∃H:Nat,h.ht=(H:Int):=⟨h.ht.toNat,by have:=hf.ht;omega⟩
 have w1:=hf.wd;have h1:=hf.ht
 have HE:Hid (cL h=(⟨(four (W:Int)).toArray⟩++⟨(four (H:Int)).toArray⟩:ByteArray)++⟨(ur h).toArray⟩):=by
  refine ba_eq ?_;rw[rJ,rJ,<-hW,<-hH];rfl
 have U8:=fun u=>py W u (by omega);have U9:=fun u=>py H u (by omega);have hl4:∀a,(four a).length=4:=fun _=>rfl;obtain⟨p,hp⟩:∃p:Int,p=if h.ps=true then 1 else 0:=⟨_,rfl⟩
 rw[<-hp]at YV;have wd8:IntKind.u8.wrap h.dp=h.dp:=by rw[abT];omega
 have wk8:IntKind.u8.wrap h.kd=h.kd:=by rw[abT];omega
 obtain⟨k0,q0,q1⟩:=bO w (.cells (dD h pv sv) 30) (.cells #[.int .u8 h.dp,.int .u8 h.kd,.int .u8 0,.int .u8 0,.int .u8 p] 5);obtain⟨x0,x1,x2,x3,x4,x5,x6⟩:=aI (ak w (.cells (dD h pv sv) 30));have z2:((w.alloc (.cells (dD h pv sv) 30)).alloc (.cells #[.int .u8 h.dp,.int .u8 h.kd,.int .u8 0,.int .u8 0,.int .u8 p] 5)).heap.size=w.heap.size+2:=by simp
 have HQ:Hid (_/\_/\_):=⟨k0,q0,q1⟩
 have HV:Hid (_):=YV;have hrl:(ur h).length=5:=rfl;clear k0 q0 q1 YV;rcases Bool.eq_false_or_eq_true h.ps with hps|hps
 ·rw[hps]at hp x4;rw[aaf rfl]at hp;subst hp
  go_enter Tryz.func65,Tryz.ntmps65
  go_wp2_with fail;have hS:((w.alloc (.cells (dD h pv sv) 30)).alloc (.cells #[.int .u8 h.dp,.int .u8 h.kd,.int .u8 0,.int .u8 0,.int .u8 1] 5)).drew.heap[w.heap.size]?=some (.cells (dD h pv sv) 30 (0,0))/\((w.alloc (.cells (dD h pv sv) 30)).alloc (.cells #[.int .u8 h.dp,.int .u8 h.kd,.int .u8 0,.int .u8 0,.int .u8 1] 5)).drew.heap[w.heap.size+1]?=some (.cells #[.int .u8 h.dp,.int .u8 h.kd,.int .u8 0,.int .u8 0,.int .u8 1] 5 (0,0)):=⟨HQ.out.2.1,HQ.out.2.2⟩
  have kS:Below w.heap.size w ((w.alloc (.cells (dD h pv sv) 30)).alloc (.cells #[.int .u8 h.dp,.int .u8 h.kd,.int .u8 0,.int .u8 0,.int .u8 1] 5)).drew:=HQ.out.1.drew;have zS:((w.alloc (.cells (dD h pv sv) 30)).alloc (.cells #[.int .u8 h.dp,.int .u8 h.kd,.int .u8 0,.int .u8 0,.int .u8 1] 5)).drew.heap.size=w.heap.size+2:=z2;refine aE (fun u=>u.heap[w.heap.size]?=some (.cells (dD h pv sv) 30 (0,0))/\u.heap[w.heap.size+1]?=some (.cells #[.int .u8 h.dp,.int .u8 h.kd,.int .u8 0,.int .u8 0,.int .u8 1] 5 (0,0))) 99 ?_;generalize World.drew _=v0 at *;refine am [0,1,3,4] ?_
  iterate 4 (refine ff (v:=?_) (T:=?_) ?ht ?hy hS ?_;(case hy=>intro w hSw;(have KT := aI hSw.1; rw [hW, hH] at KT); go_simp;try with_reducible rfl);case ht=>go_simp;try with_reducible rfl)
  refine aj ?_;refine am [7,8] ?_
  iterate 2 (refine ff (v:=?_) (T:=?_) ?ht ?hy hS ?_;(case hy=>intro w hSw;have KT := rg (h := h) hSw.2 HV.out; go_simp;try with_reducible rfl);case ht=>go_simp;try with_reducible rfl)
  refine aj ?_;refine ai 2 fun K hK=>?_;go_simp;refine (U8 _).mono ?_;rintro e v1 ⟨rfl,b1⟩;have zb:=b1.size;have S1:v1.heap[w.heap.size]?=some (.cells (dD h pv sv) 30 (0,0))/\v1.heap[w.heap.size+1]?=some (.cells #[.int .u8 h.dp,.int .u8 h.kd,.int .u8 0,.int .u8 0,.int .u8 1] 5 (0,0)):=⟨(b1.block _ (by omega)).trans hS.1,(b1.block _ (by omega)).trans hS.2⟩
  refine hK _ _ (fun _=>S1) ?_;clear hK K;refine ai 5 fun K hK=>?_;go_simp;refine (U9 _).mono ?_;rintro e v2 ⟨rfl,b2⟩;have S2:v2.heap[w.heap.size]?=some (.cells (dD h pv sv) 30 (0,0))/\v2.heap[w.heap.size+1]?=some (.cells #[.int .u8 h.dp,.int .u8 h.kd,.int .u8 0,.int .u8 0,.int .u8 1] 5 (0,0)):=⟨(b2.block _ (by omega)).trans S1.1,(b2.block _ (by omega)).trans S1.2⟩
  have HB:Hid (Below w.heap.size w v2):=(kS.trans (b1.mono (by omega))).trans (b2.mono (by omega));refine hK _ _ (fun _=>S2) ?_;clear hK K b1 b2 kS;refine am [6,9,10] ?_
  iterate 3 refine au S2 ?_
  refine aj ?_;refine ar ?_;go_wp2
  go_ret
  exact⟨by rw[HE.out];rfl,HB.out⟩
 ·rw[hps]at hp x4;rw[aae (by decide)]at hp;subst hp
  go_enter Tryz.func65,Tryz.ntmps65
  go_wp2_with fail;have hS:((w.alloc (.cells (dD h pv sv) 30)).alloc (.cells #[.int .u8 h.dp,.int .u8 h.kd,.int .u8 0,.int .u8 0,.int .u8 0] 5)).drew.heap[w.heap.size]?=some (.cells (dD h pv sv) 30 (0,0))/\((w.alloc (.cells (dD h pv sv) 30)).alloc (.cells #[.int .u8 h.dp,.int .u8 h.kd,.int .u8 0,.int .u8 0,.int .u8 0] 5)).drew.heap[w.heap.size+1]?=some (.cells #[.int .u8 h.dp,.int .u8 h.kd,.int .u8 0,.int .u8 0,.int .u8 0] 5 (0,0)):=⟨HQ.out.2.1,HQ.out.2.2⟩
  have kS:Below w.heap.size w ((w.alloc (.cells (dD h pv sv) 30)).alloc (.cells #[.int .u8 h.dp,.int .u8 h.kd,.int .u8 0,.int .u8 0,.int .u8 0] 5)).drew:=HQ.out.1.drew;have zS:((w.alloc (.cells (dD h pv sv) 30)).alloc (.cells #[.int .u8 h.dp,.int .u8 h.kd,.int .u8 0,.int .u8 0,.int .u8 0] 5)).drew.heap.size=w.heap.size+2:=z2;refine aE (fun u=>u.heap[w.heap.size]?=some (.cells (dD h pv sv) 30 (0,0))/\u.heap[w.heap.size+1]?=some (.cells #[.int .u8 h.dp,.int .u8 h.kd,.int .u8 0,.int .u8 0,.int .u8 0] 5 (0,0))) 99 ?_;generalize World.drew _=v0 at *;refine am [0,1,3,4] ?_
  iterate 4 (refine ff (v:=?_) (T:=?_) ?ht ?hy hS ?_;(case hy=>intro w hSw;(have KT := aI hSw.1; rw [hW, hH] at KT); go_simp;try with_reducible rfl);case ht=>go_simp;try with_reducible rfl)
  refine aj ?_;refine am [7,8] ?_
  iterate 2 (refine ff (v:=?_) (T:=?_) ?ht ?hy hS ?_;(case hy=>intro w hSw;have KT := rg (h := h) hSw.2 HV.out; go_simp;try with_reducible rfl);case ht=>go_simp;try with_reducible rfl)
  refine aj ?_;refine ai 2 fun K hK=>?_;go_simp;refine (U8 _).mono ?_;rintro e v1 ⟨rfl,b1⟩;have zb:=b1.size;have S1:v1.heap[w.heap.size]?=some (.cells (dD h pv sv) 30 (0,0))/\v1.heap[w.heap.size+1]?=some (.cells #[.int .u8 h.dp,.int .u8 h.kd,.int .u8 0,.int .u8 0,.int .u8 0] 5 (0,0)):=⟨(b1.block _ (by omega)).trans hS.1,(b1.block _ (by omega)).trans hS.2⟩
  refine hK _ _ (fun _=>S1) ?_;clear hK K;refine ai 5 fun K hK=>?_;go_simp;refine (U9 _).mono ?_;rintro e v2 ⟨rfl,b2⟩;have S2:v2.heap[w.heap.size]?=some (.cells (dD h pv sv) 30 (0,0))/\v2.heap[w.heap.size+1]?=some (.cells #[.int .u8 h.dp,.int .u8 h.kd,.int .u8 0,.int .u8 0,.int .u8 0] 5 (0,0)):=⟨(b2.block _ (by omega)).trans S1.1,(b2.block _ (by omega)).trans S1.2⟩
  have HB:Hid (Below w.heap.size w v2):=(kS.trans (b1.mono (by omega))).trans (b2.mono (by omega));refine hK _ _ (fun _=>S2) ?_;clear hK K b1 b2 kS;refine am [6,9,10] ?_
  iterate 3 refine au S2 ?_
  refine aj ?_;refine ar ?_;go_wp2
  go_ret
  exact⟨by rw[HE.out];rfl,HB.out⟩
theorem MZ {p:List Int}{i:Nat}(hi:i<p.length)(h:Pm.fQ p 256=true):(p.take i++List.replicate (p.length-i) 0).set i (IntKind.u8.wrap p[i])=p.take (i+1)++List.replicate (p.length-(i+1)) 0:=by
 unfold Pm.fQ at h;rw[List.all_eq_true]at h;have hx:=h _ (aaR hi);simp only[aaJ,aaH]at hx;have e:IntKind.u8.wrap p[i]=p[i]:=by rw[abT];omega
 have hl:(p.take i).length=i:=by rw[aaQ];omega
 rw[e,List.set_append,aae (by omega),hl,Nat.sub_self,show p.length-i=(p.length-(i+1))+1 by omega,List.replicate_succ,List.set_cons_zero,aaB hi,aaq];rfl
theorem F8 (ao:Option Addr)(cap:Nat)(p:List Int)(w:World)(hi:Ints w ao p)(ha:∀a,ao=some a->p≠[]->a.block<w.heap.size)(hp:Pm.fQ p 256=true)(hl:p.length<=1000000): Calls Tryz.prog 66 #[.slice ao p.length cap] w fun e w'=>e=.returned (.string (cO p))/\Below w.heap.size w w':=by
 obtain⟨n,hn⟩:∃n,n=p.length:=⟨_,rfl⟩
 rw[<-hn]at hl ⊢;obtain⟨Z,hZ⟩:∃Z:List Value,Z=List.replicate n (.int .u8 0):=⟨_,rfl⟩
 have hmk:=fun u=>BW n (by omega) Z hZ u;have k0:=ag w (.cells Z.toArray 5)
 have q0:dA (w.alloc (.cells Z.toArray 5)) w.heap.size (p.take 0++List.replicate (n-0) 0):=by
  have e:Z=dC (p.take 0++List.replicate (n-0) 0):=by rw[hZ];simp[dC]
  unfold dA;rw[<-e];exact ak w _
 have HH:Hid (_/\_/\_/\_):=⟨hi,ha,k0,q0⟩
 have HP:Hid (_/\_):=⟨hp,hn⟩
 clear hi ha k0 q0 hZ hp hn
 go_enter Tryz.func66,Tryz.ntmps66
 go_wp2
 go_loopw [11] (fun ix wr=>∃i:Nat,i<=n/\ix=.int .i64 i/\Hid (dA wr w.heap.size (p.take i++List.replicate (n-i) 0))/\Hid (Below w.heap.size w wr)) (fun ix _=>n-(intOf ix).toNat)
 case atStart=>exact⟨0,aaj _,rfl,HH.out.2.2.2,HH.out.2.2.1⟩
 case round =>
  obtain⟨i,hin,rfl,HB,HK⟩:=hrel;by_cases hlt:i<n
  ·have hlt':(i:Int)<(n:Int):=by omega
   have hlt2:i<p.length:=by rw[<-HP.out.2];exact hlt
   obtain⟨b,off,rfl,hc⟩:=(HH.out.1.below HK.out HH.out.2.1) i hlt2;have lb:=aab HB.out;have fz:=HB.out.frozen i;obtain⟨O,hO⟩:∃O,wr.cell? ⟨w.heap.size,i,none⟩=some (.int .u8 O):=⟨_,HB.out.cell i (by rw[aac,aaQ,abh];omega)⟩
   have HN:Hid (dA (wr.setCell ⟨w.heap.size,i,none⟩ (.int .u8 (IntKind.u8.wrap p[i]))) w.heap.size (p.take (i+1)++List.replicate (n-(i+1)) 0)/\Below w.heap.size w (wr.setCell ⟨w.heap.size,i,none⟩ (.int .u8 (IntKind.u8.wrap p[i])))):=by
    refine⟨?_,HK.out.setCell (p:=⟨w.heap.size,i,none⟩) (aad _) _⟩;have:=HB.out.set i (IntKind.u8.wrap p[i]);rw[HP.out.2,MZ hlt2 HP.out.1,<-HP.out.2]at this;exact this
   generalize p[i]=V at *;go_wp2
   go_roundw
   case rel=>exact⟨i+1,by omega,by go_num,HN.out.1,HN.out.2⟩
   case measure=>simp[intOf];omega
  ·have hie:i=n:=by omega
   subst hie
   have hall:∀y∈p,0<=y/\y<256:=by
    have h:=HP.out.1;unfold Pm.fQ at h;rw[List.all_eq_true]at h;intro y hy;have hx:=h y hy;simp only[aaJ,aaH]at hx;exact hx
   have hst:(convert 107 9 (.slice (some ⟨w.heap.size,0,none⟩) i i)).run Tryz.prog wr=.ok (.string (cO p)) wr:=by
    have hB:=HB.out;rw[HP.out.2,List.take_length,Nat.sub_self,List.replicate_zero,aa9]at hB;have hv:=pE hall;refine dI (base:=w.heap.size) (n:=i) (l:=p.map fun y=>UInt8.ofNat y.toNat) ⟨by rw[abE,abE,HP.out.2,Nat.mul_one],.inr ⟨w.heap.size,i,(dC p).toArray,rfl,aad _,hB,aad _,by unfold maxLen;omega,by rw[List.size_toArray,abE,HP.out.2,Nat.mul_one],?_⟩⟩ (by rw[abE,HP.out.2]);rw[<-hv,HP.out.2,Nat.mul_one];show (dC p).take p.length=dC p;exact aav (by rw[abE];exact aad _)
   clear hall;go_wp2
   go_ret
   exact⟨rfl,HK.out⟩
abbrev jk (b:Nat):Value:=.func (.func 105) #[] #[.pointer (some ⟨b,0,none⟩)]
theorem ut (args:Array Value)(w:World):(callFunc 105 args).run Tryz.prog w=.ok (.enter 105 args) w:=by kernel_rfl
theorem Ke (B b:Nat)(l:List UInt8)(c:Ch)(v:Value)(w:World)(h:lu w B b l v)(hB:B<=w.heap.size)(hz:l.length+12+c.name.size+c.data.size<=900000000): Calls Tryz.prog 105 #[.agg #[.string c.name,.string c.data],.pointer (some ⟨b,0,none⟩)] w fun e w'=>e=.returned (.tuple #[])/\∃v',lu w' B b (l++n8 c) v'/\jT B b w w':=YT B b l c v w h hB hz
theorem QH (B b bP:Nat)(l:List UInt8)(d:ByteArray)(v:Value)(w:World)(h:lu w B b l v)(hP:bM w bP (jk b) 91)(hB:B<=w.heap.size)(hz:l.length+16+d.size<=900000000): Calls Tryz.prog 68 #[.string d,.pointer (some ⟨bP,0,none⟩)] w fun e w'=>e=.returned (.tuple #[])/\∃v',lu w' B b (l++n8 ⟨aO aP,d⟩) v'/\jT B b w w':=by
 have hcall:=ut;have Ak:=Ke B b l ⟨aO aP,d⟩ v w h hB (by show _+12+4+_<=_;omega);have c0:=hP.cell;dsimp only[aO]at Ak;clear h hP
 go_enter Tryz.func68,Tryz.ntmps68
 go_wp2_with fail;refine Ak.mono ?_;rintro e w1 ⟨rfl,v',h1,h2⟩;have HF:Hid (_/\_):=⟨h1,h2⟩
 clear h1 h2 Ak;go_wp2
 go_end0
 exact⟨rfl,v',HF.out⟩
theorem Cu (args:Array Value)(w:World):(callFunc 68 args).run Tryz.prog w=.ok (.enter 68 args) w:=by kernel_rfl
theorem qs (L:List Ch)(c:Ch):cX (L++[c])=cX L++n8 c:=by rw[Ao];show _++(n8 c++[])=_;rw[aa9]
theorem F9 (X:ByteArray)(q s:Nat):X.extract 0 q++X.extract q (q+s)=X.extract 0 (q+s):=by
 refine ba_eq ?_;rw[rJ,dh,dh,dh,acv,acv];have:=List.take_append_drop q (X.data.toList.take (q+s));rw[List.take_take,Nat.min_eq_left (by omega)]at this;exact this
theorem rL (X:ByteArray):X.extract 0 X.size=X:=by
 refine ba_eq ?_;rw[dh,acv,aav (by rw[cy];exact aad _)]
structure Ec (X:ByteArray) (q most:Nat) (ds:List ByteArray):Prop where
 cat:oF ds=X.extract 0 q
 few:∀d∈ds,1<=d.size/\d.size<=most
theorem uu (B b bP:Nat)(l:List UInt8)(X:ByteArray)(most:Nat)(v:Value)(w:World)(h:lu w B b l v)(hP:bM w bP (jk b) 91)(hPb:bP≠b)(hB:B<=w.heap.size)(hm:1<=most/\most<=1048576)(hX:X.size<=10000000)(hl:l.length<=100000000): Calls Tryz.prog 67 #[.string X,.int .i64 (most:Nat),.func (.func 68) #[] #[.pointer (some ⟨bP,0,none⟩)]] w fun e w'=>e=.returned (.tuple #[])/\∃ds v',Ec X X.size most ds/\lu w' B b (l++cX (i7 ds)) v'/\jT B b w w':=by
 have hcall:=Cu;have HH:Hid (_/\_):=⟨h,hP⟩
 have HX:Hid (_/\_):=⟨hX,hl⟩
 clear h hP hX hl
 go_enter Tryz.func67,Tryz.ntmps67
 go_wp2
 go_loopw [0] (fun bv wr=>∃(q:Nat) (r:ByteArray) (ds:List ByteArray) (v':Value),bv=.string r/\r.size+q=X.size/\Hid (r=X.extract q X.size)/\Hid (Ec X q most ds)/\Hid (lu wr B b (l++cX (i7 ds)) v'/\(cX (i7 ds)).length<=13*q)/\Hid (jT B b w wr)) (fun bv _=>PP bv)
 case atStart=>exact⟨0,X,[],v,rfl,rfl,(rL X).symm,⟨by show (⟨#[]⟩:ByteArray)=_;refine ba_eq ?_;rw[dh,List.take_zero];rfl,fun d hd=>absurd hd (abC)⟩,⟨by show lu _ _ _ (l++[]) _;rw[aa9];exact HH.out.1,aaj _⟩,jT.refl _ _ _⟩
 case round =>
  obtain⟨q,r,ds,v',rfl,hq,HR,HP,Va,Vb⟩:=hrel;by_cases h0:r.size=0
  ·have VU:¬(r.size:Int)>0:=by omega
   have HF:Hid (Ec X X.size most ds):=by show Ec _ _ _ _;rw[<-hq,h0,aaF];exact HP.out
   clear HP;go_wp2
   go_end0
   exact⟨rfl,ds,HF.out,⟨v',Va.out.1⟩,Vb.out⟩
  ·have VU:(r.size:Int)>0:=by omega
   obtain⟨s,hs⟩:∃s,s=min most r.size:=⟨_,rfl⟩
   have hsi:min (most:Int) (r.size:Int)=(s:Int):=by omega
   have hs1:(s:Int)<=(r.size:Int):=by omega
   have hs2:1<=s/\s<=most/\s<=r.size:=by omega
   have zz:=Vb.out.size
   have hpc:=QH B b bP (l++cX (i7 ds)) (r.extract 0 s) v' wr Va.out.1 (Vb.out.typ _ _ _ _ HH.out.2 (by decide) hPb) (by omega) (by
    rw[aac,aa7];have:=Va.out.2;have:=HX.out
    omega)
   have Qc:(r.extract 0 s).size=s:=by rw[aa7];omega
   have er:r.extract 0 s=X.extract q (q+s):=by
    rw[HR.out];refine ba_eq ?_;rw[dh,dh,dh,acv,aav (l:=X.data.toList) (by rw[cy];exact aad _),List.drop_take,Nat.add_sub_cancel_left]
   have er2:r.extract s r.size=X.extract (q+s) X.size:=by
    rw[HR.out];refine ba_eq ?_;rw[dh,aav (by rw[cy];exact aad _),dh,dh,aav (l:=X.data.toList) (by rw[cy];exact aad _),List.drop_drop]
   have HN:Hid (Ec X (q+s) most (ds++[r.extract 0 s])):=by
    refine⟨?_,fun d hd=>?_⟩
    ·rw[zX,HP.out.cat,er];exact F9 X q s
    ·rcases aa8.1 hd with hd|hd
     ·exact HP.out.few d hd
     ·rcases abf.1 hd with rfl;omega
   have HL:Hid ((cX (i7 (ds++[r.extract 0 s]))).length<=13*(q+s)/\l++cX (i7 ds)++n8 ⟨aO aP,r.extract 0 s⟩=l++cX (i7 (ds++[r.extract 0 s]))):=by
    have e:i7 (ds++[r.extract 0 s])=i7 ds++[⟨aO aP,r.extract 0 s⟩]:=abo;rw[e,qs];refine⟨?_,by rw[aaq]⟩;rw[aac,kM ⟨rfl,rfl,by show (r.extract 0 s).size<=_;omega⟩];show _+(12+(r.extract 0 s).size)<=_;have:=Va.out.2;omega
   have HER:Hid (r.extract s r.size=X.extract (q+s) X.size/\(r.extract s r.size).size+(q+s)=X.size):=⟨er2,by rw[aa7];omega⟩
   have hsn:(r.extract s r.size).size<r.size:=by rw[aa7];omega
   clear er er2 Qc hs;go_wp2_with fail;refine hpc.mono ?_;rintro e w1 ⟨rfl,v2,h1,h2⟩;have HF:Hid (lu w1 B b (l++cX (i7 (ds++[r.extract 0 s]))) v2/\(cX (i7 (ds++[r.extract 0 s]))).length<=13*(q+s)):=⟨by rw[<-HL.out.2];exact h1,HL.out.1⟩
   have HG:Hid (jT B b w w1):=Vb.out.trans h2;clear h1 h2 hpc HL Va Vb;go_wp2
   go_roundw
   case rel=>exact⟨q+s,_,_,v2,rfl,HER.out.2,HER.out.1,HN,HF,HG⟩
   case measure=>exact hsn
structure ru (w:World) (M bW bS P0 b:Nat) (h:Hd) (pv sv:Value) (X:ByteArray) (lv fl ck:Int):Prop where
 m:w.heap[M]?=some (.cells (dD h pv sv) 30 (0,0))
 x:bM w bW (.string X) 9
 s:w.heap[bS]?=some (.cells #[.int .i64 lv,.int .i64 fl,.int .i64 ck] 32 (0,0))
 p:bM w P0 (jk b) 91
theorem ru.fr {w w':World}{M bW bS P0 b B:Nat}{h:Hd}{pv sv:Value}{X:ByteArray}{lv fl ck:Int}(e:ru w M bW bS P0 b h pv sv X lv fl ck)(k:jT B b w w')(hne:M≠b/\bW≠b/\bS≠b/\P0≠b):ru w' M bW bS P0 b h pv sv X lv fl ck :=
 ⟨k.typ _ _ _ _ e.m (by decide) hne.1,k.typ _ _ _ _ e.x (by decide) hne.2.1,k.typ _ _ _ _ e.s (by decide) hne.2.2.1,k.typ _ _ _ _ e.p (by decide) hne.2.2.2⟩
theorem ru.below {w w':World}{M bW bS P0 b:Nat}{h:Hd}{pv sv:Value}{X:ByteArray}{lv fl ck:Int}(e:ru w M bW bS P0 b h pv sv X lv fl ck)(k:Below w.heap.size w w'):ru w' M bW bS P0 b h pv sv X lv fl ck :=
 ⟨(k.block _ (aab e.m)).trans e.m,(k.block _ (aab e.x)).trans e.x,(k.block _ (aab e.s)).trans e.s,(k.block _ (aab e.p)).trans e.p⟩
theorem fm {w:World}{T:Nat}{a b c:Value}{t:TypeId}(h:w.heap[T]?=some (.cells #[a,b,c] t (0,0))):w.cell? ⟨T,0,none⟩=some a/\w.cell? ⟨T,1,none⟩=some b/\w.cell? ⟨T,2,none⟩=some c :=
 ⟨aan _ _ _ _ _ _ h,aan _ _ _ _ _ _ h,aan _ _ _ _ _ _ h⟩
theorem qu {w:World}{M bW bS P0 b:Nat}{h:Hd}{pv sv:Value}{X:ByteArray}{lv fl ck:Int}(e:ru w M bW bS P0 b h pv sv X lv fl ck): (w.cell? ⟨M,0,none⟩=some (.int .i64 h.wd)/\w.cell? ⟨M,1,none⟩=some (.int .i64 h.ht)/\w.cell? ⟨M,2,none⟩=some (.int .i64 h.kd)/\w.cell? ⟨M,3,none⟩=some (.int .i64 h.dp)/\w.cell? ⟨M,4,none⟩=some (.bool h.ps)/\w.cell? ⟨M,5,none⟩=some pv/\w.cell? ⟨M,6,none⟩=some sv) /\ w.cell? ⟨bW,0,none⟩=some (.string X)/\w.cell? ⟨bS,2,none⟩=some (.int .i64 ck)/\w.cell? ⟨P0,0,none⟩=some (jk b):=by
 obtain⟨a0,a1,a2,a3,a4,a5,a6⟩:=aI e.m;exact⟨⟨a0,a1,a2,a3,a4,a5,a6⟩,e.x.cell,(fm e.s).2.2,e.p.cell⟩
theorem wy {X:ByteArray}{most:Nat}{ds:List ByteArray}(h:Ec X X.size most ds)(hX:0<X.size):ds≠[]:=fun e=>by
 have:=h.cat;rw[e,rL]at this;have:=abq ByteArray.size this;show False;rw[<-this]at hX;exact absurd hX (by show ¬0<0;omega)
theorem yg {X:ByteArray}{most:Nat}{ds:List ByteArray}(h:Ec X X.size most ds):(cX (i7 ds)).length<=13*X.size:=by
 have key:∀ds:List ByteArray,(∀d∈ds,1<=d.size/\d.size<=most)->(cX (i7 ds)).length<=13*(oF ds).size:=by
  intro ds
  induction ds with
  | nil=>intro _;exact aaj _
  | cons d r ih =>
   intro hd;have h1:=ih (fun x hx=>hd x (abN _ hx));have h2:=hd d abJ;show (n8 ⟨aO aP,d⟩++cX (i7 r)).length<=13*(d++oF r).size;rw[aac,ByteArray.size_append]
   have h3:(n8 ⟨aO aP,d⟩).length=12+d.size:=by
    unfold n8;simp only[aac,cy];show 4+(4+(_+4))=_;omega
   omega
 have:=key ds h.few;rw[h.cat,rL]at this;exact this
theorem Kf (h:Hd):(n8 ⟨aO fS,cL h⟩).length=25:=by rw[kM ⟨rfl,rfl,by show 13<=_;omega⟩];rfl
theorem Vc (B b M bW bS:Nat)(l:List UInt8)(h:Hd)(aK:List Int)(pa:Option Addr)(pc:Nat)(sv v:Value)(X:ByteArray)(lv fl:Int)(ck:Nat)(w:World)(hb:lu w B b l v)(hm:w.heap[M]?=some (.cells (dD h (.slice pa aK.length pc) sv) 30 (0,0)))(hW:bM w bW (.string X) 9)(hS:w.heap[bS]?=some (.cells #[.int .i64 lv,.int .i64 fl,.int .i64 ck] 32 (0,0)))(hne:M≠b/\bW≠b/\bS≠b)(hB:B<=w.heap.size)(hf:qm h)(hpa:Ints w pa aK)(hpl:∀a,pa=some a->aK≠[]->a.block<B)(hpb:h.kd=3->Pm.fQ aK 256=true)(hpn:aK.length<=1000000)(hX:X.size<=10000000)(hck:1<=ck/\ck<=1048576)(hl:l.length<=1000): Calls Tryz.prog 64 #[jk b,.pointer (some ⟨M,0,none⟩),.pointer (some ⟨bW,0,none⟩),.pointer (some ⟨bS,0,none⟩)] w fun e w'=>e=.returned (.tuple #[])/\∃ds v',Ec X X.size ck ds/\lu w' B b (l++cX (bZ h aK ds)) v'/\jT B b w w':=by
 have hcall:=ut;have hhb:=fun u=>Ct h (.slice pa aK.length pc) sv u hf;have k0:=ag w (.cells #[jk b] 91);have q0:=ak w (.cells #[jk b] 91);have z0:(w.alloc (.cells #[jk b] 91)).heap.size=w.heap.size+1:=by simp
 have lb:=hb.lt;have E0:ru (w.alloc (.cells #[jk b] 91)) M bW bS w.heap.size b h (.slice pa aK.length pc) sv X lv fl ck:=⟨(k0.block _ (aab hm)).trans hm,(k0.block _ (aab hW)).trans hW,(k0.block _ (aab hS)).trans hS,q0⟩
 have b0:=hb.below k0;have t0:jT B b w (w.alloc (.cells #[jk b] 91)):=jT.aJ k0 hB;have Vd:M≠b/\bW≠b/\bS≠b/\w.heap.size≠b:=⟨hne.1,hne.2.1,hne.2.2,by omega⟩
 have HI:Hid (_/\_/\_):=⟨hpa,hpl,hpb⟩
 have HT:Hid (_):=t0;have RG:Hid (_):=Vd;clear hb hm hW hS k0 q0 t0 hne Vd hpa hpl hpb hf
 go_enter Tryz.func64,Tryz.ntmps64
 go_wp2_with fail;have S0:ru (w.alloc (.cells #[jk b] 91)).drew M bW bS w.heap.size b h (.slice pa aK.length pc) sv X lv fl ck:=⟨E0.m,E0.x,E0.s,E0.p⟩
 have B0:lu (w.alloc (.cells #[jk b] 91)).drew B b l v:=b0.kept (fun _ _=>rfl);have T0:jT B b w (w.alloc (.cells #[jk b] 91)).drew:=⟨HT.out.below.drew,fun j cs t fr hj h5 hjb=>HT.out.typ j cs t fr hj h5 hjb⟩
 have Z0:(w.alloc (.cells #[jk b] 91)).drew.heap.size=w.heap.size+1:=z0;refine aE (fun u=>ru u M bW bS w.heap.size b h (.slice pa aK.length pc) sv X lv fl ck) 99 ?_;generalize World.drew _=v0 at *;clear E0 b0 z0 HT;refine am [0,1] ?_
 iterate 2 (refine ff (v:=?_) (T:=?_) ?ht ?hy S0 ?_;(case hy=>intro w hSw;have KT := qu hSw; go_simp;try with_reducible rfl);case ht=>go_simp;try with_reducible rfl)
 refine aj ?_;refine ai 2 fun K hK=>?_;go_simp;refine (hhb _).mono ?_;rintro e v1 ⟨rfl,b1⟩;have z1:=b1.size;have S1:=S0.below b1;have B1:=B0.below b1;have T1:=T0.trans (jT.aJ (B:=B) (b:=b) b1 (by omega));have Ak:=Ke B b l ⟨aO fS,cL h⟩ v v1 B1 (by omega) (by show _+12+4+13<=_;omega);refine hK _ _ (fun _=>S1) ?_;clear hK K hhb b1 S0 B0 T0 B1;refine am [3] ?_
 iterate 1 refine au S1 ?_
 refine aj ?_;dsimp only[aO]at Ak;refine ai 4 fun K hK=>?_;go_simp;refine Ak.mono ?_;rintro e v2 ⟨rfl,Wc,B2,t2⟩;have S2:=S1.fr t2 RG.out;have T2:=T1.trans t2;have z2:=t2.size;refine hK _ _ (fun _=>S2) ?_;clear hK K Ak S1 T1 t2;refine ar ?_;obtain⟨⟨m0,m1,m2,m3,m4,m5,m6⟩,xw,xs,xp⟩:=qu S2;have lh:=Kf h;have HB2:Hid (lu v2 B b (l++n8 ⟨aO fS,cL h⟩) Wc):=B2;have HS2:Hid (_/\_):=⟨S2,T2⟩
 clear B2 S2 T2;by_cases h3:h.kd=3
 ·have h3b:(h.kd==3)=true:=abs.2 h3;have hpb:=HI.out.2.2 h3;have bw:Below B w v2:=HS2.out.2.below;go_wp2_with fail;have S3:ru v2.drew M bW bS w.heap.size b h (.slice pa aK.length pc) sv X lv fl ck:=⟨HS2.out.1.m,HS2.out.1.x,HS2.out.1.s,HS2.out.1.p⟩
  have B3:lu v2.drew B b (l++n8 ⟨aO fS,cL h⟩) Wc:=HB2.out.kept (fun _ _=>rfl);have T3:jT B b w v2.drew:=⟨bw.drew,fun j cs t fr hj h5 hjb=>HS2.out.2.typ j cs t fr hj h5 hjb⟩
  have Z3:v2.drew.heap.size=v2.heap.size:=rfl;have hpp:=F8 pa pc aK v2.drew (HI.out.1.below T3.below HI.out.2.1) (fun a e e2=>by have:=HI.out.2.1 a e e2;omega) hpb hpn;refine aE (fun u=>ru u M bW bS w.heap.size b h (.slice pa aK.length pc) sv X lv fl ck) 99 ?_;generalize v2.drew=v2' at *;refine am [0,1,2] ?_
  iterate 3 (refine ff (v:=?_) (T:=?_) ?ht ?hy S3 ?_;(case hy=>intro w hSw;have KT := qu hSw; go_simp;try with_reducible rfl);case ht=>go_simp;try with_reducible rfl)
  refine aj ?_;refine ai 3 fun K hK=>?_;go_simp;refine hpp.mono ?_;rintro e v3 ⟨rfl,b3⟩;have z3:=b3.size;have S4:=S3.below b3;have B4:=B3.below b3;have T4:=T3.trans (jT.aJ (B:=B) (b:=b) b3 (by omega));have hps:=iU aK;have Ak:=Ke B b _ ⟨aO bQ,cO aK⟩ Wc v3 B4 (by omega) (by rw[aac,lh];show _+12+4+(cO aK).size<=_;omega);refine hK _ _ (fun _=>S4) ?_;clear hK K hpp b3 S3 B3 T3 B4;refine am [4] ?_
  iterate 1 refine au S4 ?_
  refine aj ?_;dsimp only[aO]at Ak;refine ai 5 fun K hK=>?_;go_simp;refine Ak.mono ?_;rintro e v4 ⟨rfl,vb4,B4,t4⟩;have S5:=S4.fr t4 RG.out;have T5:=T4.trans t4;have z4:=t4.size;refine hK _ _ (fun _=>S5) ?_;clear hK K Ak S4 T4 t4;refine ar ?_;obtain⟨⟨m0,m1,m2,m3,m4,m5,m6⟩,xw,xs,xp⟩:=qu S5
  have hlen:(l++n8 ⟨aO fS,cL h⟩++n8 ⟨aO bQ,cO aK⟩).length<=2000000:=by
   rw[aac,aac,lh,kM ⟨rfl,rfl,by show (cO aK).size<=_;omega⟩];show _+_+(12+(cO aK).size)<=_;omega
  have J9:=uu B b w.heap.size _ X ck vb4 v4 B4 S5.p RG.out.2.2.2 (by omega) hck hX (by dsimp only[aO]at hlen ⊢;omega);have Ve:Hid (_/\_):=⟨S5,T5⟩
  dsimp only[aO]at hlen;clear S5 T5 B4 HS2 HB2;go_wp2_with fail;refine J9.mono ?_;rintro e v5 ⟨rfl,ds,YW,hpc,B5,t5⟩;have S5:=Ve.out.1.fr t5 RG.out;obtain⟨⟨m0,m1,m2,m3,m4,m5,m6⟩,xw,xs,xp⟩:=qu S5;have z5:=t5.size
  have hdl:(cX (i7 ds)).length<=140000000:=by
   have hX2:=hX;have hle:=yg hpc;omega
  have hpe:=Ke B b _ ⟨aO jN,⟨#[]⟩⟩ YW v5 B5 (by omega) (by rw[aac];show _+_+12+4+0<=_;omega);have HG:Hid (_/\_):=⟨hpc,Ve.out.2.trans t5⟩
  clear S5 t5 hpc B5 J9;dsimp only[aO]at hpe;go_wp2_with fail;refine hpe.mono ?_;rintro e v6 ⟨rfl,Vf,B6,t6⟩
  have HF:Hid (lu v6 B b (l++cX (bZ h aK ds)) Vf/\jT B b w v6):=by
   refine⟨?_,HG.out.2.trans t6⟩;have e:bZ h aK ds=⟨aO fS,cL h⟩::⟨aO bQ,cO aK⟩::(i7 ds++MS):=by unfold bZ;rw[aaf h3];rfl
   have e2:cX (bZ h aK ds)=n8 ⟨aO fS,cL h⟩++(n8 ⟨aO bQ,cO aK⟩++(cX (i7 ds)++n8 ⟨aO jN,⟨#[]⟩⟩)):=by
    rw[e];show n8 _++(n8 _++cX (i7 ds++MS))=_;rw[qs]
   rw[e2];have Vg:=B6;simp only[aaq]at Vg;exact Vg
  clear B6 t6 hpe;go_wp2
  go_end0
  exact⟨rfl,ds,Vf,HG.out.1,HF.out.1,HF.out.2⟩
 ·have h3b:(h.kd==3)=false:=aam.2 h3;have hlen:(l++n8 ⟨aO fS,cL h⟩).length<=2000000:=by rw[aac,lh];omega
  have J9:=uu B b w.heap.size _ X ck Wc v2 HB2.out HS2.out.1.p RG.out.2.2.2 (by omega) hck hX (by omega);have Ve:Hid (_/\_):=HS2.out;clear HS2 HB2;go_wp2_with fail;refine J9.mono ?_;rintro e v5 ⟨rfl,ds,YW,hpc,B5,t5⟩;have S5:=Ve.out.1.fr t5 RG.out;obtain⟨⟨m0,m1,m2,m3,m4,m5,m6⟩,xw,xs,xp⟩:=qu S5;have z5:=t5.size
  have hdl:(cX (i7 ds)).length<=140000000:=by
   have hX2:=hX;have hle:=yg hpc;omega
  have hpe:=Ke B b _ ⟨aO jN,⟨#[]⟩⟩ YW v5 B5 (by omega) (by rw[aac];show _+_+12+4+0<=_;omega);have HG:Hid (_/\_):=⟨hpc,Ve.out.2.trans t5⟩
  clear S5 t5 hpc B5 J9;dsimp only[aO]at hpe;go_wp2_with fail;refine hpe.mono ?_;rintro e v6 ⟨rfl,Vf,B6,t6⟩
  have HF:Hid (lu v6 B b (l++cX (bZ h aK ds)) Vf/\jT B b w v6):=by
   refine⟨?_,HG.out.2.trans t6⟩;have e:bZ h aK ds=⟨aO fS,cL h⟩::(i7 ds++MS):=by unfold bZ;rw[aae h3];rfl
   have e2:cX (bZ h aK ds)=n8 ⟨aO fS,cL h⟩++(cX (i7 ds)++n8 ⟨aO jN,⟨#[]⟩⟩):=by
    rw[e];show n8 _++cX (i7 ds++MS)=_;rw[qs]
   rw[e2];have Vg:=B6;simp only[aaq]at Vg;exact Vg
  clear B6 t6 hpe;go_wp2
  go_end0
  exact⟨rfl,ds,Vf,HG.out.1,HF.out.1,HF.out.2⟩
end Go.Proofs.YtmfijackgekioaaGreatDoor
