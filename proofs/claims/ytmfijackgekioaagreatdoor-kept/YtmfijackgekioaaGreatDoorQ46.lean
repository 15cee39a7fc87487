import Derived.Test.YtmfijackgekioaaGreatDoorQ41
import Derived.Test.YtmfijackgekioaaGreatDoorQ42
import Derived.Test.YtmfijackgekioaaGreatDoorLt
set_option maxHeartbeats 1000000
set_option maxRecDepth 100000
namespace Go.Proofs.YtmfijackgekioaaGreatDoor
open Go.RowKit Go.Maps
abbrev aW (h:Hd)(pv sv:Value):Array Value:=#[.int .i64 h.wd,.int .i64 h.ht,.int .i64 h.kd,.int .i64 h.dp,.bool h.ps,pv,sv]
def uQ (h:Hd):List UInt8:=[UInt8.ofNat h.dp.toNat,UInt8.ofNat h.kd.toNat,0,0,if h.ps=true then 1 else 0]
theorem rK {u:World}{j:Nat}{d k p:Int}{h:Hd}(hb:u.heap[j]?=some (.cells #[.int .u8 d,.int .u8 k,.int .u8 0,.int .u8 0,.int .u8 p] 5 (0,0)))(e:(uQ h).map bU=[.int .u8 d,.int .u8 k,.int .u8 0,.int .u8 0,.int .u8 p]): (convert 107 9 (.slice (some ⟨j,0,none⟩) 5 5)).run Tryz.prog u=.ok (.string ⟨(uQ h).toArray⟩) u:=by
 refine fH (base:=j) (n:=5) (l:=uQ h) ⟨rfl,.inr ⟨j,5,_,rfl,Nat.le_refl _,hb,Nat.le_refl _,by unfold maxLen;omega,rfl,?_⟩⟩ rfl;rw[e];rfl
theorem Hu {h:Hd}(hf:lV h):(uQ h).map bU=[.int .u8 h.dp,.int .u8 h.kd,.int .u8 0,.int .u8 0,.int .u8 (if h.ps=true then 1 else 0)]:=by
 have hd:=Pm.cm _ _ hf.ch;have hk:=yz hf.ch;simp only[uQ,List.map_cons,List.map_nil,bU];rw[uM (x:=h.dp) (by omega) (by omega),uM (x:=h.kd) (by omega) (by omega)];cases h.ps<;>rfl
theorem DA (h:Hd)(pv sv:Value)(w:World)(hf:lV h): Calls Tryz.prog 65 #[.agg (aW h pv sv)] w fun e w'=>e=.returned (.string (cS h))/\Below w.heap.size w w':=by
 have OA:=Hu hf;have hd:=Pm.cm _ _ hf.ch;have hk:=yz hf.ch;obtain⟨W,hW⟩:∃W:Nat,h.wd=(W:Int):=⟨h.wd.toNat,by have:=hf.wd;omega⟩
 obtain⟨H,hH⟩:∃H:Nat,h.ht=(H:Int):=⟨h.ht.toNat,by have:=hf.ht;omega⟩
 have w1:=hf.wd;have h1:=hf.ht
 have HE:Hid (cS h=(⟨(four (W:Int)).toArray⟩++⟨(four (H:Int)).toArray⟩:ByteArray)++⟨(uQ h).toArray⟩):=by
  refine ba_eq ?_;rw[sF,sF,<-hW,<-hH];rfl
 have Xv:=fun u=>pK W u (by omega);have Xw:=fun u=>pK H u (by omega);have hl4:∀a,(four a).length=4:=fun _=>rfl;obtain⟨p,hp⟩:∃p:Int,p=if h.ps=true then 1 else 0:=⟨_,rfl⟩
 rw[<-hp]at OA;have wd8:IntKind.u8.wrap h.dp=h.dp:=by rw[IntKind.wrap_u8];omega
 have wk8:IntKind.u8.wrap h.kd=h.kd:=by rw[IntKind.wrap_u8];omega
 obtain⟨k0,q0,q1⟩:=bJ w (.cells (aW h pv sv) 30) (.cells #[.int .u8 h.dp,.int .u8 h.kd,.int .u8 0,.int .u8 0,.int .u8 p] 5);obtain⟨x0,x1,x2,x3,x4,x5,x6⟩:=aJ (ah w (.cells (aW h pv sv) 30));have z2:((w.alloc (.cells (aW h pv sv) 30)).alloc (.cells #[.int .u8 h.dp,.int .u8 h.kd,.int .u8 0,.int .u8 0,.int .u8 p] 5)).heap.size=w.heap.size+2:=by simp
 have HQ:Hid (_/\_/\_):=⟨k0,q0,q1⟩
 have HV:Hid (_):=OA;have hrl:(uQ h).length=5:=rfl;clear k0 q0 q1 OA;rcases Bool.eq_false_or_eq_true h.ps with hps|hps
 ·rw[hps]at hp x4;rw[if_pos rfl]at hp;subst hp
  go_enter Tryz.func65,Tryz.ntmps65
  go_wp2_with fail;have hS:((w.alloc (.cells (aW h pv sv) 30)).alloc (.cells #[.int .u8 h.dp,.int .u8 h.kd,.int .u8 0,.int .u8 0,.int .u8 1] 5)).drew.heap[w.heap.size]?=some (.cells (aW h pv sv) 30 (0,0))/\((w.alloc (.cells (aW h pv sv) 30)).alloc (.cells #[.int .u8 h.dp,.int .u8 h.kd,.int .u8 0,.int .u8 0,.int .u8 1] 5)).drew.heap[w.heap.size+1]?=some (.cells #[.int .u8 h.dp,.int .u8 h.kd,.int .u8 0,.int .u8 0,.int .u8 1] 5 (0,0)):=⟨HQ.out.2.1,HQ.out.2.2⟩
  have kS:Below w.heap.size w ((w.alloc (.cells (aW h pv sv) 30)).alloc (.cells #[.int .u8 h.dp,.int .u8 h.kd,.int .u8 0,.int .u8 0,.int .u8 1] 5)).drew:=HQ.out.1.drew;have zS:((w.alloc (.cells (aW h pv sv) 30)).alloc (.cells #[.int .u8 h.dp,.int .u8 h.kd,.int .u8 0,.int .u8 0,.int .u8 1] 5)).drew.heap.size=w.heap.size+2:=z2;refine ax (by kernel_rfl) (fun u=>u.heap[w.heap.size]?=some (.cells (aW h pv sv) 30 (0,0))/\u.heap[w.heap.size+1]?=some (.cells #[.int .u8 h.dp,.int .u8 h.kd,.int .u8 0,.int .u8 0,.int .u8 1] 5 (0,0))) 99 ?_;generalize World.drew _=v0 at *;refine ap [0,1,3,4] ?_
  iterate 4 (refine ay (v:=?_) (T:=?_) ?ht rfl rfl (by kernel_rfl) (fun _ _ _ h=>h) ?hy hS ?_;(case hy=>intro w hSw;(have vn := aJ hSw.1; rw [hW, hH] at vn); go_simp;try with_reducible rfl);case ht=>go_simp;try with_reducible rfl)
  refine ai ?_;refine ap [7,8] ?_
  iterate 2 (refine ay (v:=?_) (T:=?_) ?ht rfl rfl (by kernel_rfl) (fun _ _ _ h=>h) ?hy hS ?_;(case hy=>intro w hSw;have vn := rK (h := h) hSw.2 HV.out; go_simp;try with_reducible rfl);case ht=>go_simp;try with_reducible rfl)
  refine ai ?_;refine af (i:=2) (by kernel_rfl) rfl (fun K hK=>?_);go_simp;refine (Xv _).mono ?_;rintro e v1 ⟨rfl,b1⟩;have zb:=b1.size;have S1:v1.heap[w.heap.size]?=some (.cells (aW h pv sv) 30 (0,0))/\v1.heap[w.heap.size+1]?=some (.cells #[.int .u8 h.dp,.int .u8 h.kd,.int .u8 0,.int .u8 0,.int .u8 1] 5 (0,0)):=⟨(b1.block _ (by omega)).trans hS.1,(b1.block _ (by omega)).trans hS.2⟩
  refine hK _ _ (fun _=>S1) ?_;clear hK K;refine af (i:=5) (by kernel_rfl) rfl (fun K hK=>?_);go_simp;refine (Xw _).mono ?_;rintro e v2 ⟨rfl,b2⟩;have S2:v2.heap[w.heap.size]?=some (.cells (aW h pv sv) 30 (0,0))/\v2.heap[w.heap.size+1]?=some (.cells #[.int .u8 h.dp,.int .u8 h.kd,.int .u8 0,.int .u8 0,.int .u8 1] 5 (0,0)):=⟨(b2.block _ (by omega)).trans S1.1,(b2.block _ (by omega)).trans S1.2⟩
  have HB:Hid (Below w.heap.size w v2):=(kS.trans (b1.mono (by omega))).trans (b2.mono (by omega));refine hK _ _ (fun _=>S2) ?_;clear hK K b1 b2 kS;refine ap [6,9,10] ?_
  iterate 3 (refine ay (v:=?_) (T:=?_) ?ht rfl rfl (by kernel_rfl) (fun _ _ _ h=>h) ?hy S2 ?_;(case hy=>intro w hSw;(try dsimp only at hSw); go_simp;try with_reducible rfl);case ht=>go_simp;try with_reducible rfl)
  refine ai ?_;refine ak (by kernel_rfl) ?_ _;go_wp2
  go_ret
  exact⟨by rw[HE.out];rfl,HB.out⟩
 ·rw[hps]at hp x4;rw[if_neg (by decide)]at hp;subst hp
  go_enter Tryz.func65,Tryz.ntmps65
  go_wp2_with fail;have hS:((w.alloc (.cells (aW h pv sv) 30)).alloc (.cells #[.int .u8 h.dp,.int .u8 h.kd,.int .u8 0,.int .u8 0,.int .u8 0] 5)).drew.heap[w.heap.size]?=some (.cells (aW h pv sv) 30 (0,0))/\((w.alloc (.cells (aW h pv sv) 30)).alloc (.cells #[.int .u8 h.dp,.int .u8 h.kd,.int .u8 0,.int .u8 0,.int .u8 0] 5)).drew.heap[w.heap.size+1]?=some (.cells #[.int .u8 h.dp,.int .u8 h.kd,.int .u8 0,.int .u8 0,.int .u8 0] 5 (0,0)):=⟨HQ.out.2.1,HQ.out.2.2⟩
  have kS:Below w.heap.size w ((w.alloc (.cells (aW h pv sv) 30)).alloc (.cells #[.int .u8 h.dp,.int .u8 h.kd,.int .u8 0,.int .u8 0,.int .u8 0] 5)).drew:=HQ.out.1.drew;have zS:((w.alloc (.cells (aW h pv sv) 30)).alloc (.cells #[.int .u8 h.dp,.int .u8 h.kd,.int .u8 0,.int .u8 0,.int .u8 0] 5)).drew.heap.size=w.heap.size+2:=z2;refine ax (by kernel_rfl) (fun u=>u.heap[w.heap.size]?=some (.cells (aW h pv sv) 30 (0,0))/\u.heap[w.heap.size+1]?=some (.cells #[.int .u8 h.dp,.int .u8 h.kd,.int .u8 0,.int .u8 0,.int .u8 0] 5 (0,0))) 99 ?_;generalize World.drew _=v0 at *;refine ap [0,1,3,4] ?_
  iterate 4 (refine ay (v:=?_) (T:=?_) ?ht rfl rfl (by kernel_rfl) (fun _ _ _ h=>h) ?hy hS ?_;(case hy=>intro w hSw;(have vn := aJ hSw.1; rw [hW, hH] at vn); go_simp;try with_reducible rfl);case ht=>go_simp;try with_reducible rfl)
  refine ai ?_;refine ap [7,8] ?_
  iterate 2 (refine ay (v:=?_) (T:=?_) ?ht rfl rfl (by kernel_rfl) (fun _ _ _ h=>h) ?hy hS ?_;(case hy=>intro w hSw;have vn := rK (h := h) hSw.2 HV.out; go_simp;try with_reducible rfl);case ht=>go_simp;try with_reducible rfl)
  refine ai ?_;refine af (i:=2) (by kernel_rfl) rfl (fun K hK=>?_);go_simp;refine (Xv _).mono ?_;rintro e v1 ⟨rfl,b1⟩;have zb:=b1.size;have S1:v1.heap[w.heap.size]?=some (.cells (aW h pv sv) 30 (0,0))/\v1.heap[w.heap.size+1]?=some (.cells #[.int .u8 h.dp,.int .u8 h.kd,.int .u8 0,.int .u8 0,.int .u8 0] 5 (0,0)):=⟨(b1.block _ (by omega)).trans hS.1,(b1.block _ (by omega)).trans hS.2⟩
  refine hK _ _ (fun _=>S1) ?_;clear hK K;refine af (i:=5) (by kernel_rfl) rfl (fun K hK=>?_);go_simp;refine (Xw _).mono ?_;rintro e v2 ⟨rfl,b2⟩;have S2:v2.heap[w.heap.size]?=some (.cells (aW h pv sv) 30 (0,0))/\v2.heap[w.heap.size+1]?=some (.cells #[.int .u8 h.dp,.int .u8 h.kd,.int .u8 0,.int .u8 0,.int .u8 0] 5 (0,0)):=⟨(b2.block _ (by omega)).trans S1.1,(b2.block _ (by omega)).trans S1.2⟩
  have HB:Hid (Below w.heap.size w v2):=(kS.trans (b1.mono (by omega))).trans (b2.mono (by omega));refine hK _ _ (fun _=>S2) ?_;clear hK K b1 b2 kS;refine ap [6,9,10] ?_
  iterate 3 (refine ay (v:=?_) (T:=?_) ?ht rfl rfl (by kernel_rfl) (fun _ _ _ h=>h) ?hy S2 ?_;(case hy=>intro w hSw;(try dsimp only at hSw); go_simp;try with_reducible rfl);case ht=>go_simp;try with_reducible rfl)
  refine ai ?_;refine ak (by kernel_rfl) ?_ _;go_wp2
  go_ret
  exact⟨by rw[HE.out];rfl,HB.out⟩
theorem OB {p:List Int}{i:Nat}(hi:i<p.length)(h:Pm.ee p 256=true):(p.take i++List.replicate (p.length-i) 0).set i (IntKind.u8.wrap p[i])=p.take (i+1)++List.replicate (p.length-(i+1)) 0:=by
 unfold Pm.ee at h;rw[List.all_eq_true]at h;have hx:=h _ (List.getElem_mem hi);simp only[Bool.and_eq_true,decide_eq_true_eq]at hx;have e:IntKind.u8.wrap p[i]=p[i]:=by rw[IntKind.wrap_u8];omega
 have hl:(p.take i).length=i:=by rw[List.length_take];omega
 rw[e,List.set_append,if_neg (by omega),hl,Nat.sub_self,show p.length-i=(p.length-(i+1))+1 by omega,List.replicate_succ,List.set_cons_zero,List.take_succ_eq_append_getElem hi,List.append_assoc];rfl
theorem Hw (ao:Option Addr)(cap:Nat)(p:List Int)(w:World)(hi:Ints w ao p)(ha:∀a,ao=some a->p≠[]->a.block<w.heap.size)(hp:Pm.ee p 256=true)(hl:p.length<=1000000): Calls Tryz.prog 66 #[.slice ao p.length cap] w fun e w'=>e=.returned (.string (dA p))/\Below w.heap.size w w':=by
 obtain⟨n,hn⟩:∃n,n=p.length:=⟨_,rfl⟩
 rw[<-hn]at hl ⊢;obtain⟨Z,hZ⟩:∃Z:List Value,Z=List.replicate n (.int .u8 0):=⟨_,rfl⟩
 have hmk:=fun u=>yt n (by omega) Z hZ u;have k0:=ae w (.cells Z.toArray 5)
 have q0:cq (w.alloc (.cells Z.toArray 5)) w.heap.size (p.take 0++List.replicate (n-0) 0):=by
  have e:Z=cK (p.take 0++List.replicate (n-0) 0):=by rw[hZ];simp[cK]
  unfold cq;rw[<-e];exact ah w _
 have HH:Hid (_/\_/\_/\_):=⟨hi,ha,k0,q0⟩
 have HP:Hid (_/\_):=⟨hp,hn⟩
 clear hi ha k0 q0 hZ hp hn
 go_enter Tryz.func66,Tryz.ntmps66
 go_wp2
 go_loopw [11] (fun ix wr=>∃i:Nat,i<=n/\ix=.int .i64 i/\Hid (cq wr w.heap.size (p.take i++List.replicate (n-i) 0))/\Hid (Below w.heap.size w wr)) (fun ix _=>n-(intOf ix).toNat)
 case atStart=>exact⟨0,Nat.zero_le _,rfl,HH.out.2.2.2,HH.out.2.2.1⟩
 case round =>
  obtain⟨i,hin,rfl,HB,HK⟩:=hrel;by_cases hlt:i<n
  ·have hlt':(i:Int)<(n:Int):=by omega
   have hlt2:i<p.length:=by rw[<-HP.out.2];exact hlt
   obtain⟨b,off,rfl,hc⟩:=(HH.out.1.below HK.out HH.out.2.1) i hlt2;have lb:=lt_of_block HB.out;have fz:=HB.out.frozen i;obtain⟨O,hO⟩:∃O,wr.cell? ⟨w.heap.size,i,none⟩=some (.int .u8 O):=⟨_,HB.out.cell i (by rw[List.length_append,List.length_take,List.length_replicate];omega)⟩
   have HN:Hid (cq (wr.setCell ⟨w.heap.size,i,none⟩ (.int .u8 (IntKind.u8.wrap p[i]))) w.heap.size (p.take (i+1)++List.replicate (n-(i+1)) 0)/\Below w.heap.size w (wr.setCell ⟨w.heap.size,i,none⟩ (.int .u8 (IntKind.u8.wrap p[i])))):=by
    refine⟨?_,HK.out.setCell (p:=⟨w.heap.size,i,none⟩) (Nat.le_refl _) _⟩;have:=HB.out.set i (IntKind.u8.wrap p[i]);rw[HP.out.2,OB hlt2 HP.out.1,<-HP.out.2]at this;exact this
   generalize p[i]=V at *;go_wp2
   go_roundw
   case rel=>exact⟨i+1,by omega,by go_num,HN.out.1,HN.out.2⟩
   case measure=>simp[intOf];omega
  ·have hie:i=n:=by omega
   subst hie
   have hall:∀y∈p,0<=y/\y<256:=by
    have h:=HP.out.1;unfold Pm.ee at h;rw[List.all_eq_true]at h;intro y hy;have hx:=h y hy;simp only[Bool.and_eq_true,decide_eq_true_eq]at hx;exact hx
   have hst:(convert 107 9 (.slice (some ⟨w.heap.size,0,none⟩) i i)).run Tryz.prog wr=.ok (.string (dA p)) wr:=by
    have hB:=HB.out;rw[HP.out.2,List.take_length,Nat.sub_self,List.replicate_zero,List.append_nil]at hB;have hv:=pU hall;refine fH (base:=w.heap.size) (n:=i) (l:=p.map fun y=>UInt8.ofNat y.toNat) ⟨by rw[List.length_map,List.length_map,HP.out.2,Nat.mul_one],.inr ⟨w.heap.size,i,(cK p).toArray,rfl,Nat.le_refl _,hB,Nat.le_refl _,by unfold maxLen;omega,by rw[List.size_toArray,List.length_map,HP.out.2,Nat.mul_one],?_⟩⟩ (by rw[List.length_map,HP.out.2]);rw[<-hv,HP.out.2,Nat.mul_one];show (cK p).take p.length=cK p;exact List.take_of_length_le (by rw[List.length_map];exact Nat.le_refl _)
   clear hall;go_wp2
   go_ret
   exact⟨rfl,HK.out⟩
abbrev jF (b:Nat):Value:=.func (.func 105) #[] #[.pointer (some ⟨b,0,none⟩)]
theorem uR (args:Array Value)(w:World):(callFunc 105 args).run Tryz.prog w=.ok (.enter 105 args) w:=by kernel_rfl
theorem LU (B b:Nat)(l:List UInt8)(c:Ch)(v:Value)(w:World)(h:mt w B b l v)(hB:B<=w.heap.size)(hz:l.length+12+c.name.size+c.data.size<=900000000): Calls Tryz.prog 105 #[.agg #[.string c.name,.string c.data],.pointer (some ⟨b,0,none⟩)] w fun e w'=>e=.returned (.tuple #[])/\∃v',mt w' B b (l++oh c) v'/\ky B b w w':=abb B b l c v w h hB hz
theorem Tl (B b bP:Nat)(l:List UInt8)(d:ByteArray)(v:Value)(w:World)(h:mt w B b l v)(hP:bu w bP (jF b) 91)(hB:B<=w.heap.size)(hz:l.length+16+d.size<=900000000): Calls Tryz.prog 68 #[.string d,.pointer (some ⟨bP,0,none⟩)] w fun e w'=>e=.returned (.tuple #[])/\∃v',mt w' B b (l++oh ⟨ba cV,d⟩) v'/\ky B b w w':=by
 have hcall:=uR;have rx:=LU B b l ⟨ba cV,d⟩ v w h hB (by show _+12+4+_<=_;omega);have c0:=hP.cell;dsimp only[ba]at rx;clear h hP
 go_enter Tryz.func68,Tryz.ntmps68
 go_wp2_with fail;refine rx.mono ?_;rintro e w1 ⟨rfl,v',h1,h2⟩;have HF:Hid (_/\_):=⟨h1,h2⟩
 clear h1 h2 rx;go_wp2
 go_end0
 exact⟨rfl,v',HF.out⟩
theorem DC (args:Array Value)(w:World):(callFunc 68 args).run Tryz.prog w=.ok (.enter 68 args) w:=by kernel_rfl
theorem qS (L:List Ch)(c:Ch):dh (L++[c])=dh L++oh c:=by rw[AY];show _++(oh c++[])=_;rw[List.append_nil]
theorem Hx (X:ByteArray)(q s:Nat):X.extract 0 q++X.extract q (q+s)=X.extract 0 (q+s):=by
 refine ba_eq ?_;rw[sF,dq,dq,dq,List.drop_zero,List.drop_zero];have:=List.take_append_drop q (X.data.toList.take (q+s));rw[List.take_take,Nat.min_eq_left (by omega)]at this;exact this
theorem sG (X:ByteArray):X.extract 0 X.size=X:=by
 refine ba_eq ?_;rw[dq,List.drop_zero,List.take_of_length_le (by rw[cH];exact Nat.le_refl _)]
structure Hy (X:ByteArray) (q most:Nat) (ds:List ByteArray):Prop where
 cat:fe ds=X.extract 0 q
 few:∀d∈ds,1<=d.size/\d.size<=most
theorem uS (B b bP:Nat)(l:List UInt8)(X:ByteArray)(most:Nat)(v:Value)(w:World)(h:mt w B b l v)(hP:bu w bP (jF b) 91)(hPb:bP≠b)(hB:B<=w.heap.size)(hm:1<=most/\most<=1048576)(hX:X.size<=10000000)(hl:l.length<=100000000): Calls Tryz.prog 67 #[.string X,.int .i64 (most:Nat),.func (.func 68) #[] #[.pointer (some ⟨bP,0,none⟩)]] w fun e w'=>e=.returned (.tuple #[])/\∃ds v',Hy X X.size most ds/\mt w' B b (l++dh (js ds)) v'/\ky B b w w':=by
 have hcall:=DC;have HH:Hid (_/\_):=⟨h,hP⟩
 have HX:Hid (_/\_):=⟨hX,hl⟩
 clear h hP hX hl
 go_enter Tryz.func67,Tryz.ntmps67
 go_wp2
 go_loopw [0] (fun bv wr=>∃(q:Nat) (r:ByteArray) (ds:List ByteArray) (v':Value),bv=.string r/\r.size+q=X.size/\Hid (r=X.extract q X.size)/\Hid (Hy X q most ds)/\Hid (mt wr B b (l++dh (js ds)) v'/\(dh (js ds)).length<=13*q)/\Hid (ky B b w wr)) (fun bv _=>R9 bv)
 case atStart=>exact⟨0,X,[],v,rfl,rfl,(sG X).symm,⟨by show (⟨#[]⟩:ByteArray)=_;refine ba_eq ?_;rw[dq,List.take_zero];rfl,fun d hd=>absurd hd (List.not_mem_nil)⟩,⟨by show mt _ _ _ (l++[]) _;rw[List.append_nil];exact HH.out.1,Nat.zero_le _⟩,ky.refl _ _ _⟩
 case round =>
  obtain⟨q,r,ds,v',rfl,hq,HR,HP,Xx,Xy⟩:=hrel;by_cases h0:r.size=0
  ·have h0i:¬(r.size:Int)>0:=by omega
   have HF:Hid (Hy X X.size most ds):=by show Hy _ _ _ _;rw[<-hq,h0,Nat.zero_add];exact HP.out
   clear HP;go_wp2
   go_end0
   exact⟨rfl,ds,HF.out,⟨v',Xx.out.1⟩,Xy.out⟩
  ·have h0i:(r.size:Int)>0:=by omega
   obtain⟨s,hs⟩:∃s,s=min most r.size:=⟨_,rfl⟩
   have hsi:min (most:Int) (r.size:Int)=(s:Int):=by omega
   have hs1:(s:Int)<=(r.size:Int):=by omega
   have hs2:1<=s/\s<=most/\s<=r.size:=by omega
   have zz:=Xy.out.size
   have hpc:=Tl B b bP (l++dh (js ds)) (r.extract 0 s) v' wr Xx.out.1 (Xy.out.typ _ _ _ _ HH.out.2 (by decide) hPb) (by omega) (by
    rw[List.length_append,ByteArray.size_extract];have:=Xx.out.2;have:=HX.out
    omega)
   have Sv:(r.extract 0 s).size=s:=by rw[ByteArray.size_extract];omega
   have er:r.extract 0 s=X.extract q (q+s):=by
    rw[HR.out];refine ba_eq ?_;rw[dq,dq,dq,List.drop_zero,List.take_of_length_le (l:=X.data.toList) (by rw[cH];exact Nat.le_refl _),List.drop_take,Nat.add_sub_cancel_left]
   have er2:r.extract s r.size=X.extract (q+s) X.size:=by
    rw[HR.out];refine ba_eq ?_;rw[dq,List.take_of_length_le (by rw[cH];exact Nat.le_refl _),dq,dq,List.take_of_length_le (l:=X.data.toList) (by rw[cH];exact Nat.le_refl _),List.drop_drop]
   have HN:Hid (Hy X (q+s) most (ds++[r.extract 0 s])):=by
    refine⟨?_,fun d hd=>?_⟩
    ·rw[Aq,HP.out.cat,er];exact Hx X q s
    ·rcases List.mem_append.1 hd with hd|hd
     ·exact HP.out.few d hd
     ·rcases List.mem_singleton.1 hd with rfl;omega
   have HL:Hid ((dh (js (ds++[r.extract 0 s]))).length<=13*(q+s)/\l++dh (js ds)++oh ⟨ba cV,r.extract 0 s⟩=l++dh (js (ds++[r.extract 0 s]))):=by
    have e:js (ds++[r.extract 0 s])=js ds++[⟨ba cV,r.extract 0 s⟩]:=List.map_append;rw[e,qS];refine⟨?_,by rw[List.append_assoc]⟩;rw[List.length_append,lU ⟨rfl,rfl,by show (r.extract 0 s).size<=_;omega⟩];show _+(12+(r.extract 0 s).size)<=_;have:=Xx.out.2;omega
   have HER:Hid (r.extract s r.size=X.extract (q+s) X.size/\(r.extract s r.size).size+(q+s)=X.size):=⟨er2,by rw[ByteArray.size_extract];omega⟩
   have hsn:(r.extract s r.size).size<r.size:=by rw[ByteArray.size_extract];omega
   clear er er2 Sv hs;go_wp2_with fail;refine hpc.mono ?_;rintro e w1 ⟨rfl,v2,h1,h2⟩;have HF:Hid (mt w1 B b (l++dh (js (ds++[r.extract 0 s]))) v2/\(dh (js (ds++[r.extract 0 s]))).length<=13*(q+s)):=⟨by rw[<-HL.out.2];exact h1,HL.out.1⟩
   have HG:Hid (ky B b w w1):=Xy.out.trans h2;clear h1 h2 hpc HL Xx Xy;go_wp2
   go_roundw
   case rel=>exact⟨q+s,_,_,v2,rfl,HER.out.2,HER.out.1,HN,HF,HG⟩
   case measure=>exact hsn
structure rZ (w:World) (M bW bS P0 b:Nat) (h:Hd) (pv sv:Value) (X:ByteArray) (lv fl ck:Int):Prop where
 m:w.heap[M]?=some (.cells (aW h pv sv) 30 (0,0))
 x:bu w bW (.string X) 9
 s:w.heap[bS]?=some (.cells #[.int .i64 lv,.int .i64 fl,.int .i64 ck] 32 (0,0))
 p:bu w P0 (jF b) 91
theorem rZ.fr {w w':World}{M bW bS P0 b B:Nat}{h:Hd}{pv sv:Value}{X:ByteArray}{lv fl ck:Int}(e:rZ w M bW bS P0 b h pv sv X lv fl ck)(k:ky B b w w')(hne:M≠b/\bW≠b/\bS≠b/\P0≠b):rZ w' M bW bS P0 b h pv sv X lv fl ck :=
 ⟨k.typ _ _ _ _ e.m (by decide) hne.1,k.typ _ _ _ _ e.x (by decide) hne.2.1,k.typ _ _ _ _ e.s (by decide) hne.2.2.1,k.typ _ _ _ _ e.p (by decide) hne.2.2.2⟩
theorem rZ.below {w w':World}{M bW bS P0 b:Nat}{h:Hd}{pv sv:Value}{X:ByteArray}{lv fl ck:Int}(e:rZ w M bW bS P0 b h pv sv X lv fl ck)(k:Below w.heap.size w w'):rZ w' M bW bS P0 b h pv sv X lv fl ck :=
 ⟨(k.block _ (lt_of_block e.m)).trans e.m,(k.block _ (lt_of_block e.x)).trans e.x,(k.block _ (lt_of_block e.s)).trans e.s,(k.block _ (lt_of_block e.p)).trans e.p⟩
theorem pW {w:World}{T:Nat}{a b c:Value}{t:TypeId}(h:w.heap[T]?=some (.cells #[a,b,c] t (0,0))):w.cell? ⟨T,0,none⟩=some a/\w.cell? ⟨T,1,none⟩=some b/\w.cell? ⟨T,2,none⟩=some c :=
 ⟨cell_of_row _ _ _ _ _ _ h,cell_of_row _ _ _ _ _ _ h,cell_of_row _ _ _ _ _ _ h⟩
theorem qT {w:World}{M bW bS P0 b:Nat}{h:Hd}{pv sv:Value}{X:ByteArray}{lv fl ck:Int}(e:rZ w M bW bS P0 b h pv sv X lv fl ck): (w.cell? ⟨M,0,none⟩=some (.int .i64 h.wd)/\w.cell? ⟨M,1,none⟩=some (.int .i64 h.ht)/\w.cell? ⟨M,2,none⟩=some (.int .i64 h.kd)/\w.cell? ⟨M,3,none⟩=some (.int .i64 h.dp)/\w.cell? ⟨M,4,none⟩=some (.bool h.ps)/\w.cell? ⟨M,5,none⟩=some pv/\w.cell? ⟨M,6,none⟩=some sv) /\ w.cell? ⟨bW,0,none⟩=some (.string X)/\w.cell? ⟨bS,2,none⟩=some (.int .i64 ck)/\w.cell? ⟨P0,0,none⟩=some (jF b):=by
 obtain⟨a0,a1,a2,a3,a4,a5,a6⟩:=aJ e.m;exact⟨⟨a0,a1,a2,a3,a4,a5,a6⟩,e.x.cell,(pW e.s).2.2,e.p.cell⟩
theorem Hz {X:ByteArray}{most:Nat}{ds:List ByteArray}(h:Hy X X.size most ds)(hX:0<X.size):ds≠[]:=fun e=>by
 have:=h.cat;rw[e,sG]at this;have:=congrArg ByteArray.size this;show False;rw[<-this]at hX;exact absurd hX (by show ¬0<0;omega)
theorem yH {X:ByteArray}{most:Nat}{ds:List ByteArray}(h:Hy X X.size most ds):(dh (js ds)).length<=13*X.size:=by
 have key:∀ds:List ByteArray,(∀d∈ds,1<=d.size/\d.size<=most)->(dh (js ds)).length<=13*(fe ds).size:=by
  intro ds
  induction ds with
  | nil=>intro _;exact Nat.zero_le _
  | cons d r ih =>
   intro hd;have h1:=ih (fun x hx=>hd x (List.mem_cons_of_mem _ hx));have h2:=hd d List.mem_cons_self;show (oh ⟨ba cV,d⟩++dh (js r)).length<=13*(d++fe r).size;rw[List.length_append,ByteArray.size_append]
   have h3:(oh ⟨ba cV,d⟩).length=12+d.size:=by
    unfold oh;simp only[List.length_append,cH];show 4+(4+(_+4))=_;omega
   omega
 have:=key ds h.few;rw[h.cat,sG]at this;exact this
theorem LV (h:Hd):(oh ⟨ba jg,cS h⟩).length=25:=by rw[lU ⟨rfl,rfl,by show 13<=_;omega⟩];rfl
theorem Xz (B b M bW bS:Nat)(l:List UInt8)(h:Hd)(aD:List Int)(pa:Option Addr)(pc:Nat)(sv v:Value)(X:ByteArray)(lv fl:Int)(ck:Nat)(w:World)(hb:mt w B b l v)(hm:w.heap[M]?=some (.cells (aW h (.slice pa aD.length pc) sv) 30 (0,0)))(hW:bu w bW (.string X) 9)(hS:w.heap[bS]?=some (.cells #[.int .i64 lv,.int .i64 fl,.int .i64 ck] 32 (0,0)))(hne:M≠b/\bW≠b/\bS≠b)(hB:B<=w.heap.size)(hf:lV h)(hpa:Ints w pa aD)(hpl:∀a,pa=some a->aD≠[]->a.block<B)(hpb:h.kd=3->Pm.ee aD 256=true)(hpn:aD.length<=1000000)(hX:X.size<=10000000)(hck:1<=ck/\ck<=1048576)(hl:l.length<=1000): Calls Tryz.prog 64 #[jF b,.pointer (some ⟨M,0,none⟩),.pointer (some ⟨bW,0,none⟩),.pointer (some ⟨bS,0,none⟩)] w fun e w'=>e=.returned (.tuple #[])/\∃ds v',Hy X X.size ck ds/\mt w' B b (l++dh (eu h aD ds)) v'/\ky B b w w':=by
 have hcall:=uR;have hhb:=fun u=>DA h (.slice pa aD.length pc) sv u hf;have k0:=ae w (.cells #[jF b] 91);have q0:=ah w (.cells #[jF b] 91);have z0:(w.alloc (.cells #[jF b] 91)).heap.size=w.heap.size+1:=by simp
 have lb:=hb.lt;have E0:rZ (w.alloc (.cells #[jF b] 91)) M bW bS w.heap.size b h (.slice pa aD.length pc) sv X lv fl ck:=⟨(k0.block _ (lt_of_block hm)).trans hm,(k0.block _ (lt_of_block hW)).trans hW,(k0.block _ (lt_of_block hS)).trans hS,q0⟩
 have b0:=hb.below k0;have t0:ky B b w (w.alloc (.cells #[jF b] 91)):=ky.aG k0 hB;have XA:M≠b/\bW≠b/\bS≠b/\w.heap.size≠b:=⟨hne.1,hne.2.1,hne.2.2,by omega⟩
 have HI:Hid (_/\_/\_):=⟨hpa,hpl,hpb⟩
 have HT:Hid (_):=t0;have Un:Hid (_):=XA;clear hb hm hW hS k0 q0 t0 hne XA hpa hpl hpb hf
 go_enter Tryz.func64,Tryz.ntmps64
 go_wp2_with fail;have S0:rZ (w.alloc (.cells #[jF b] 91)).drew M bW bS w.heap.size b h (.slice pa aD.length pc) sv X lv fl ck:=⟨E0.m,E0.x,E0.s,E0.p⟩
 have B0:mt (w.alloc (.cells #[jF b] 91)).drew B b l v:=b0.kept (fun _ _=>rfl);have T0:ky B b w (w.alloc (.cells #[jF b] 91)).drew:=⟨HT.out.below.drew,fun j cs t fr hj h5 hjb=>HT.out.typ j cs t fr hj h5 hjb⟩
 have Z0:(w.alloc (.cells #[jF b] 91)).drew.heap.size=w.heap.size+1:=z0;refine ax (by kernel_rfl) (fun u=>rZ u M bW bS w.heap.size b h (.slice pa aD.length pc) sv X lv fl ck) 99 ?_;generalize World.drew _=v0 at *;clear E0 b0 z0 HT;refine ap [0,1] ?_
 iterate 2 (refine ay (v:=?_) (T:=?_) ?ht rfl rfl (by kernel_rfl) (fun _ _ _ h=>h) ?hy S0 ?_;(case hy=>intro w hSw;have vn := qT hSw; go_simp;try with_reducible rfl);case ht=>go_simp;try with_reducible rfl)
 refine ai ?_;refine af (i:=2) (by kernel_rfl) rfl (fun K hK=>?_);go_simp;refine (hhb _).mono ?_;rintro e v1 ⟨rfl,b1⟩;have z1:=b1.size;have S1:=S0.below b1;have B1:=B0.below b1;have T1:=T0.trans (ky.aG (B:=B) (b:=b) b1 (by omega));have rx:=LU B b l ⟨ba jg,cS h⟩ v v1 B1 (by omega) (by show _+12+4+13<=_;omega);refine hK _ _ (fun _=>S1) ?_;clear hK K hhb b1 S0 B0 T0 B1;refine ap [3] ?_
 iterate 1 (refine ay (v:=?_) (T:=?_) ?ht rfl rfl (by kernel_rfl) (fun _ _ _ h=>h) ?hy S1 ?_;(case hy=>intro w hSw;(try dsimp only at hSw); go_simp;try with_reducible rfl);case ht=>go_simp;try with_reducible rfl)
 refine ai ?_;dsimp only[ba]at rx;refine af (i:=4) (by kernel_rfl) rfl (fun K hK=>?_);go_simp;refine rx.mono ?_;rintro e v2 ⟨rfl,YV,B2,t2⟩;have S2:=S1.fr t2 Un.out;have T2:=T1.trans t2;have z2:=t2.size;refine hK _ _ (fun _=>S2) ?_;clear hK K rx S1 T1 t2;refine ak (by kernel_rfl) ?_ _;obtain⟨⟨m0,m1,m2,m3,m4,m5,m6⟩,xw,xs,xp⟩:=qT S2;have lh:=LV h;have HB2:Hid (mt v2 B b (l++oh ⟨ba jg,cS h⟩) YV):=B2;have HS2:Hid (_/\_):=⟨S2,T2⟩
 clear B2 S2 T2;by_cases h3:h.kd=3
 ·have h3b:(h.kd==3)=true:=beq_iff_eq.2 h3;have hpb:=HI.out.2.2 h3;have bw:Below B w v2:=HS2.out.2.below;go_wp2_with fail;have S3:rZ v2.drew M bW bS w.heap.size b h (.slice pa aD.length pc) sv X lv fl ck:=⟨HS2.out.1.m,HS2.out.1.x,HS2.out.1.s,HS2.out.1.p⟩
  have B3:mt v2.drew B b (l++oh ⟨ba jg,cS h⟩) YV:=HB2.out.kept (fun _ _=>rfl);have T3:ky B b w v2.drew:=⟨bw.drew,fun j cs t fr hj h5 hjb=>HS2.out.2.typ j cs t fr hj h5 hjb⟩
  have Z3:v2.drew.heap.size=v2.heap.size:=rfl;have hpp:=Hw pa pc aD v2.drew (HI.out.1.below T3.below HI.out.2.1) (fun a e e2=>by have:=HI.out.2.1 a e e2;omega) hpb hpn;refine ax (by kernel_rfl) (fun u=>rZ u M bW bS w.heap.size b h (.slice pa aD.length pc) sv X lv fl ck) 99 ?_;generalize v2.drew=v2' at *;refine ap [0,1,2] ?_
  iterate 3 (refine ay (v:=?_) (T:=?_) ?ht rfl rfl (by kernel_rfl) (fun _ _ _ h=>h) ?hy S3 ?_;(case hy=>intro w hSw;have vn := qT hSw; go_simp;try with_reducible rfl);case ht=>go_simp;try with_reducible rfl)
  refine ai ?_;refine af (i:=3) (by kernel_rfl) rfl (fun K hK=>?_);go_simp;refine hpp.mono ?_;rintro e v3 ⟨rfl,b3⟩;have z3:=b3.size;have S4:=S3.below b3;have B4:=B3.below b3;have T4:=T3.trans (ky.aG (B:=B) (b:=b) b3 (by omega));have hps:=lY aD;have rx:=LU B b _ ⟨ba dP,dA aD⟩ YV v3 B4 (by omega) (by rw[List.length_append,lh];show _+12+4+(dA aD).size<=_;omega);refine hK _ _ (fun _=>S4) ?_;clear hK K hpp b3 S3 B3 T3 B4;refine ap [4] ?_
  iterate 1 (refine ay (v:=?_) (T:=?_) ?ht rfl rfl (by kernel_rfl) (fun _ _ _ h=>h) ?hy S4 ?_;(case hy=>intro w hSw;(try dsimp only at hSw); go_simp;try with_reducible rfl);case ht=>go_simp;try with_reducible rfl)
  refine ai ?_;dsimp only[ba]at rx;refine af (i:=5) (by kernel_rfl) rfl (fun K hK=>?_);go_simp;refine rx.mono ?_;rintro e v4 ⟨rfl,vb4,B4,t4⟩;have S5:=S4.fr t4 Un.out;have T5:=T4.trans t4;have z4:=t4.size;refine hK _ _ (fun _=>S5) ?_;clear hK K rx S4 T4 t4;refine ak (by kernel_rfl) ?_ _;obtain⟨⟨m0,m1,m2,m3,m4,m5,m6⟩,xw,xs,xp⟩:=qT S5
  have hlen:(l++oh ⟨ba jg,cS h⟩++oh ⟨ba dP,dA aD⟩).length<=2000000:=by
   rw[List.length_append,List.length_append,lh,lU ⟨rfl,rfl,by show (dA aD).size<=_;omega⟩];show _+_+(12+(dA aD).size)<=_;omega
  have Df:=uS B b w.heap.size _ X ck vb4 v4 B4 S5.p Un.out.2.2.2 (by omega) hck hX (by dsimp only[ba]at hlen ⊢;omega);have XB:Hid (_/\_):=⟨S5,T5⟩
  dsimp only[ba]at hlen;clear S5 T5 B4 HS2 HB2;go_wp2_with fail;refine Df.mono ?_;rintro e v5 ⟨rfl,ds,vb5,hpc,B5,t5⟩;have S5:=XB.out.1.fr t5 Un.out;obtain⟨⟨m0,m1,m2,m3,m4,m5,m6⟩,xw,xs,xp⟩:=qT S5;have z5:=t5.size
  have hdl:(dh (js ds)).length<=140000000:=by
   have hX2:=hX;have hle:=yH hpc;omega
  have hpe:=LU B b _ ⟨ba n9,⟨#[]⟩⟩ vb5 v5 B5 (by omega) (by rw[List.length_append];show _+_+12+4+0<=_;omega);have HG:Hid (_/\_):=⟨hpc,XB.out.2.trans t5⟩
  clear S5 t5 hpc B5 Df;dsimp only[ba]at hpe;go_wp2_with fail;refine hpe.mono ?_;rintro e v6 ⟨rfl,XC,B6,t6⟩
  have HF:Hid (mt v6 B b (l++dh (eu h aD ds)) XC/\ky B b w v6):=by
   refine⟨?_,HG.out.2.trans t6⟩;have e:eu h aD ds=⟨ba jg,cS h⟩::⟨ba dP,dA aD⟩::(js ds++Om):=by unfold eu;rw[if_pos h3];rfl
   have e2:dh (eu h aD ds)=oh ⟨ba jg,cS h⟩++(oh ⟨ba dP,dA aD⟩++(dh (js ds)++oh ⟨ba n9,⟨#[]⟩⟩)):=by
    rw[e];show oh _++(oh _++dh (js ds++Om))=_;rw[qS]
   rw[e2];have XD:=B6;simp only[List.append_assoc]at XD;exact XD
  clear B6 t6 hpe;go_wp2
  go_end0
  exact⟨rfl,ds,XC,HG.out.1,HF.out.1,HF.out.2⟩
 ·have h3b:(h.kd==3)=false:=beq_eq_false_iff_ne.2 h3;have hlen:(l++oh ⟨ba jg,cS h⟩).length<=2000000:=by rw[List.length_append,lh];omega
  have Df:=uS B b w.heap.size _ X ck YV v2 HB2.out HS2.out.1.p Un.out.2.2.2 (by omega) hck hX (by omega);have XB:Hid (_/\_):=HS2.out;clear HS2 HB2;go_wp2_with fail;refine Df.mono ?_;rintro e v5 ⟨rfl,ds,vb5,hpc,B5,t5⟩;have S5:=XB.out.1.fr t5 Un.out;obtain⟨⟨m0,m1,m2,m3,m4,m5,m6⟩,xw,xs,xp⟩:=qT S5;have z5:=t5.size
  have hdl:(dh (js ds)).length<=140000000:=by
   have hX2:=hX;have hle:=yH hpc;omega
  have hpe:=LU B b _ ⟨ba n9,⟨#[]⟩⟩ vb5 v5 B5 (by omega) (by rw[List.length_append];show _+_+12+4+0<=_;omega);have HG:Hid (_/\_):=⟨hpc,XB.out.2.trans t5⟩
  clear S5 t5 hpc B5 Df;dsimp only[ba]at hpe;go_wp2_with fail;refine hpe.mono ?_;rintro e v6 ⟨rfl,XC,B6,t6⟩
  have HF:Hid (mt v6 B b (l++dh (eu h aD ds)) XC/\ky B b w v6):=by
   refine⟨?_,HG.out.2.trans t6⟩;have e:eu h aD ds=⟨ba jg,cS h⟩::(js ds++Om):=by unfold eu;rw[if_neg h3];rfl
   have e2:dh (eu h aD ds)=oh ⟨ba jg,cS h⟩++(dh (js ds)++oh ⟨ba n9,⟨#[]⟩⟩):=by
    rw[e];show oh _++dh (js ds++Om)=_;rw[qS]
   rw[e2];have XD:=B6;simp only[List.append_assoc]at XD;exact XD
  clear B6 t6 hpe;go_wp2
  go_end0
  exact⟨rfl,ds,XC,HG.out.1,HF.out.1,HF.out.2⟩
end Go.Proofs.YtmfijackgekioaaGreatDoor
