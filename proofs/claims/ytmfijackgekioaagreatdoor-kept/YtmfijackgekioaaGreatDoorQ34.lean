import Derived.Test.YtmfijackgekioaaGreatDoorQ32
import Derived.Test.YtmfijackgekioaaGreatDoorQ33
set_option maxHeartbeats 4000000
set_option maxRecDepth 100000
namespace Go.Proofs.YtmfijackgekioaaGreatDoor
open Go.RowKit Go.Maps
theorem agx (p q:Int)(w:World)(hp:-1000<=p/\p<=1000)(hq:-1000<=q/\q<=1000): Calls Tryz.prog 151 #[.int .i64 p,.int .i64 q] w fun e w'=>e=.returned (.int .i64 (Pm.mZ p q))/\w'=w:=by
 by_cases h:q<p
 ·have HO:Hid (Pm.mZ p q=p-q):=by show _=_;rw[Pm.mZ,if_pos h]
  go_enter Tryz.func151,Tryz.ntmps151
  go_wp2
  go_ret
  exact⟨aH HO.out.symm,rfl⟩
 ·have HO:Hid (Pm.mZ p q=q-p):=by show _=_;rw[Pm.mZ,if_neg h]
  go_enter Tryz.func151,Tryz.ntmps151
  go_wp2
  go_ret
  exact⟨aH HO.out.symm,rfl⟩
theorem ET (x y:Int)(w:World)(hx:-1000<=x/\x<=1000)(hy:-1000<=y/\y<=1000): Calls Tryz.prog 221 #[.int .i64 x,.int .i64 y] w fun e w'=>e=.returned (.int .i64 (Pm.dQ x y))/\w'=w:=by
 go_enter Tryz.func221,Tryz.ntmps221
 go_wp2
 all_goals go_ret
 all_goals exact⟨aH (by unfold Pm.dQ;omega),rfl⟩
theorem Da (w:World)(a b:Nat):(w.drewN a).drewN b=w.drewN (a+b):=by simp
abbrev cK (l:List Int):List Value:=l.map (Value.int .u8)
def cq (w:World)(g:Nat)(l:List Int):Prop:=w.heap[g]?=some (.cells (cK l).toArray 5 (0,0))
theorem cq.cell {w:World}{g:Nat}{l:List Int}(h:cq w g l)(j:Nat)(hj:j<l.length):w.cell? ⟨g,j,none⟩=some (.int .u8 (Pm.aj l j)):=by
 refine (cell_of_row _ _ _ _ _ _ h).trans ?_;simp[cK,hj,Pm.aj]
theorem cq.frozen {w:World}{g:Nat}{l:List Int}(h:cq w g l)(j:Nat):w.frozen? ⟨g,j,none⟩=false:=frozen_of_row w g j _ _ h
theorem cq.set {w:World}{g:Nat}{l:List Int}(h:cq w g l)(i:Nat)(x:Int):cq (w.setCell ⟨g,i,none⟩ (.int .u8 x)) g (l.set i x):=by
 refine (heap_setCell_same w g i _ _ (.int .u8 x) h).trans ?_;simp[cK,List.map_set]
theorem EU (R A:Nat)(r a:List Int)(i lead n:Nat)(w:World)(hR:cq w R r)(hA:cq w A a)(hr:r.length=n)(ha:a.length=n)(hi:i<n)(hn:n<=1000000)(hl:1<=lead/\lead<=8)(gr:∀j,0<=Pm.aj r j/\Pm.aj r j<256)(ga:∀j,0<=Pm.aj a j/\Pm.aj a j<256): Calls Tryz.prog 193 #[.slice (some ⟨R,0,none⟩) n n,.slice (some ⟨A,0,none⟩) n n,.int .i64 (i:Nat),.int .i64 (lead:Nat)] w fun e w' =>
   e=.returned (.tuple #[.int .i64 (Pm.cJ (Pm.aj r) i lead),.int .i64 (Pm.aj a i),.int .i64 (Pm.cJ (Pm.aj a) i lead)])/\∃m,w'=w.drewN m:=by
 have c3:=hA.cell i (by omega);have g3:=ga i;have x3:IntKind.i64.wrap (Pm.aj a i)=Pm.aj a i:=IntWalk.i64_in _ (by omega);have hin:(i:Int)<(n:Int):=by omega
 by_cases h:lead<=i
 ·have Gw:(i:Int)≥(lead:Int):=by omega
  have e0:((i:Int)-(lead:Int))=((i-lead:Nat):Int):=by omega
  have P1:Hid (Pm.cJ (Pm.aj r) i lead=Pm.aj r (i-lead)):=by show _=_;rw[Pm.cJ,if_pos h]
  have P2:Hid (Pm.cJ (Pm.aj a) i lead=Pm.aj a (i-lead)):=by show _=_;rw[Pm.cJ,if_pos h]
  have c1:=hR.cell (i-lead) (by omega);have c2:=hA.cell (i-lead) (by omega);have g1:=gr (i-lead);have g2:=ga (i-lead);have x1:IntKind.i64.wrap (Pm.aj r (i-lead))=Pm.aj r (i-lead):=IntWalk.i64_in _ (by omega);have x2:IntKind.i64.wrap (Pm.aj a (i-lead))=Pm.aj a (i-lead):=IntWalk.i64_in _ (by omega);have hk:((i-lead:Nat):Int)<(n:Int):=by omega
  generalize Pm.aj r (i-lead)=X at *;generalize Pm.aj a (i-lead)=Y at *;generalize Pm.aj a i=Z at *;obtain⟨k,hkk⟩:∃k,k=i-lead:=⟨_,rfl⟩
  rw[<-hkk]at c1 c2 e0 hk;have HK:Hid (_):=hkk;clear hR hA gr ga hkk
  go_enter Tryz.func193,Tryz.ntmps193
  go_wp2
  go_quiet (fail)
  go_wp2
  go_quiet (fail)
  go_wp2;refine bodyPost_ret (v:=.tuple #[.int .i64 X,.int .i64 Z,.int .i64 Y]) (by simp[results,Tryz.results193,go_sem]) rfl ⟨?_,_,Da _ _ _⟩;rw[P1.out,P2.out]
 ·have Gw:¬(i:Int)≥(lead:Int):=by omega
  have P1:Hid (Pm.cJ (Pm.aj r) i lead=0):=by show _=_;rw[Pm.cJ,if_neg h]
  have P2:Hid (Pm.cJ (Pm.aj a) i lead=0):=by show _=_;rw[Pm.cJ,if_neg h]
  generalize Pm.aj a i=Z at *;clear hR hA gr ga
  go_enter Tryz.func193,Tryz.ntmps193
  go_wp2
  go_quiet (fail)
  go_wp2;refine bodyPost_ret (v:=.tuple #[.int .i64 0,.int .i64 Z,.int .i64 0]) (by simp[results,Tryz.results193,go_sem]) rfl ⟨?_,_,rfl⟩;rw[P1.out,P2.out]
structure oe (F f:Nat):Prop where
 does:∀(a b c:Int) (u:World),(0<=a/\a<256)->(0<=b/\b<256)->(0<=c/\c<256)->Calls Tryz.prog F #[.int .i64 a,.int .i64 b,.int .i64 c] u fun e u'=>e=.returned (.int .i64 (Pm.gB f a b c))/\u'=u
 call:∀args w,(callFunc F args).run Tryz.prog w=.ok (.enter F args) w
theorem Wd:oe 188 0:=by
 refine⟨?_,fun args w=>by kernel_rfl⟩;intro a b c u ha hb hc
 go_enter Tryz.func188,Tryz.ntmps188
 go_wp2
 go_ret
 exact⟨rfl,rfl⟩
theorem Wf:oe 189 1:=by
 refine⟨?_,fun args w=>by kernel_rfl⟩;intro a b c u ha hb hc
 go_enter Tryz.func189,Tryz.ntmps189
 go_wp2
 go_ret
 exact⟨rfl,rfl⟩
theorem Wg:oe 190 2:=by
 refine⟨?_,fun args w=>by kernel_rfl⟩;intro a b c u ha hb hc
 go_enter Tryz.func190,Tryz.ntmps190
 go_wp2
 go_ret
 exact⟨rfl,rfl⟩
theorem Wh:oe 191 3:=by
 refine⟨?_,fun args w=>by kernel_rfl⟩;intro a b c u ha hb hc
 go_enter Tryz.func191,Tryz.ntmps191
 go_wp2
 go_ret
 exact⟨rfl,rfl⟩
theorem Wi:oe 192 4:=by
 refine⟨?_,fun args w=>by kernel_rfl⟩;intro a b c u ha hb hc;have hA:=fun v=>ET b c v (by omega) (by omega);have hB:=fun v=>ET a c v (by omega) (by omega);have hC:=fun v=>ET (a+b) (c+c) v (by omega) (by omega);have HN:Hid (Pm.gB 4 a b c=if Pm.dQ b c<=Pm.dQ a c/\Pm.dQ b c<=Pm.dQ (a+b) (c+c) then a else if Pm.dQ a c<=Pm.dQ (a+b) (c+c) then b else c):=Pm.GF a b c;generalize Pm.gB 4 a b c=R at *;generalize Pm.dQ b c=x at *;generalize Pm.dQ a c=y at *;generalize Pm.dQ (a+b) (c+c)=z at *;by_cases h1:x<=y
 ·by_cases h2:x<=z
  ·rw[if_pos ⟨h1,h2⟩]at HN
   go_enter Tryz.func192,Tryz.ntmps192
   go_wp2_with fail;refine (hA _).mono ?_;rintro e w' ⟨rfl,rfl⟩;go_wp2_with fail;refine (hB _).mono ?_;rintro e w' ⟨rfl,rfl⟩;go_wp2_with fail;refine (hC _).mono ?_;rintro e w' ⟨rfl,rfl⟩;go_wp2
   go_ret
   exact⟨aH HN.out.symm,rfl⟩
  ·rw[if_neg (fun h=>h2 h.2)]at HN;by_cases h3:y<=z
   ·exact absurd (Int.le_trans h1 h3) h2
   ·rw[if_neg h3]at HN
    go_enter Tryz.func192,Tryz.ntmps192
    go_wp2_with fail;refine (hA _).mono ?_;rintro e w' ⟨rfl,rfl⟩;go_wp2_with fail;refine (hB _).mono ?_;rintro e w' ⟨rfl,rfl⟩;go_wp2_with fail;refine (hC _).mono ?_;rintro e w' ⟨rfl,rfl⟩;go_wp2
    go_ret
    exact⟨aH HN.out.symm,rfl⟩
 ·rw[if_neg (fun h=>h1 h.1)]at HN;by_cases h3:y<=z
  all_goals
   first|rw[if_pos h3]at HN|rw[if_neg h3]at HN
   go_enter Tryz.func192,Tryz.ntmps192
   go_wp2_with fail;refine (hA _).mono ?_;rintro e w' ⟨rfl,rfl⟩;go_wp2_with fail;refine (hB _).mono ?_;rintro e w' ⟨rfl,rfl⟩;go_wp2_with fail;refine (hC _).mono ?_;rintro e w' ⟨rfl,rfl⟩;go_wp2
   go_ret
   exact⟨aH HN.out.symm,rfl⟩
def gS:Nat->Nat
 | 0=>188
 | 1=>189
 | 2=>190
 | 3=>191
 | _=>192
theorem oS (f:Nat)(h:f<=4):oe (gS f) f:=by
 match f,h with
 | 0,_=>exact Wd
 | 1,_=>exact Wf
 | 2,_=>exact Wg
 | 3,_=>exact Wh
 | 4,_=>exact Wi
inductive KR (f:Nat) (w:World):Ending->World->Prop
 | no:4<f->KR f w (dies 15) w
 | ok:f<=4->KR f w (.returned (.func (.func (gS f)) #[] #[])) w
theorem uD (f:Nat)(w:World):Calls Tryz.prog 144 #[.int .u8 (f:Nat)] w fun e w'=>KR f w e w':=by
 rcases Nat.lt_or_ge 4 f with h|h
 ·have HH:Hid (4<f):=h;have n0:((f:Int)==0)=false:=by rw[beq_eq_false_iff_ne];omega
  have n1:((f:Int)==1)=false:=by rw[beq_eq_false_iff_ne];omega
  have n2:((f:Int)==2)=false:=by rw[beq_eq_false_iff_ne];omega
  have n3:((f:Int)==3)=false:=by rw[beq_eq_false_iff_ne];omega
  have n4:((f:Int)==4)=false:=by rw[beq_eq_false_iff_ne];omega
  clear h
  go_enter Tryz.func144,Tryz.ntmps144
  go_wp2;exact⟨rfl,.no HH.out⟩
 ·match f,h with
  | 0,h =>
   go_enter Tryz.func144,Tryz.ntmps144
   go_wp2
   go_ret
   exact .ok h
  | 1,h =>
   go_enter Tryz.func144,Tryz.ntmps144
   go_wp2
   go_ret
   exact .ok h
  | 2,h =>
   go_enter Tryz.func144,Tryz.ntmps144
   go_wp2
   go_ret
   exact .ok h
  | 3,h =>
   go_enter Tryz.func144,Tryz.ntmps144
   go_wp2
   go_ret
   exact .ok h
  | 4,h =>
   go_enter Tryz.func144,Tryz.ntmps144
   go_wp2
   go_ret
   exact .ok h
def oT (U:Nat->List Int)(x:Nat->Int)(n i:Nat):List Int:=(List.range n).map fun j=>if j<i then Pm.aj (U i) j else x j
theorem gE (U:Nat->List Int)(x:Nat->Int)(n i:Nat):(oT U x n i).length=n:=by simp[oT]
theorem GQ (U:Nat->List Int)(x:Nat->Int)(n:Nat):oT U x n 0=(List.range n).map x:=by simp[oT]
theorem ki (U:Nat->List Int)(x:Nat->Int)(n i j:Nat)(hj:j<n):Pm.aj (oT U x n i) j=if j<i then Pm.aj (U i) j else x j:=by
 unfold Pm.aj oT;rw[List.getD_eq_getElem?_getD,List.getElem?_map,List.getElem?_range hj];rfl
theorem pQ {a b:List Int}(hl:a.length=b.length)(h:∀j,j<a.length->Pm.aj a j=Pm.aj b j):a=b:=by
 refine List.ext_getElem hl fun j h1 h2=>?_;have:=h j h1;unfold Pm.aj at this;rw[List.getD_eq_getElem?_getD,List.getD_eq_getElem?_getD,List.getElem?_eq_getElem h1,List.getElem?_eq_getElem h2]at this;exact this
theorem j9 (a:List Int)(i j:Nat)(v:Int)(hi:i<a.length):Pm.aj (a.set i v) j=if j=i then v else Pm.aj a j:=by
 unfold Pm.aj;rw[List.getD_eq_getElem?_getD,List.getD_eq_getElem?_getD,List.getElem?_set];by_cases h:i=j
 ·subst h;simp[hi]
 ·rw[if_neg h,if_neg (fun e=>h e.symm)]
theorem AF (a:List Int)(v:Int)(j:Nat):Pm.aj (a++[v]) j=if j=a.length then v else Pm.aj a j:=by
 unfold Pm.aj;rw[List.getD_eq_getElem?_getD,List.getD_eq_getElem?_getD];by_cases h:j<a.length
 ·rw[List.getElem?_append_left h,if_neg (by omega)]
 ·by_cases h2:j=a.length
  ·subst h2;simp
  ·rw[if_neg h2,List.getElem?_eq_none (by simp;omega),List.getElem?_eq_none (by omega)]
def YJ (f lead:Nat)(above x:Nat->Int)(i:Nat):Int:=(x i+Pm.gB f (Pm.cJ (Pm.aj (Pm.m8 f lead above x i)) i lead) (above i) (Pm.cJ above i lead))%256
theorem KS (f lead:Nat)(above x:Nat->Int)(n i:Nat)(hi:i<n):(oT (Pm.m8 f lead above x) x n i).set i (YJ f lead above x i)=oT (Pm.m8 f lead above x) x n (i+1):=by
 have hl:=Pm.pN f lead above x i;refine pQ (by rw[List.length_set,gE,gE]) fun j hj=>?_;rw[List.length_set,gE]at hj;rw[j9 _ _ _ _ (by rw[gE];exact hi),ki _ _ _ _ _ hj,ki _ _ _ _ _ hj,Pm.m8,AF,hl];by_cases h:j=i
 ·rw[if_pos h,if_pos (by omega),if_pos h];rfl
 ·rw[if_neg h,if_neg h];by_cases h2:j<i
  ·rw[if_pos h2,if_pos (by omega)]
  ·rw[if_neg h2,if_neg (by omega)]
theorem KT (f lead:Nat)(above x:Nat->Int)(n:Nat):oT (Pm.m8 f lead above x) x n n=Pm.m8 f lead above x n:=by
 refine pQ (by rw[gE,Pm.pN]) fun j hj=>?_;rw[gE]at hj;rw[ki _ _ _ _ _ hj,if_pos hj]
theorem GR (f lead:Nat)(above x:Nat->Int)(n i:Nat)(hi:i<n)(hl:1<=lead):Pm.cJ (Pm.aj (oT (Pm.m8 f lead above x) x n i)) i lead=Pm.cJ (Pm.aj (Pm.m8 f lead above x i)) i lead:=by
 unfold Pm.cJ;split
 ·rw[ki _ _ _ _ _ (by omega),if_pos (by omega)]
 ·rfl
theorem Db (f lead:Nat)(above x:Nat->Int)(n i:Nat)(hx:∀i,0<=x i/\x i<256)(j:Nat):0<=Pm.aj (oT (Pm.m8 f lead above x) x n i) j/\Pm.aj (oT (Pm.m8 f lead above x) x n i) j<256:=by
 by_cases hj:j<n
 ·rw[ki _ _ _ _ _ hj];split
  ·exact Pm.m9 _ _ _ _ _ _
  ·exact hx _
 ·unfold Pm.aj;rw[List.getD_eq_getElem?_getD,List.getElem?_eq_none (by rw[gE];omega)];exact⟨Int.le_refl _,by show (0:Int)<256;decide⟩
theorem KU (F f lead n R A:Nat)(a:List Int)(x:Nat->Int)(w:World)(hf:oe F f)(hR:cq w R ((List.range n).map x))(hA:cq w A a)(ha:a.length=n)(ga:∀j,0<=Pm.aj a j/\Pm.aj a j<256)(hx:∀i,0<=x i/\x i<256)(hl:1<=lead/\lead<=8)(hRA:A≠R)(hn:n<=1000000): Calls Tryz.prog 175 #[.slice (some ⟨R,0,none⟩) n n,.slice (some ⟨A,0,none⟩) n n,.int .i64 (lead:Nat),.func (.func F) #[] #[]] w fun e w' =>
   e=.returned (.tuple #[])/\cq w' R (Pm.m8 f lead (Pm.aj a) x n)/\Kp (·=R) w w':=by
 have hcall:=hf.call;have HF:Hid (oe F f):=hf;have HA:Hid (cq w A a):=hA;clear hf hA;rw[<-GQ (Pm.m8 f lead (Pm.aj a) x)]at hR
 go_enter Tryz.func175,Tryz.ntmps175
 go_wp2
 go_loopw [11] (fun ix wr=>∃i:Nat,i<=n/\ix=.int .i64 i/\cq wr R (oT (Pm.m8 f lead (Pm.aj a) x) x n i)/\Kp (·=R) w wr) (fun ix _=>n-(intOf ix).toNat)
 case atStart=>exact⟨0,Nat.zero_le _,rfl,hR,Kp.refl _ _⟩
 case round =>
  clear hR;obtain⟨i,hi,rfl,hB,hk⟩:=hrel;by_cases hlt:i<n
  ·have hlt':(i:Int)<(n:Int):=by omega
   have xi:=hx i;have hAr:cq wr A a:=(hk.block A (lt_of_block HA.out) hRA).trans HA.out;have c0:=hB.cell i (by rw[gE];exact hlt);rw[ki _ _ _ _ _ hlt,if_neg (by omega)]at c0;have PP:=GR f lead (Pm.aj a) x n i hlt hl.1;have YK:=fun m=>EU R A _ a i lead n (wr.drew.drewN m) (show cq (wr.drew.drewN m) R _ from hB) (show cq (wr.drew.drewN m) A a from hAr) (gE _ _ _ _) ha hlt hn hl (Db f lead _ x n i hx) ga;rw[PP]at YK;have hu:YJ f lead (Pm.aj a) x i=(x i+Pm.gB f (Pm.cJ (Pm.aj (Pm.m8 f lead (Pm.aj a) x i)) i lead) (Pm.aj a i) (Pm.cJ (Pm.aj a) i lead))%256:=rfl;have p1:=Pm.lq (fun j=>Pm.m9 f lead (Pm.aj a) x i j) i lead;have p2:=ga i;have p3:=Pm.lq ga i lead;have htr:=Pm.ry f p1 p2 p3;have HD:=fun u=>HF.out.does _ _ _ u p1 p2 p3
   have Sn:Hid (∀u:World,cq u R (oT (Pm.m8 f lead (Pm.aj a) x) x n i)->cq (u.setCell ⟨R,i,none⟩ (.int .u8 (YJ f lead (Pm.aj a) x i))) R (oT (Pm.m8 f lead (Pm.aj a) x) x n (i+1))):=fun u h=>by
    rw[<-KS f lead (Pm.aj a) x n i hlt];exact h.set i _
   generalize Pm.cJ (Pm.aj (Pm.m8 f lead (Pm.aj a) x i)) i lead=P1 at *;generalize Pm.aj a i=P2 at *;generalize Pm.cJ (Pm.aj a) i lead=P3 at *;generalize Pm.gB f P1 P2 P3=T at *;generalize YJ f lead (Pm.aj a) x i=V at *;generalize x i=X at *;have w1:IntKind.u8.wrap T=T:=by rw[IntKind.wrap_u8];omega
   have w2:IntKind.u8.wrap (X+T)=V:=by rw[IntKind.wrap_u8,hu]
   have fz:=fun j=>hB.frozen j;have lb:=lt_of_block hB;have Ua:Hid (_):=hB;have HK:Hid (_):=hk;clear hB hk hAr hx ga PP hu;go_wp2;have hS:wr.drew.cell? ⟨R,i,none⟩=some (.int .u8 X):=c0;refine ax (by kernel_rfl) (fun w'=>w'.cell? ⟨R,i,none⟩=some (.int .u8 X)) 17 ?_;refine ap [0,1,2,3,4,5,6,7,8] ?_
   iterate 9 (refine ay (v:=?_) (T:=?_) ?ht rfl rfl (by kernel_rfl) (fun _ _ _ h=>h) ?hy hS ?_;(case hy=>intro w hSw;(try dsimp only at hSw); go_simp;try with_reducible rfl);case ht=>go_simp;try with_reducible rfl)
   refine ai ?_;refine af (i:=9) (by kernel_rfl) rfl (fun K hK=>?_);go_simp;refine (YK 0).mono ?_;rintro e v1 ⟨rfl,m,hv1⟩;have hS2:v1.cell? ⟨R,i,none⟩=some (.int .u8 X):=by rw[hv1];exact c0
   have HQ:Hid (_/\_):=⟨Sn.out v1 (by rw[hv1];exact Ua.out),(show Kp (·=R) w v1 by rw[hv1];exact (HK.out.drew.drewN 0).drewN m).setCell (p:=⟨R,i,none⟩) (.inl rfl) (.int .u8 V)⟩
   have fz2:v1.frozen? ⟨R,i,none⟩=false:=by rw[hv1];exact fz i
   clear hv1;refine hK _ _ (fun _=>hS2) ?_;clear hK K;refine ap [10,11,12] ?_
   iterate 3 (refine ay (v:=?_) (T:=?_) ?ht rfl rfl (by kernel_rfl) (fun _ _ _ h=>h) ?hy hS2 ?_;(case hy=>intro w hSw;(try dsimp only at hSw); go_simp;try with_reducible rfl);case ht=>go_simp;try with_reducible rfl)
   refine ai ?_;refine af (i:=13) (by kernel_rfl) rfl (fun K hK=>?_);go_simp;refine (HD _).mono ?_;rintro e w' ⟨rfl,rfl⟩;refine hK _ _ (fun _=>hS2) ?_;clear hK K;refine ap [14,15,16] ?_
   iterate 3 (refine ay (v:=?_) (T:=?_) ?ht rfl rfl (by kernel_rfl) (fun _ _ _ h=>h) ?hy hS2 ?_;(case hy=>intro w hSw;(try dsimp only at hSw); go_simp;try with_reducible rfl);case ht=>go_simp;try with_reducible rfl)
   refine ai ?_;refine af (i:=17) (by kernel_rfl) rfl (fun K hK=>?_);go_simp;refine hK _ _ (fun h=>absurd rfl h) ?_;clear hK K;refine ak (by kernel_rfl) ?_ _;go_wp2
   go_roundw
   case rel=>exact⟨i+1,by omega,by go_num,HQ.out.1,HQ.out.2⟩
   case measure=>simp[intOf];omega
  ·have hie:i=n:=by omega
   subst hie;rw[KT]at hB;go_wp2
   go_end0
   exact⟨rfl,hB,hk⟩
end Go.Proofs.YtmfijackgekioaaGreatDoor
