import Derived.Test.YtmfijackgekioaaGreatDoorQ39
set_option maxHeartbeats 600000
set_option maxRecDepth 100000
namespace Go.Proofs.YtmfijackgekioaaGreatDoor
open Go.RowKit Go.Maps
theorem pX {w w':World}{m k:Nat}{o:Obj}(h:w.heap[k]?=some o)(e:w'=w.drewN m):w'.heap[k]?=some o:=by rw[e];exact h
theorem wY (ao bo:Option Addr)(c1 c2:Nat)(l:List Int)(w:World)(h1:Ints w ao l)(h2:Ints w bo l)(hl:l.length<=1000000000): Calls Tryz.prog 53 #[.slice ao l.length c1,.slice bo l.length c2] w fun e w'=>e=.returned (.bool true)/\∃m,w'=w.drewN m:=by
 have HI:Hid (_/\_):=⟨h1,h2⟩
 have hne:((l.length:Int) != (l.length:Int))=false:=by simp
 clear h1 h2
 go_enter Tryz.func53,Tryz.ntmps53
 go_wp2
 go_loopw [5] (fun ix wr=>∃k m:Nat,k<=l.length/\ix=.int .i64 k/\wr=w.drewN m) (fun ix _=>l.length-(intOf ix).toNat)
 case atStart=>exact⟨0,0,Nat.zero_le _,rfl,rfl⟩
 case round =>
  obtain⟨k,m,hk,rfl,hwr⟩:=hrel;by_cases hlt:k<l.length
  ·have hlt':(k:Int)<(l.length:Int):=by omega
   obtain⟨b1,o1,e1,g1⟩:=HI.out.1 k hlt;obtain⟨b2,o2,e2,g2⟩:=HI.out.2 k hlt;obtain⟨x,hx⟩:∃x:Int,x=l[k]:=⟨_,rfl⟩
   rw[<-hx]at g1 g2;have g1':wr.cell? ⟨b1,o1+k,none⟩=some (.int .i64 x):=by rw[hwr];exact g1
   have g2':wr.cell? ⟨b2,o2+k,none⟩=some (.int .i64 x):=by rw[hwr];exact g2
   have XP:Hid (_):=hwr;clear hx g1 g2 hwr;subst e1 e2;go_wp2;have hS:wr.drew.cell? ⟨b1,o1+k,none⟩=some (.int .i64 x)/\wr.drew.cell? ⟨b2,o2+k,none⟩=some (.int .i64 x):=⟨g1',g2'⟩
   refine ax (by kernel_rfl) (fun u=>u.cell? ⟨b1,o1+k,none⟩=some (.int .i64 x)/\u.cell? ⟨b2,o2+k,none⟩=some (.int .i64 x)) 99 ?_;refine ap [0,1,2,3,4,5,6,7,8] ?_
   iterate 9 (refine ay (v:=?_) (T:=?_) ?ht rfl rfl (by kernel_rfl) (fun _ _ _ h=>h) ?hy hS ?_;(case hy=>intro w hSw;(try dsimp only at hSw); go_simp;try with_reducible rfl);case ht=>go_simp;try with_reducible rfl)
   refine ai ?_;refine ak (by kernel_rfl) ?_ _;go_wp2
   go_roundw
   case rel=>exact⟨k+1,m+1,by omega,by go_num,by rw[XP.out];simp⟩
   case measure=>simp[intOf];omega
  ·have hnlt:¬(k:Int)<(l.length:Int):=by omega
   have XP:Hid (_):=hwr;clear hwr;go_wp2
   go_ret
   exact⟨rfl,m,XP.out⟩
theorem XQ (wd ht kd dp:Int)(ps:Bool)(pa pb sa sb:Option Addr)(pc pd sc sd:Nat)(pl sl:List Int)(w:World)(hp1:Ints w pa pl)(hp2:Ints w pb pl)(hs1:Ints w sa sl)(hs2:Ints w sb sl)(hb1:∀a,pa=some a->pl≠[]->a.block<w.heap.size)(hb2:∀a,pb=some a->pl≠[]->a.block<w.heap.size)(hb3:∀a,sa=some a->sl≠[]->a.block<w.heap.size)(hb4:∀a,sb=some a->sl≠[]->a.block<w.heap.size)(hl1:pl.length<=1000000000)(hl2:sl.length<=1000000000): Calls Tryz.prog 22 #[img wd ht kd dp ps (.slice pa pl.length pc) (.slice sa sl.length sc),img wd ht kd dp ps (.slice pb pl.length pd) (.slice sb sl.length sd)] w fun e w'=>e=.returned (.bool true)/\Below w.heap.size w w':=by
 obtain⟨k0,q0,q1⟩:=bJ w (.cells #[.int .i64 wd,.int .i64 ht,.int .i64 kd,.int .i64 dp,.bool ps,.slice pa pl.length pc,.slice sa sl.length sc] 30) (.cells #[.int .i64 wd,.int .i64 ht,.int .i64 kd,.int .i64 dp,.bool ps,.slice pb pl.length pd,.slice sb sl.length sd] 30);have hA:=wY pa pb pc pd pl _ (hp1.below k0 hb1) (hp2.below k0 hb2) hl1;have i3:=hs1.below k0 hb3;have i4:=hs2.below k0 hb4;have HQ:Hid (_/\_/\_/\_/\_):=⟨k0,q0,q1,i3,i4⟩
 clear hp1 hp2 hs1 hs2 hb1 hb2 hb3 hb4 k0 q0 q1 i3 i4
 go_enter Tryz.func22,Tryz.ntmps22
 go_wp2_with fail;refine hA.mono ?_;rintro e w1 ⟨rfl,m1,hw1⟩;obtain⟨k0,q0,q1,i3,i4⟩:=HQ.out;have OY:=pX q0 hw1;have q1':=pX q1 hw1;have k1:Below w.heap.size w w1:=by rw[hw1];exact below_drewN k0 m1
 have hB:=wY sa sb sc sd sl w1 (by rw[hw1];exact i3) (by rw[hw1];exact i4) hl2;obtain⟨y0,y1,y2,y3,y4,y5,y6⟩:=aJ OY;obtain⟨z0,z1,z2,z3,z4,z5,z6⟩:=aJ q1';have xx:Hid (_/\_/\_):=⟨k1,OY,q1'⟩
 clear k0 q0 q1 i3 i4 OY q1' k1 hw1 HQ hA;go_wp2_with fail;refine hB.mono ?_;rintro e w2 ⟨rfl,m2,hw2⟩;obtain⟨k1,OY,q1'⟩:=xx.out;have XR:=pX OY hw2;have XS:=pX q1' hw2;have k2:Below w.heap.size w w2:=by rw[hw2];exact below_drewN k1 m2
 clear y0 y1 y2 y3 y4 y5 y6 z0 z1 z2 z3 z4 z5 z6;obtain⟨y0,y1,y2,y3,y4,y5,y6⟩:=aJ XR;obtain⟨z0,z1,z2,z3,z4,z5,z6⟩:=aJ XS;have Gp:Hid (_):=k2;have t1:(wd==wd)=true:=by simp
 clear k1 OY q1' XR XS k2 hw2 xx hB;go_wp2
 go_ret
 exact⟨rfl,Gp.out⟩
end Go.Proofs.YtmfijackgekioaaGreatDoor
