import Derived.Test.YtmfijackgekioabGreatDoorQ01
import Derived.Test.YtmfijackgekioabGreatDoorQ26
import Derived.Deep.RegionHeld3
set_option maxHeartbeats 1000000
set_option maxRecDepth 100000
namespace Go.Proofs.YtmfijackgekioabGreatDoor
open Go.RowKit
theorem fU (n:Int)(w:World): Calls Tryz.prog 41 #[.int .i64 n] w fun e w'=>e=.returned (.bool (Pm.gb n))/\w'=w:=by
 go_enter Tryz.func41,Tryz.ntmps41
 go_wp2
 all_goals go_ret
 all_goals refine⟨aL ?_,rfl⟩
 all_goals (unfold Pm.gb;first|(simp_all;done)|(simp;omega))
theorem Ou (s t e:Int)(w:World)(hs:0<=s/\s<=8)(ht:1<=t/\t<=8)(he:0<=e/\e<=5000)(h:0<=e-s+t-1): Calls Tryz.prog 92 #[.int .i64 s,.int .i64 t,.int .i64 e] w fun x w'=>x=.returned (.int .i64 ((e-s+t-1)/t))/\w'=w:=by
 go_enter Tryz.func92,Tryz.ntmps92
 go_wp2
 all_goals go_ret
 all_goals exact⟨rfl,rfl⟩
theorem b1 {a b:Int}(h:a=b):(a==b)=true:=by simp[h]
theorem b0 {a b:Int}(h:a≠b):(a==b)=false:=by simp[h]
theorem lZ (k d:Int)(w:World): Calls Tryz.prog 40 #[.int .i64 k,.int .i64 d] w fun e w'=>e=.returned (.int .i64 (Pm.chan k d))/\w'=w:=by
 go_enter Tryz.func40,Tryz.ntmps40
 go_wp2
 all_goals go_ret
 all_goals refine⟨aI ?_,rfl⟩
 all_goals (unfold Pm.chan;simp_all)
theorem l5 (ao:Option Addr)(cap:Nat)(zs:List Int)(e:Int)(w:World)(hm:zs.length<=maxLen)(hi:Ints w ao zs): Calls Tryz.prog 67 #[.slice ao zs.length cap,.int .i64 e] w fun x w'=>x=.returned (.bool (Pm.eu zs e))/\w'=w:=by
 unfold maxLen at hm
 go_enter Tryz.func67,Tryz.ntmps67
 go_wp2
 go_loop [9] (fun i=>∃k:Nat,k<=zs.length/\i=.int .i64 k/\Hid (Pm.eu (zs.take k) e=true)) (fun i=>zs.length-(intOf i).toNat)
 case atStart=>exact⟨0,aaq _,rfl,rfl⟩
 case round =>
  obtain⟨k,hk,rfl,HA⟩:=hrel;by_cases hlt:k<zs.length
  ·obtain⟨b,off,rfl,hc⟩:=hi k hlt;obtain⟨x,hx⟩:∃x:Int,x=zs[k]:=⟨_,rfl⟩
   rw[<-hx]at hc;have HX:Hid (x=zs[k]):=hx;clear hx hi;by_cases h1:x<0
   ·go_wp2
    go_ret
    exact⟨aL (Pm.E3 zs k hlt e (by rw[<-HX.out];omega)).symm,rfl⟩
   ·by_cases h2:e<=x
    ·go_wp2
     go_ret
     exact⟨aL (Pm.E3 zs k hlt e (by rw[<-HX.out];omega)).symm,rfl⟩
    ·go_wp2
     go_round
     case rel=>exact⟨k+1,by omega,by go_num,by show _=_;rw[Pm.G4 zs k hlt,HA.out,<-HX.out];simp;omega⟩
     case measure=>simp[intOf];omega
  ·go_wp2
   go_ret
   refine⟨aL ?_,rfl⟩;have h:=HA.out;rw[abf (by omega)]at h;exact h.symm
abbrev img (wd ht kd dp:Int)(ps:Bool)(pv sv:Value):Value:=.agg #[.int .i64 wd,.int .i64 ht,.int .i64 kd,.int .i64 dp,.bool ps,pv,sv]
theorem nE (d:Int)(h:1<=d/\d<=16):wrap64 (2^d.toNat)=Pm.two d:=by
 have:=Pm.gU d h;rw[IntWalk.wrap64_in]
 ·rfl
 ·show _<=Pm.two d/\Pm.two d<=_;omega
theorem Hg {P:Program}{f:FuncId}{args:Array Value}{w:World}{n m:Nat}{v:Value}(h:Calls P f args (w.drewN (n+m)) fun e w'=>e=.returned v/\w'=w.drewN (n+m)):Calls P f args (w.drewN (n+m)) fun e w''=>e=.returned v/\∃m,w''=w.drewN (n+m) :=
 h.mono fun _ _ ⟨he,hm⟩=>⟨he,m,hm⟩
theorem gX (n m:Int)(w:World)(hn:0<=n/\n<=9223372036854775807)(c:Bool)(hc:c=(decide (n%3=0)&&(decide (1<=n/3)&&decide (n/3<=m)))): Calls Tryz.prog 78 #[.int .i64 n,.int .i64 m] w fun x w'=>x=.returned (.bool c)/\w'=w:=by
 have HC:Hid (c=(decide (n%3=0)&&(decide (1<=n/3)&&decide (n/3<=m)))):=hc;clear hc
 go_enter Tryz.func78,Tryz.ntmps78
 go_wp2
 all_goals go_ret
 all_goals refine⟨aL ?_,rfl⟩
 all_goals rw[HC.out]
 all_goals (rw[acA];simp;try omega)
theorem Hh (wd ht kd dp:Int)(ps:Bool)(pa:Option Addr)(pc:Nat)(pz:List Int)(sv:Value)(w:World)(hd:1<=dp/\dp<=16)(hm:pz.length<=maxLen)(hi:Ints w pa pz)(ha:∀a,pa=some a->pz≠[]->a.block<w.heap.size): Calls Tryz.prog 42 #[img wd ht kd dp ps (.slice pa pz.length pc) sv] w fun x w'=>x=.returned (.bool (Pm.pQ kd (Pm.two dp) pz))/\Below w.heap.size w w':=by
 have hm':=hm;unfold maxLen at hm;have hw:=nE dp hd;have hr:=Pm.gU dp hd;by_cases hk:kd=3
 ·subst hk;have hw2:IntKind.i64.wrap (2^dp.toNat)=Pm.two dp:=aao (Pm.two dp) (by omega);have HN:0<=(pz.length:Int)/\(pz.length:Int)<=9223372036854775807:=by omega
  by_cases hc:(decide ((pz.length:Int)%3=0)&&(decide (1<=(pz.length:Int)/3)&&decide ((pz.length:Int)/3<=Pm.two dp)))=true
  ·have HC:Hid (_=true):=hc;have kc:=fun u=>gX (pz.length:Int) (Pm.two dp) u HN true hc.symm;have kd:=fun u=>gX (pz.length:Int) (IntKind.i64.wrap (2^dp.toNat)) u HN true (by rw[hw2];exact hc.symm);clear hc
   go_enter Tryz.func42,Tryz.ntmps42
   go_wp2
   go_quiet (first|(go_at_call 78;first|exact abq (kc _)|exact abq (kd _))|(go_at_call 67;exact abq (l5 pa pc pz 256 _ hm' (hi.below (aaD ((aav _ _).alloc (aah _) _) _) ha))))
   go_wp2
   all_goals go_ret
   all_goals refine⟨aL ?_,aaD ((aav _ _).alloc (aah _) _) _⟩
   have h:=HC.out;simp at h;simp[Pm.pQ,h]
  ·have hc':(decide ((pz.length:Int)%3=0)&&(decide (1<=(pz.length:Int)/3)&&decide ((pz.length:Int)/3<=Pm.two dp)))=false:=by simpa using hc
   have HC:Hid (_=false):=hc';have kc:=fun u=>gX (pz.length:Int) (Pm.two dp) u HN false hc'.symm;have kd:=fun u=>gX (pz.length:Int) (IntKind.i64.wrap (2^dp.toNat)) u HN false (by rw[hw2];exact hc'.symm);clear hc hc'
   go_enter Tryz.func42,Tryz.ntmps42
   go_wp2
   go_quiet ((go_at_call 78;first|exact abq (kc _)|exact abq (kd _)))
   go_wp2
   all_goals go_ret
   all_goals refine⟨aL ?_,aaD ((aav _ _).alloc (aah _) _) _⟩
   have h:=HC.out;simp only[Pm.pQ,if_true];rw[<-Bool.and_assoc]at h;rw[h];rfl
 ·go_enter Tryz.func42,Tryz.ntmps42
  go_wp2
  all_goals go_ret
  all_goals refine⟨aL ?_,(aav _ _).alloc (aah _) _⟩
  all_goals simp only[Pm.pQ,aai hk]
  all_goals (rw[acA];simp)
theorem Hj (wd ht kd dp:Int)(ps:Bool)(pa:Option Addr)(pc pl:Nat)(sa:Option Addr)(sc:Nat)(sz:List Int)(w:World)(hd:1<=dp/\dp<=16)(hwd:1<=wd/\wd<=5000)(hht:1<=ht/\ht<=5000)(hp:pl<=maxLen)(hm:sz.length<=maxLen)(hi:Ints w sa sz)(ha:∀a,sa=some a->sz≠[]->a.block<w.heap.size): Calls Tryz.prog 43 #[img wd ht kd dp ps (.slice pa pl pc) (.slice sa sz.length sc)] w fun x w'=>x=.returned (.bool (Pm.uk wd ht kd (Pm.chan kd dp) (Pm.two dp) pl sz))/\Below w.heap.size w w':=by
 have hm':=hm;unfold maxLen at hm hp;have hw:=nE dp hd;have hr:=Pm.gU dp hd;have h1:=Pm.aaY wd ht hwd hht;have h2:=Pm.Wn (wd*ht) (Pm.chan kd dp) (by omega) (Pm.cS kd dp);have h3:=Pm.cS kd dp
 go_enter Tryz.func43,Tryz.ntmps43
 go_wp2_with fail;by_cases c1:(sz.length:Int)=wd*ht*Pm.chan kd dp
 ·have c1':((sz.length:Int) != wd*ht*Pm.chan kd dp)=false:=by simp[c1]
  have HC:Hid ((sz.length:Int)=wd*ht*Pm.chan kd dp):=c1;clear c1
  go_quiet ((go_at_call 40;exact abq (lZ _ _ _)))
  by_cases hk:kd=3
  ·have hk':(kd==3)=true:=beq_iff_eq.2 hk;have HK:Hid (kd=3):=hk;clear hk;go_wp2_with (go_at_call 67;refine (l5 sa sc sz _ _ hm' ?_).mono ?_;rotate_left;rintro e w' ⟨rfl,rfl⟩)
   ·go_ret
    refine⟨aL ?_,by repeat (first|exact (aav _ _).alloc (aah _) _|refine aaD ?_ _)⟩;have h:=HC.out;have hk:=HK.out;simp[Pm.uk,h,hk]
   ·exact hi.below (by repeat (first|exact (aav _ _).alloc (aah _) _|refine aaD ?_ _)) ha
  ·have hk':(kd==3)=false:=aaP.2 hk;go_wp2_with fail
   go_quiet ((go_at_call 67;exact Hg (l5 sa sc sz _ _ hm' (hi.below (by repeat (first|exact (aav _ _).alloc (aah _) _|refine aaD ?_ _)) ha))))
   go_wp2
   go_ret
   refine⟨aL ?_,by repeat (first|exact (aav _ _).alloc (aah _) _|refine aaD ?_ _)⟩;have h:=HC.out;simp[Pm.uk,h,hk]
 ·have c1':((sz.length:Int) != wd*ht*Pm.chan kd dp)=true:=by simp[c1]
  have HC:Hid (¬(sz.length:Int)=wd*ht*Pm.chan kd dp):=c1;clear c1
  go_quiet ((go_at_call 40;exact abq (lZ _ _ _)))
  go_wp2
  go_ret
  refine⟨aL ?_,aaD ((aav _ _).alloc (aah _) _) _⟩;have h:=HC.out;simp[Pm.uk,h]
theorem aP {w:World}{T:Nat}{a b c d e f g:Value}{t:TypeId}(h:w.heap[T]?=some (.cells #[a,b,c,d,e,f,g] t (0,0))): w.cell? ⟨T,0,none⟩=some a/\w.cell? ⟨T,1,none⟩=some b/\w.cell? ⟨T,2,none⟩=some c/\w.cell? ⟨T,3,none⟩=some d/\w.cell? ⟨T,4,none⟩=some e/\w.cell? ⟨T,5,none⟩=some f/\w.cell? ⟨T,6,none⟩=some g :=
 ⟨aat _ _ _ _ _ _ h,aat _ _ _ _ _ _ h,aat _ _ _ _ _ _ h,aat _ _ _ _ _ _ h,aat _ _ _ _ _ _ h,aat _ _ _ _ _ _ h,aat _ _ _ _ _ _ h⟩
theorem sN {w:World}{T:Nat}{a b c d e f:Value}{t:TypeId}(h:w.heap[T]?=some (.cells #[a,b,c,d,e,f] t (0,0))): w.cell? ⟨T,0,none⟩=some a/\w.cell? ⟨T,1,none⟩=some b/\w.cell? ⟨T,2,none⟩=some c/\w.cell? ⟨T,3,none⟩=some d/\w.cell? ⟨T,4,none⟩=some e/\w.cell? ⟨T,5,none⟩=some f :=
 ⟨aat _ _ _ _ _ _ h,aat _ _ _ _ _ _ h,aat _ _ _ _ _ _ h,aat _ _ _ _ _ _ h,aat _ _ _ _ _ _ h,aat _ _ _ _ _ _ h⟩
theorem Fe (wd ht kd dp:Int)(ps:Bool)(pv sv:Value)(w:World)(hch:Pm.chan kd dp≠0): Calls Tryz.prog 93 #[img wd ht kd dp ps pv sv] w fun e w'=>e=.returned (.int .i64 (Pm.chan kd dp*dp))/\Below w.heap.size w w':=by
 have hb:=Pm.jo kd dp hch;have h1:=Pm.cS kd dp;have h2:=Pm.cF kd dp hch;have hwr:IntKind.i64.wrap (Pm.chan kd dp*dp)=Pm.chan kd dp*dp:=aao _ (by omega)
 go_enter Tryz.func93,Tryz.ntmps93
 go_wp2
 go_quiet ((go_at_call 40;exact abq (lZ _ _ _)))
 go_wp2
 go_ret
 exact⟨aI (by first|rfl|simp only[hwr]),aaD ((aav _ _).alloc (aah _) _) _⟩
theorem uI (wd ht kd dp:Int)(ps:Bool)(pv sv:Value)(f0 f1 f2 f3 c r:Int)(w:World)(hc:0<=c/\c<=5000)(hch:Pm.chan kd dp≠0): Calls Tryz.prog 60 #[img wd ht kd dp ps pv sv,.agg #[.int .i64 f0,.int .i64 f1,.int .i64 f2,.int .i64 f3,.int .i64 c,.int .i64 r]] w fun e w'=>e=.returned (.int .i64 ((c*(Pm.chan kd dp*dp)+7)/8))/\Below w.heap.size w w':=by
 have hb:=Pm.jo kd dp hch;have h1:=Pm.ur c (Pm.chan kd dp*dp) hc hb;have hpb:=fun u=>Fe wd ht kd dp ps pv sv u hch;have hwr:IntKind.i64.wrap (c*(Pm.chan kd dp*dp))=c*(Pm.chan kd dp*dp):=aao _ (by omega);generalize Pm.chan kd dp*dp=bits at *;generalize hcb:c*bits=cb at *;have k0:Below w.heap.size w ((w.alloc (.cells #[.int .i64 wd,.int .i64 ht,.int .i64 kd,.int .i64 dp,.bool ps,pv,sv] 24)).alloc (.cells #[.int .i64 f0,.int .i64 f1,.int .i64 f2,.int .i64 f3,.int .i64 c,.int .i64 r] 93)).drew:=(((aav _ _).alloc (aah _) _).alloc (by simp) _).drew;have m0:((w.alloc (.cells #[.int .i64 wd,.int .i64 ht,.int .i64 kd,.int .i64 dp,.bool ps,pv,sv] 24)).alloc (.cells #[.int .i64 f0,.int .i64 f1,.int .i64 f2,.int .i64 f3,.int .i64 c,.int .i64 r] 93)).drew.heap[w.heap.size]?=some (.cells #[.int .i64 wd,.int .i64 ht,.int .i64 kd,.int .i64 dp,.bool ps,pv,sv] 24 (0,0)):=ak (ah w _) _
 have m1:((w.alloc (.cells #[.int .i64 wd,.int .i64 ht,.int .i64 kd,.int .i64 dp,.bool ps,pv,sv] 24)).alloc (.cells #[.int .i64 f0,.int .i64 f1,.int .i64 f2,.int .i64 f3,.int .i64 c,.int .i64 r] 93)).drew.heap[w.heap.size+1]?=some (.cells #[.int .i64 f0,.int .i64 f1,.int .i64 f2,.int .i64 f3,.int .i64 c,.int .i64 r] 93 (0,0)):=by
  have:=ah (w.alloc (.cells #[.int .i64 wd,.int .i64 ht,.int .i64 kd,.int .i64 dp,.bool ps,pv,sv] 24)) (.cells #[.int .i64 f0,.int .i64 f1,.int .i64 f2,.int .i64 f3,.int .i64 c,.int .i64 r] 93);rw[aas]at this;exact this
 go_enter Tryz.func60,Tryz.ntmps60
 go_wp2_with fail;generalize hwd:World.drew _=v0 at *
 have hS:v0.cell? ⟨w.heap.size,0,none⟩=some (.int .i64 wd)/\v0.cell? ⟨w.heap.size,1,none⟩=some (.int .i64 ht)/\v0.cell? ⟨w.heap.size,2,none⟩=some (.int .i64 kd)/\v0.cell? ⟨w.heap.size,3,none⟩=some (.int .i64 dp)/\v0.cell? ⟨w.heap.size,4,none⟩=some (.bool ps)/\v0.cell? ⟨w.heap.size,5,none⟩=some (pv)/\v0.cell? ⟨w.heap.size,6,none⟩=some (sv)/\v0.cell? ⟨w.heap.size+1,4,none⟩=some (.int .i64 c):=by
  obtain⟨a0,a1,a2,a3,a4,a5,a6⟩:=aP m0;exact⟨a0,a1,a2,a3,a4,a5,a6,(sN m1).2.2.2.2.1⟩
 refine ax (fun w'=>w'.cell? ⟨w.heap.size,0,none⟩=some (.int .i64 wd)/\w'.cell? ⟨w.heap.size,1,none⟩=some (.int .i64 ht)/\w'.cell? ⟨w.heap.size,2,none⟩=some (.int .i64 kd)/\w'.cell? ⟨w.heap.size,3,none⟩=some (.int .i64 dp)/\w'.cell? ⟨w.heap.size,4,none⟩=some (.bool ps)/\w'.cell? ⟨w.heap.size,5,none⟩=some (pv)/\w'.cell? ⟨w.heap.size,6,none⟩=some (sv)/\w'.cell? ⟨w.heap.size+1,4,none⟩=some (.int .i64 c)) 999 ?_;rw[hwd];refine ap [0,1,2] ?_
 iterate 3 (refine au hS ?_;try simp only[Act.put])
 refine aj ?_;refine ag 3 fun K hK=>?_;go_simp;refine (hpb _).mono ?_;rintro e w1 ⟨rfl,hb1⟩;have n0:=(hb1.block _ (aaa m0)).trans m0;have n1:=(hb1.block _ (aaa m1)).trans m1
 have hS1:w1.cell? ⟨w.heap.size,0,none⟩=some (.int .i64 wd)/\w1.cell? ⟨w.heap.size,1,none⟩=some (.int .i64 ht)/\w1.cell? ⟨w.heap.size,2,none⟩=some (.int .i64 kd)/\w1.cell? ⟨w.heap.size,3,none⟩=some (.int .i64 dp)/\w1.cell? ⟨w.heap.size,4,none⟩=some (.bool ps)/\w1.cell? ⟨w.heap.size,5,none⟩=some (pv)/\w1.cell? ⟨w.heap.size,6,none⟩=some (sv)/\w1.cell? ⟨w.heap.size+1,4,none⟩=some (.int .i64 c):=by
  obtain⟨a0,a1,a2,a3,a4,a5,a6⟩:=aP n0;exact⟨a0,a1,a2,a3,a4,a5,a6,(sN n1).2.2.2.2.1⟩
 refine hK _ _ (fun _=>hS1) ?_;clear hK K;have KB:Below w.heap.size w w1:=k0.trans (hb1.mono k0.size);clear n0 n1 hb1 m0 m1 k0 hS hpb;refine ap [4,5,6] ?_
 iterate 3 (refine au hS1 ?_;try simp only[Act.put])
 refine aj ?_;refine ag 7 fun K hK=>?_;go_simp;refine hK _ _ (fun _=>hS1) ?_;clear hK K;refine am ?_;go_wp2
 go_ret
 exact⟨aI (by rw[aao (cb+7) (by omega),Int.tdiv_eq_ediv_of_nonneg (by omega),aao _ (by omega)]),KB⟩
theorem Wz (wd ht kd dp:Int)(ps:Bool)(pv sv:Value)(f0 f1 f2 f3 c r:Int)(B:Nat)(bits s0:Int)(w:World)(hb:w.heap[B]?=some (.cells #[.int .i64 wd,.int .i64 ht,.int .i64 kd,.int .i64 dp,.bool ps,pv,sv] 24 (0,0)))(hs:w.heap[B+1]?=some (.cells #[.int .i64 s0] 3 (0,0)))(hc:0<=c/\c<=5000)(hr:0<=r/\r<=5000)(hch:Pm.chan kd dp≠0)(hbt:bits=Pm.chan kd dp*dp)(hs0:0<=s0/\s0<=2000000000): Calls Tryz.prog 59 #[.agg #[.int .i64 f0,.int .i64 f1,.int .i64 f2,.int .i64 f3,.int .i64 c,.int .i64 r],.pointer (some ⟨B+1,0,none⟩),.pointer (some ⟨B,0,none⟩)] w fun e w'=>e=.returned (.tuple #[])/\w'.heap[B+1]?=some (.cells #[.int .i64 (s0+Pm.ad c r bits)] 3 (0,0))/\Kp (·=B+1) w w':=by
 have iP:=Pm.jo kd dp hch;rw[<-hbt]at iP;have h1:=Pm.ur c bits hc iP;have h2:=Pm.j6 c r bits hc hr iP;have e:Pm.ad c r bits=r*(1+(c*bits+7)/8):=rfl;have hrb:=fun u=>uI wd ht kd dp ps pv sv f0 f1 f2 f3 c r u hc hch;rw[<-hbt]at hrb;rw[e]at h2 ⊢;clear e hbt;generalize c*bits=cb at *;obtain⟨rb,WD⟩:∃rb,(cb+7)/8=rb:=⟨_,rfl⟩
 rw[WD]at hrb h2 ⊢;have h3:0<=rb/\rb<=50000:=by omega
 clear WD h1 iP;generalize hm:r*(1+rb)=ad at *;have lb:=aaa hb;have ls:=aaa hs;have q0:(w.alloc (.cells #[.int .i64 f0,.int .i64 f1,.int .i64 f2,.int .i64 f3,.int .i64 c,.int .i64 r] 93)).drew.heap[w.heap.size]?=some (.cells #[.int .i64 f0,.int .i64 f1,.int .i64 f2,.int .i64 f3,.int .i64 c,.int .i64 r] 93 (0,0)):=ah w _;have q1:(w.alloc (.cells #[.int .i64 f0,.int .i64 f1,.int .i64 f2,.int .i64 f3,.int .i64 c,.int .i64 r] 93)).drew.heap[B]?=_:=ak hb _;have q2:(w.alloc (.cells #[.int .i64 f0,.int .i64 f1,.int .i64 f2,.int .i64 f3,.int .i64 c,.int .i64 r] 93)).drew.heap[B+1]?=_:=ak hs _;have k0:Below w.heap.size w (w.alloc (.cells #[.int .i64 f0,.int .i64 f1,.int .i64 f2,.int .i64 f3,.int .i64 c,.int .i64 r] 93)).drew:=((aav _ _).alloc (aah _) _).drew
 go_enter Tryz.func59,Tryz.ntmps59
 go_wp2_with fail;generalize hwd:World.drew _=v0 at *
 have hS:v0.cell? ⟨B+1,0,none⟩=some (.int .i64 s0)/\v0.cell? ⟨B,0,none⟩=some (.int .i64 wd)/\v0.cell? ⟨B,1,none⟩=some (.int .i64 ht)/\v0.cell? ⟨B,2,none⟩=some (.int .i64 kd)/\v0.cell? ⟨B,3,none⟩=some (.int .i64 dp)/\v0.cell? ⟨B,4,none⟩=some (.bool ps)/\v0.cell? ⟨B,5,none⟩=some (pv)/\v0.cell? ⟨B,6,none⟩=some (sv)/\v0.cell? ⟨w.heap.size,0,none⟩=some (.int .i64 f0)/\v0.cell? ⟨w.heap.size,1,none⟩=some (.int .i64 f1)/\v0.cell? ⟨w.heap.size,2,none⟩=some (.int .i64 f2)/\v0.cell? ⟨w.heap.size,3,none⟩=some (.int .i64 f3)/\v0.cell? ⟨w.heap.size,4,none⟩=some (.int .i64 c)/\v0.cell? ⟨w.heap.size,5,none⟩=some (.int .i64 r):=by
  obtain⟨a0,a1,a2,a3,a4,a5,a6⟩:=aP q1;obtain⟨d0,d1,d2,d3,d4,d5⟩:=sN q0;exact⟨cell_of_one q2,a0,a1,a2,a3,a4,a5,a6,d0,d1,d2,d3,d4,d5⟩
 refine ax (fun w'=>w'.cell? ⟨B+1,0,none⟩=some (.int .i64 s0)/\w'.cell? ⟨B,0,none⟩=some (.int .i64 wd)/\w'.cell? ⟨B,1,none⟩=some (.int .i64 ht)/\w'.cell? ⟨B,2,none⟩=some (.int .i64 kd)/\w'.cell? ⟨B,3,none⟩=some (.int .i64 dp)/\w'.cell? ⟨B,4,none⟩=some (.bool ps)/\w'.cell? ⟨B,5,none⟩=some (pv)/\w'.cell? ⟨B,6,none⟩=some (sv)/\w'.cell? ⟨w.heap.size,0,none⟩=some (.int .i64 f0)/\w'.cell? ⟨w.heap.size,1,none⟩=some (.int .i64 f1)/\w'.cell? ⟨w.heap.size,2,none⟩=some (.int .i64 f2)/\w'.cell? ⟨w.heap.size,3,none⟩=some (.int .i64 f3)/\w'.cell? ⟨w.heap.size,4,none⟩=some (.int .i64 c)/\w'.cell? ⟨w.heap.size,5,none⟩=some (.int .i64 r)) 9 ?_;rw[hwd];refine ap [0,1,2,3,4] ?_
 iterate 5 (refine au hS ?_;try simp only[Act.put])
 refine aj ?_;refine ag 5 fun K hK=>?_;go_simp;refine (hrb _).mono ?_;rintro e w1 ⟨rfl,hb1⟩;have n0:=(hb1.block _ (aaa q0)).trans q0;have n1:=(hb1.block _ (aaa q1)).trans q1;have n2:=(hb1.block _ (aaa q2)).trans q2
 have hS1:w1.cell? ⟨B+1,0,none⟩=some (.int .i64 s0)/\w1.cell? ⟨B,0,none⟩=some (.int .i64 wd)/\w1.cell? ⟨B,1,none⟩=some (.int .i64 ht)/\w1.cell? ⟨B,2,none⟩=some (.int .i64 kd)/\w1.cell? ⟨B,3,none⟩=some (.int .i64 dp)/\w1.cell? ⟨B,4,none⟩=some (.bool ps)/\w1.cell? ⟨B,5,none⟩=some (pv)/\w1.cell? ⟨B,6,none⟩=some (sv)/\w1.cell? ⟨w.heap.size,0,none⟩=some (.int .i64 f0)/\w1.cell? ⟨w.heap.size,1,none⟩=some (.int .i64 f1)/\w1.cell? ⟨w.heap.size,2,none⟩=some (.int .i64 f2)/\w1.cell? ⟨w.heap.size,3,none⟩=some (.int .i64 f3)/\w1.cell? ⟨w.heap.size,4,none⟩=some (.int .i64 c)/\w1.cell? ⟨w.heap.size,5,none⟩=some (.int .i64 r):=by
  obtain⟨a0,a1,a2,a3,a4,a5,a6⟩:=aP n1;obtain⟨d0,d1,d2,d3,d4,d5⟩:=sN n0;exact⟨cell_of_one n2,a0,a1,a2,a3,a4,a5,a6,d0,d1,d2,d3,d4,d5⟩
 refine hK _ _ (fun _=>hS1) ?_;clear hK K;have KB:Below w.heap.size w w1:=k0.trans (hb1.mono k0.size);have fz:=free_of_one n2;have SI:Hid (w1.heap[B+1]?=some (.cells #[.int .i64 s0] 3 (0,0))):=n2;have hl1:B+1<w1.heap.size:=aaa n2;clear n0 n1 n2 hb1 q0 q1 q2 k0 hS hrb hb hs;refine ap [6,7,8] ?_
 iterate 3 (refine au hS1 ?_;try simp only[Act.put])
 refine aj ?_;refine ag 9 fun K hK=>?_;go_simp;refine hK _ _ (fun h=>absurd rfl h) ?_;clear hK K;refine am ?_;go_wp2
 go_end0
 refine⟨rfl,?_,?_⟩
 ·have:=one_setCell (u:=.int .i64 (s0+ad)) SI.out;rw[aao (1+rb) (by omega),hm,aao ad (by omega),aao (s0+ad) (by omega)];exact this
 ·exact Kp.setCell (S:=fun x=>x=B+1) (p:=⟨B+1,0,none⟩) (Kp.aF KB) (.inl rfl) _
def cX:Array Value:=#[.int .i64 0,.int .i64 0,.int .i64 8,.int .i64 8,.int .i64 0,.int .i64 0,.int .i64 4,.int .i64 0,.int .i64 8,.int .i64 8,.int .i64 0,.int .i64 0,
 .int .i64 0,.int .i64 4,.int .i64 4,.int .i64 8,.int .i64 0,.int .i64 0,.int .i64 2,.int .i64 0,.int .i64 4,.int .i64 4,.int .i64 0,.int .i64 0,
 .int .i64 0,.int .i64 2,.int .i64 2,.int .i64 4,.int .i64 0,.int .i64 0,.int .i64 1,.int .i64 0,.int .i64 2,.int .i64 2,.int .i64 0,.int .i64 0,
 .int .i64 0,.int .i64 1,.int .i64 1,.int .i64 2,.int .i64 0,.int .i64 0]
abbrev yL (a b c d:Int):Value:=.agg #[.int .i64 a,.int .i64 b,.int .i64 c,.int .i64 d,.int .i64 0,.int .i64 0]
theorem Ff (w:World):(Instr.index 142 (.agg cX) (.int .i64 0)).run Tryz.prog w=.ok (yL 0 0 8 8) w:=by kernel_rfl
theorem Fg (w:World):(Instr.index 142 (.agg cX) (.int .i64 1)).run Tryz.prog w=.ok (yL 4 0 8 8) w:=by kernel_rfl
theorem Fh (w:World):(Instr.index 142 (.agg cX) (.int .i64 2)).run Tryz.prog w=.ok (yL 0 4 4 8) w:=by kernel_rfl
theorem Fi (w:World):(Instr.index 142 (.agg cX) (.int .i64 3)).run Tryz.prog w=.ok (yL 2 0 4 4) w:=by kernel_rfl
theorem Fj (w:World):(Instr.index 142 (.agg cX) (.int .i64 4)).run Tryz.prog w=.ok (yL 0 2 2 4) w:=by kernel_rfl
theorem Fk (w:World):(Instr.index 142 (.agg cX) (.int .i64 5)).run Tryz.prog w=.ok (yL 1 0 2 2) w:=by kernel_rfl
theorem Fl (w:World):(Instr.index 142 (.agg cX) (.int .i64 6)).run Tryz.prog w=.ok (yL 0 1 1 2) w:=by kernel_rfl
theorem Hk (wd ht kd dp:Int)(pv sv:Value)(B:Nat)(bits:Int)(w:World)(hb:w.heap[B]?=some (.cells #[.int .i64 wd,.int .i64 ht,.int .i64 kd,.int .i64 dp,.bool false,pv,sv] 24 (0,0)))(hs:w.heap[B+1]?=some (.cells #[.int .i64 0] 3 (0,0)))(hwd:1<=wd/\wd<=5000)(hht:1<=ht/\ht<=5000)(hch:Pm.chan kd dp≠0)(hbt:bits=Pm.chan kd dp*dp): Calls Tryz.prog 58 #[img wd ht kd dp false pv sv,.func (.func 59) #[] #[.pointer (some ⟨B+1,0,none⟩),.pointer (some ⟨B,0,none⟩)]] w fun e w'=>e=.returned (.tuple #[])/\w'.heap[B+1]?=some (.cells #[.int .i64 (Pm.ad wd ht bits)] 3 (0,0))/\Kp (·=B+1) w w':=by
 go_enter Tryz.func58,Tryz.ntmps58
 go_wp2_with (go_at_call 59;refine (Wz wd ht kd dp false pv sv 0 0 1 1 wd ht B bits 0 _ (ak hb _) (ak hs _) (by omega) (by omega) hch hbt (by omega)).mono ?_;rintro e w1 ⟨rfl,h1,h2⟩);exact aaF (results_none rfl _ _ _) rfl ⟨rfl,by simpa using h1,((Kp.refl _ _).alloc _).trans h2⟩
theorem xo {wd ht:Int}(b:Int)(hw:1<=wd/\wd<=5000)(hh:1<=ht/\ht<=5000)(k:Nat)(hk:k<7): ∃c0 r0 cs rs:Int,Pm.Qk wd ht b k c0 r0 cs rs/\∀w:World,(Instr.index 142 (.agg cX) (.int .i64 (k:Int))).run Tryz.prog w=.ok (yL c0 r0 cs rs) w:=by
 match k,hk with
 | 0,_=>exact⟨_,_,_,_,Pm.aaZ b hw hh,Ff⟩
 | 1,_=>exact⟨_,_,_,_,Pm.aa0 b hw hh,Fg⟩
 | 2,_=>exact⟨_,_,_,_,Pm.aa1 b hw hh,Fh⟩
 | 3,_=>exact⟨_,_,_,_,Pm.aa2 b hw hh,Fi⟩
 | 4,_=>exact⟨_,_,_,_,Pm.aa3 b hw hh,Fj⟩
 | 5,_=>exact⟨_,_,_,_,Pm.aa4 b hw hh,Fk⟩
 | 6,_=>exact⟨_,_,_,_,Pm.aa5 b hw hh,Fl⟩
theorem rM {wd ht:Int}(b:Int)(hw:1<=wd/\wd<=5000)(hh:1<=ht/\ht<=5000)(hb:0<=b/\b<=64)(k:Nat)(hk:k<=7): 0<=Pm.iC wd ht b k/\Pm.iC wd ht b k<=200010000*k:=by
 induction k with
 | zero=>simp[Pm.iC]
 | succ k ih =>
  obtain⟨c0,r0,cs,rs,R,_⟩:=xo b hw hh k (by omega);have h1:=Pm.wW wd ht b c0 r0 cs rs R.bc R.br hb;have h2:=ih (by omega);rw[R.next];omega
theorem ja (s t e:Int)(w:World)(hs:0<=s/\s<=8)(ht:1<=t/\t<=8)(he:0<=e/\e<=5000)(h:0<=e-s+t-1): Calls Tryz.prog 92 #[.int .i64 s,.int .i64 t,.int .i64 e] w fun x w'=>x=.returned (.int .i64 (Pm.cnt s t e))/\w'=w:=Ou s t e w hs ht he h
theorem uJ:(Tryz.prog.info? 142).map (·.size)=some cX.size:=by kernel_rfl
theorem DG (wd ht kd dp:Int)(pv sv:Value)(B:Nat)(bits:Int)(w:World)(tt:TypeId)(fr:Nat×Nat)(hT:w.heap[0]?=some (.cells cX tt fr))(hb:w.heap[B]?=some (.cells #[.int .i64 wd,.int .i64 ht,.int .i64 kd,.int .i64 dp,.bool true,pv,sv] 24 (0,0)))(hs:w.heap[B+1]?=some (.cells #[.int .i64 0] 3 (0,0)))(hwd:1<=wd/\wd<=5000)(hht:1<=ht/\ht<=5000)(hch:Pm.chan kd dp≠0)(hbt:bits=Pm.chan kd dp*dp): Calls Tryz.prog 58 #[img wd ht kd dp true pv sv,.func (.func 59) #[] #[.pointer (some ⟨B+1,0,none⟩),.pointer (some ⟨B,0,none⟩)]] w fun e w'=>e=.returned (.tuple #[])/\w'.heap[B+1]?=some (.cells #[.int .i64 (Pm.iC wd ht bits 7)] 3 (0,0))/\Kp (·=B+1) w w':=by
 have HT:Hid (w.heap[0]?=some (.cells cX tt fr)):=hT;clear hT;have iP:0<=bits/\bits<=64:=by rw[hbt];exact Pm.jo kd dp hch
 have lb:=aaa hb;have ls:=aaa hs
 go_enter Tryz.func58,Tryz.ntmps58
 go_wp2_with (refine wpList_load_row rfl 142 _ rfl 0 rfl tt cX fr _ (ak HT.out _) Tryz.underlying142 rfl uJ ?_)
 go_loopw [17] (fun i wr=>∃k:Nat,k<=7/\i=.int .i64 k/\wr.heap[B+1]?=some (.cells #[.int .i64 (Pm.iC wd ht bits k)] 3 (0,0))/\Kp (·=B+1) (w.alloc (.cells #[.int .i64 wd,.int .i64 ht,.int .i64 kd,.int .i64 dp,.bool true,pv,sv] 24)) wr) (fun i _=>7-(intOf i).toNat)
 case atStart=>exact⟨0,aaq _,rfl,ak hs _,Kp.refl _ _⟩
 case round =>
  obtain⟨k,hk,rfl,hsz,hkp⟩:=hrel;by_cases hlt:k<7
  ·obtain⟨c0,r0,cs,rs,R,hidx⟩:=xo bits hwd hht k hlt;have hsr:=rM bits hwd hht iP k hk;have hsz':=hkp.size;rw[aas]at hsz';have hlt2:w.heap.size<wr.heap.size:=by omega
   have hlt3:B<wr.heap.size:=by omega
   have agJ:B+1<wr.heap.size:=by omega
   have m0:wr.cell? ⟨w.heap.size,0,none⟩=some (.int .i64 wd):=(hkp.cell (by simp) (by simp;omega)).trans (by simp);have m1:wr.cell? ⟨w.heap.size,1,none⟩=some (.int .i64 ht):=(hkp.cell (by simp) (by simp;omega)).trans (by simp);have hbr:wr.heap[B]?=some (.cells #[.int .i64 wd,.int .i64 ht,.int .i64 kd,.int .i64 dp,.bool true,pv,sv] 24 (0,0)):=(hkp.block B (by simp;omega) (by omega)).trans (ak hb _);have HN:Hid (Pm.iC wd ht bits (k+1)=Pm.iC wd ht bits k+Pm.one wd ht bits c0 r0 cs rs):=R.next;have p1:=R.pc;have p2:=R.pr;have b1:=R.bc;have b2:=R.br;have ho:=Pm.wW wd ht bits c0 r0 cs rs R.bc R.br iP;go_wp2_with fail;refine (ja c0 cs wd _ R.hc0 R.hcs (by omega) R.pc).mono ?_;rintro e w' ⟨rfl,rfl⟩;go_wp2_with fail;refine (ja r0 rs ht _ R.hr0 R.hrs (by omega) R.pr).mono ?_;rintro e w' ⟨rfl,rfl⟩;clear p1 p2;by_cases d1:0<Pm.cnt c0 cs wd
   ·by_cases d2:0<Pm.cnt r0 rs ht
    ·have HO:Hid (Pm.one wd ht bits c0 r0 cs rs=Pm.ad (Pm.cnt c0 cs wd) (Pm.cnt r0 rs ht) bits):=by show _=_;rw[Pm.one,aaj ⟨d1,d2⟩]
     go_wp2_with fail;refine (Wz wd ht kd dp true pv sv c0 r0 cs rs (Pm.cnt c0 cs wd) (Pm.cnt r0 rs ht) B bits (Pm.iC wd ht bits k) _ (ak hbr _) (ak hsz _) R.bc R.br hch hbt (by omega)).mono ?_;rintro e w1 ⟨rfl,h1,h2⟩
     have R2:w1.heap[B+1]?=some (.cells #[.int .i64 (Pm.iC wd ht bits (k+1))] 3 (0,0))/\Kp (·=B+1) (w.alloc (.cells #[.int .i64 wd,.int .i64 ht,.int .i64 kd,.int .i64 dp,.bool true,pv,sv] 24)) w1 :=
      ⟨by rw[HN.out,HO.out];exact h1,(hkp.alloc _).trans h2⟩
     clear h1 h2 hsz hkp;go_wp2
     go_roundw
     case rel=>exact⟨k+1,by omega,by go_num,R2.1,R2.2⟩
     case measure=>simp[intOf];omega
    ·have HO:Hid (Pm.one wd ht bits c0 r0 cs rs=0):=by show _=_;rw[Pm.one,aai (by omega)]
     go_wp2
     go_roundw
     case rel=>exact⟨k+1,by omega,by go_num,by rw[HN.out,HO.out,Int.add_zero];exact ak hsz _,hkp.alloc _⟩
     case measure=>simp[intOf];omega
   ·have HO:Hid (Pm.one wd ht bits c0 r0 cs rs=0):=by show _=_;rw[Pm.one,aai (by omega)]
    go_wp2
    go_roundw
    case rel=>exact⟨k+1,by omega,by go_num,by rw[HN.out,HO.out,Int.add_zero];exact ak hsz _,hkp.alloc _⟩
    case measure=>simp[intOf];omega
  ·have hk2:k=7:=by omega
   subst hk2;go_wp2
   go_end0
   exact⟨rfl,hsz,((Kp.refl _ _).alloc _).trans hkp⟩
theorem Lr (wd ht kd dp:Int)(ps:Bool)(pv sv:Value)(w:World)(tt:TypeId)(fr:Nat×Nat)(hT:Hid (w.heap[0]?=some (.cells cX tt fr)))(hwd:1<=wd/\wd<=5000)(hht:1<=ht/\ht<=5000)(hch:Pm.chan kd dp≠0): Calls Tryz.prog 33 #[img wd ht kd dp ps pv sv] w fun e w'=>e=.returned (.int .i64 (Pm.raw wd ht (Pm.chan kd dp*dp) ps))/\Below w.heap.size w w':=by
 have m0:=ah w (.cells #[.int .i64 wd,.int .i64 ht,.int .i64 kd,.int .i64 dp,.bool ps,pv,sv] 24);have q0:=ak m0 (.cells #[.int .i64 0] 3);have q1:=ah (w.alloc (.cells #[.int .i64 wd,.int .i64 ht,.int .i64 kd,.int .i64 dp,.bool ps,pv,sv] 24)) (.cells #[.int .i64 0] 3);rw[aas]at q1;have k0:Below w.heap.size w ((w.alloc (.cells #[.int .i64 wd,.int .i64 ht,.int .i64 kd,.int .i64 dp,.bool ps,pv,sv] 24)).alloc (.cells #[.int .i64 0] 3)):=((aav _ _).alloc (aah _) _).alloc (by simp) _;have t0:Hid (((w.alloc (.cells #[.int .i64 wd,.int .i64 ht,.int .i64 kd,.int .i64 dp,.bool ps,pv,sv] 24)).alloc (.cells #[.int .i64 0] 3)).heap[0]?=some (.cells cX tt fr)):=ak (ak hT.out _) _;have HQ:Hid (((w.alloc (.cells #[.int .i64 wd,.int .i64 ht,.int .i64 kd,.int .i64 dp,.bool ps,pv,sv] 24)).alloc (.cells #[.int .i64 0] 3)).heap[w.heap.size]?=some (.cells #[.int .i64 wd,.int .i64 ht,.int .i64 kd,.int .i64 dp,.bool ps,pv,sv] 24 (0,0))/\((w.alloc (.cells #[.int .i64 wd,.int .i64 ht,.int .i64 kd,.int .i64 dp,.bool ps,pv,sv] 24)).alloc (.cells #[.int .i64 0] 3)).heap[w.heap.size+1]?=some (.cells #[.int .i64 0] 3 (0,0))):=⟨q0,q1⟩
 clear m0 q0 q1;cases ps
 ·go_enter Tryz.func33,Tryz.ntmps33
  go_wp2_with fail;refine (Hk wd ht kd dp pv sv w.heap.size (Pm.chan kd dp*dp) _ HQ.out.1 HQ.out.2 hwd hht hch rfl).mono ?_;rintro e w1 ⟨rfl,q1,q2⟩;have q3:=cell_of_one q1;have q4:Below w.heap.size w w1:=k0.trans (q2.below k0.size (fun k _ e=>by omega));clear q1 q2;go_wp2
  go_ret
  exact⟨rfl,q4⟩
 ·go_enter Tryz.func33,Tryz.ntmps33
  go_wp2_with fail;refine (DG wd ht kd dp pv sv w.heap.size (Pm.chan kd dp*dp) _ tt fr t0.out HQ.out.1 HQ.out.2 hwd hht hch rfl).mono ?_;rintro e w1 ⟨rfl,q1,q2⟩;have q3:=cell_of_one q1;have q4:Below w.heap.size w w1:=k0.trans (q2.below k0.size (fun k _ e=>by omega));clear q1 q2;go_wp2
  go_ret
  exact⟨rfl,q4⟩
def Pm.check (wd ht kd dp:Int)(ps:Bool)(pz sz:List Int):Int :=
 if Pm.chan kd dp=0 then 1
 else if ¬(Pm.gb wd=true/\Pm.gb ht=true) then 2
 else if 4194304<Pm.raw wd ht (Pm.chan kd dp*dp) ps then 2
 else if Pm.pQ kd (Pm.two dp) pz=false then 3
 else if Pm.uk wd ht kd (Pm.chan kd dp) (Pm.two dp) pz.length sz=false then 4
 else 0
theorem Ls {W w1:World}(hb:Below W.heap.size W w1):(∀b o,b<W.heap.size->w1.cell? ⟨b,o,none⟩=W.cell? ⟨b,o,none⟩)/\(∀b o,b<W.heap.size->w1.frozen? ⟨b,o,none⟩=W.frozen? ⟨b,o,none⟩) :=
 ⟨fun b o h=>hb.cell (p:=⟨b,o,none⟩) h,fun b o h=>hb.frozen (p:=⟨b,o,none⟩) h⟩
structure Hl (w:World) (pa:Option Addr) (pz:List Int) (sa:Option Addr) (sz:List Int) (tt:TypeId) (fr:Nat×Nat):Prop where
 tab:w.heap[0]?=some (.cells cX tt fr)
 hp:Ints w pa pz
 hpa:∀a,pa=some a->pz≠[]->a.block<w.heap.size
 hpm:pz.length<=maxLen
 hs:Ints w sa sz
 hsa:∀a,sa=some a->sz≠[]->a.block<w.heap.size
 hsm:sz.length<=maxLen
theorem Hl.later {w w':World}{pa:Option Addr}{pz:List Int}{sa:Option Addr}{sz:List Int}{tt:TypeId}{fr:Nat×Nat}(h:Hl w pa pz sa sz tt fr)(hb:Below w.heap.size w w'):Hl w' pa pz sa sz tt fr :=
 ⟨(hb.block _ (aaa h.tab)).trans h.tab,h.hp.below hb h.hpa,fun a e e2=>aaQ (h.hpa a e e2) hb.size,h.hpm,h.hs.below hb h.hsa,fun a e e2=>aaQ (h.hsa a e e2) hb.size,h.hsm⟩
theorem Ov (wd ht kd dp:Int)(ps:Bool)(pa:Option Addr)(pc:Nat)(pz:List Int)(sa:Option Addr)(sc:Nat)(sz:List Int)(w:World)(tt:TypeId)(fr:Nat×Nat)(hl:Hl w pa pz sa sz tt fr): Calls Tryz.prog 27 #[img wd ht kd dp ps (.slice pa pz.length pc) (.slice sa sz.length sc)] w fun e w'=>e=.returned (.int .i64 (Pm.check wd ht kd dp ps pz sz))/\Below w.heap.size w w':=by
 by_cases hch:Pm.chan kd dp=0
 ·have hch':(Pm.chan kd dp==0)=true:=beq_iff_eq.2 hch
  go_enter Tryz.func27,Tryz.ntmps27
  go_wp2_with (go_at_call 40;refine (lZ _ _ _).mono ?_;rintro e w' ⟨rfl,rfl⟩)
  go_ret
  exact⟨aI (by rw[Pm.check,aaj hch]),(aav _ _).alloc (aah _) _⟩
 ·have hch':(Pm.chan kd dp==0)=false:=aaP.2 hch;have hd:=Pm.cF kd dp hch
  go_enter Tryz.func27,Tryz.ntmps27
  go_wp2_with fail;refine (lZ _ _ _).mono ?_;rintro e w' ⟨rfl,rfl⟩;go_wp2_with fail;refine (fU _ _).mono ?_;rintro e w' ⟨rfl,rfl⟩;cases s1:Pm.gb wd
  ·go_wp2_with fail
   go_ret
   exact⟨aI (by rw[Pm.check,aai hch,aaj (by simp[s1])]),(aav _ _).alloc (aah _) _⟩
  ·go_wp2_with fail;refine (fU _ _).mono ?_;rintro e w' ⟨rfl,rfl⟩;cases s2:Pm.gb ht
   ·go_wp2_with fail
    go_ret
    exact⟨aI (by rw[Pm.check,aai hch,aaj (by simp[s2])]),(aav _ _).alloc (aah _) _⟩
   ·have hwd:=(Pm.dE wd).1 s1;have hht:=(Pm.dE ht).1 s2;have HS:Hid (Pm.gb wd=true/\Pm.gb ht=true):=⟨s1,s2⟩
    clear s1 s2;have l1:=hl.later ((aav _ w).alloc (aah _) (.cells #[.int .i64 wd,.int .i64 ht,.int .i64 kd,.int .i64 dp,.bool ps,.slice pa pz.length pc,.slice sa sz.length sc] 24));go_wp2_with fail;refine (Lr wd ht kd dp ps _ _ _ tt fr l1.tab hwd hht hch).mono ?_;rintro e w1 ⟨rfl,hb1⟩;have l2:=l1.later hb1;obtain⟨hc1,hf1⟩:=Ls hb1;by_cases hr:4194304<Pm.raw wd ht (Pm.chan kd dp*dp) ps
    ·go_wp2_with fail
     go_ret
     exact⟨aI (by rw[Pm.check,aai hch,aai (by simp[HS.out]),aaj hr]),((aav _ _).alloc (aah _) _).trans (hb1.mono (by simp))⟩
    ·go_wp2_with fail;refine (Hh wd ht kd dp ps pa pc pz _ _ hd l2.hpm l2.hp l2.hpa).mono ?_;rintro e w2 ⟨rfl,hb2⟩;have l3:=l2.later hb2;have hb2':=hb1.trans (hb2.mono hb1.size);obtain⟨hc2,hf2⟩:=Ls hb2';clear hc1 hf1 hb1 hb2 l1 l2;cases s3:Pm.pQ kd (Pm.two dp) pz
     ·go_wp2_with fail
      go_ret
      exact⟨aI (by rw[Pm.check,aai hch,aai (by simp[HS.out]),aai (Int.not_lt.2 hr),aaj s3]),((aav _ _).alloc (aah _) _).trans (hb2'.mono (by simp))⟩
     ·have H3:Hid (Pm.pQ kd (Pm.two dp) pz=true):=s3;clear s3;go_wp2_with fail;refine (Hj wd ht kd dp ps pa pc pz.length sa sc sz _ hd hwd hht l3.hpm l3.hsm l3.hs l3.hsa).mono ?_;rintro e w3 ⟨rfl,hb3⟩;have WE:=hb2'.trans (hb3.mono hb2'.size);clear hb2' hb3 hc2 hf2 l3;cases s4:Pm.uk wd ht kd (Pm.chan kd dp) (Pm.two dp) pz.length sz
      ·go_wp2_with fail
       go_ret
       exact⟨aI (by rw[Pm.check,aai hch,aai (by simp[HS.out]),aai (Int.not_lt.2 hr),aai (by simp[H3.out]),aaj s4]),((aav _ _).alloc (aah _) _).trans (WE.mono (by simp))⟩
      ·go_wp2_with fail
       go_ret
       exact⟨aI (by rw[Pm.check,aai hch,aai (by simp[HS.out]),aai (Int.not_lt.2 hr),aai (by simp[H3.out]),aai (by simp[s4])]),((aav _ _).alloc (aah _) _).trans (WE.mono (by simp))⟩
end Go.Proofs.YtmfijackgekioabGreatDoor
