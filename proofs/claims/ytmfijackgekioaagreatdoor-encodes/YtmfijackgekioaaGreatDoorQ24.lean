import Derived.Test.YtmfijackgekioaaGreatDoorQ01
import Derived.Test.YtmfijackgekioaaGreatDoorQ23
set_option maxHeartbeats 1000000
set_option maxRecDepth 100000
namespace Go.Proofs.YtmfijackgekioaaGreatDoor
open Go.RowKit
theorem qe (c r:Int)(w:World)(hc:0<=c/\c<=5000)(hr:0<=r/\r<=5000): Calls Tryz.prog 76 #[.int .i64 c,.int .i64 r] w fun e w'=>e=.returned (.int .i64 (Pm.pass c r))/\w'=w:=by
 go_enter Tryz.func76,Tryz.ntmps76
 go_wp2
 all_goals go_ret
 all_goals refine⟨aC ?_,rfl⟩
 all_goals (unfold Pm.pass;simp_all)
theorem I9 (n:Int)(w:World): Calls Tryz.prog 55 #[.int .i64 n] w fun e w'=>e=.returned (.bool (Pm.et n))/\w'=w:=by
 go_enter Tryz.func55,Tryz.ntmps55
 go_wp2
 all_goals go_ret
 all_goals refine⟨aG ?_,rfl⟩
 all_goals (unfold Pm.et;first|(simp_all;done)|(simp;omega))
theorem xK (n:Int)(w:World): Calls Tryz.prog 31 #[.int .i64 n] w fun e w'=>e=.returned (.bool (Pm.et n))/\w'=w:=by
 go_enter Tryz.func31,Tryz.ntmps31
 go_wp2
 all_goals go_ret
 all_goals refine⟨aG ?_,rfl⟩
 all_goals (unfold Pm.et;first|(simp_all;done)|(simp;omega))
theorem Mp (s t e:Int)(w:World)(hs:0<=s/\s<=8)(ht:1<=t/\t<=8)(he:0<=e/\e<=5000)(h:0<=e-s+t-1): Calls Tryz.prog 135 #[.int .i64 s,.int .i64 t,.int .i64 e] w fun x w'=>x=.returned (.int .i64 ((e-s+t-1)/t))/\w'=w:=by
 go_enter Tryz.func135,Tryz.ntmps135
 go_wp2
 all_goals go_ret
 all_goals exact⟨rfl,rfl⟩
theorem b1 {a b:Int}(h:a=b):(a==b)=true:=by simp[h]
theorem b0 {a b:Int}(h:a≠b):(a==b)=false:=by simp[h]
theorem oD (k d:Int)(w:World): Calls Tryz.prog 54 #[.int .i64 k,.int .i64 d] w fun e w'=>e=.returned (.int .i64 (Pm.chan k d))/\w'=w:=by
 go_enter Tryz.func54,Tryz.ntmps54
 go_wp2
 all_goals go_ret
 all_goals refine⟨aC ?_,rfl⟩
 all_goals (unfold Pm.chan;simp_all)
theorem qf (k d:Int)(w:World): Calls Tryz.prog 30 #[.int .i64 k,.int .i64 d] w fun e w'=>e=.returned (.int .i64 (Pm.chan k d))/\w'=w:=by
 go_enter Tryz.func30,Tryz.ntmps30
 go_wp2
 all_goals go_ret
 all_goals refine⟨aC ?_,rfl⟩
 all_goals (unfold Pm.chan;simp_all)
theorem oE (ao:Option Addr)(cap:Nat)(zs:List Int)(e:Int)(w:World)(hm:zs.length<=maxLen)(hi:Ints w ao zs): Calls Tryz.prog 96 #[.slice ao zs.length cap,.int .i64 e] w fun x w'=>x=.returned (.bool (Pm.fQ zs e))/\w'=w:=by
 unfold maxLen at hm
 go_enter Tryz.func96,Tryz.ntmps96
 go_wp2
 go_loop [9] (fun i=>∃k:Nat,k<=zs.length/\i=.int .i64 k/\Hid (Pm.fQ (zs.take k) e=true)) (fun i=>zs.length-(intOf i).toNat)
 case atStart=>exact⟨0,aaj _,rfl,rfl⟩
 case round =>
  obtain⟨k,hk,rfl,HA⟩:=hrel;by_cases hlt:k<zs.length
  ·obtain⟨b,off,rfl,hc⟩:=hi k hlt;obtain⟨x,hx⟩:∃x:Int,x=zs[k]:=⟨_,rfl⟩
   rw[<-hx]at hc;have HX:Hid (x=zs[k]):=hx;clear hx hi;by_cases h1:x<0
   ·go_wp2
    go_ret
    exact⟨aG (Pm.iw zs k hlt e (by rw[<-HX.out];omega)).symm,rfl⟩
   ·by_cases h2:e<=x
    ·go_wp2
     go_ret
     exact⟨aG (Pm.iw zs k hlt e (by rw[<-HX.out];omega)).symm,rfl⟩
    ·go_wp2
     go_round
     case rel=>exact⟨k+1,by omega,by go_num,by show _=_;rw[Pm.nt zs k hlt,HA.out,<-HX.out];simp;omega⟩
     case measure=>simp[intOf];omega
  ·go_wp2
   go_ret
   refine⟨aG ?_,rfl⟩;have h:=HA.out;rw[aav (by omega)]at h;exact h.symm
abbrev img (wd ht kd dp:Int)(ps:Bool)(pv sv:Value):Value:=.agg #[.int .i64 wd,.int .i64 ht,.int .i64 kd,.int .i64 dp,.bool ps,pv,sv]
theorem mE (d:Int)(h:1<=d/\d<=16):wrap64 (2^d.toNat)=Pm.two d:=by
 have:=Pm.gk d h;rw[abM]
 ·rfl
 ·show _<=Pm.two d/\Pm.two d<=_;omega
theorem Ft {P:Program}{f:FuncId}{args:Array Value}{w:World}{n m:Nat}{v:Value}(h:Calls P f args (w.drewN (n+m)) fun e w'=>e=.returned v/\w'=w.drewN (n+m)):Calls P f args (w.drewN (n+m)) fun e w''=>e=.returned v/\∃m,w''=w.drewN (n+m) :=
 h.mono fun _ _ ⟨he,hm⟩=>⟨he,m,hm⟩
theorem nw (n m:Int)(w:World)(hn:0<=n/\n<=9223372036854775807)(c:Bool)(hc:c=(decide (n%3=0)&&(decide (1<=n/3)&&decide (n/3<=m)))): Calls Tryz.prog 95 #[.int .i64 n,.int .i64 m] w fun x w'=>x=.returned (.bool c)/\w'=w:=by
 have HC:Hid (c=(decide (n%3=0)&&(decide (1<=n/3)&&decide (n/3<=m)))):=hc;clear hc
 go_enter Tryz.func95,Tryz.ntmps95
 go_wp2
 all_goals go_ret
 all_goals refine⟨aG ?_,rfl⟩
 all_goals rw[HC.out]
 all_goals (rw[aa3];simp;try omega)
theorem Fu (wd ht kd dp:Int)(ps:Bool)(pa:Option Addr)(pc:Nat)(pz:List Int)(sv:Value)(w:World)(hd:1<=dp/\dp<=16)(hm:pz.length<=maxLen)(hi:Ints w pa pz)(ha:∀a,pa=some a->pz≠[]->a.block<w.heap.size): Calls Tryz.prog 57 #[img wd ht kd dp ps (.slice pa pz.length pc) sv] w fun x w'=>x=.returned (.bool (Pm.iN kd (Pm.two dp) pz))/\Below w.heap.size w w':=by
 have hm':=hm;unfold maxLen at hm;have hw:=mE dp hd;have hr:=Pm.gk dp hd;by_cases hk:kd=3
 ·subst hk;have hw2:IntKind.i64.wrap (2^dp.toNat)=Pm.two dp:=aah (Pm.two dp) (by omega);have HN:0<=(pz.length:Int)/\(pz.length:Int)<=9223372036854775807:=by omega
  by_cases hc:(decide ((pz.length:Int)%3=0)&&(decide (1<=(pz.length:Int)/3)&&decide ((pz.length:Int)/3<=Pm.two dp)))=true
  ·have HC:Hid (_=true):=hc;have kc:=fun u=>nw (pz.length:Int) (Pm.two dp) u HN true hc.symm;have kd:=fun u=>nw (pz.length:Int) (IntKind.i64.wrap (2^dp.toNat)) u HN true (by rw[hw2];exact hc.symm);clear hc
   go_enter Tryz.func57,Tryz.ntmps57
   go_wp2
   go_quiet (first|(go_at_call 95;first|exact abr (kc _)|exact abr (kd _))|(go_at_call 96;exact abr (oE pa pc pz 256 _ hm' (hi.below (aap ((aak _ _).alloc (aad _) _) _) ha))))
   go_wp2
   all_goals go_ret
   all_goals refine⟨aG ?_,aap ((aak _ _).alloc (aad _) _) _⟩
   have h:=HC.out;simp at h;simp[Pm.iN,h]
  ·have hc':(decide ((pz.length:Int)%3=0)&&(decide (1<=(pz.length:Int)/3)&&decide ((pz.length:Int)/3<=Pm.two dp)))=false:=by simpa using hc
   have HC:Hid (_=false):=hc';have kc:=fun u=>nw (pz.length:Int) (Pm.two dp) u HN false hc'.symm;have kd:=fun u=>nw (pz.length:Int) (IntKind.i64.wrap (2^dp.toNat)) u HN false (by rw[hw2];exact hc'.symm);clear hc hc'
   go_enter Tryz.func57,Tryz.ntmps57
   go_wp2
   go_quiet ((go_at_call 95;first|exact abr (kc _)|exact abr (kd _)))
   go_wp2
   all_goals go_ret
   all_goals refine⟨aG ?_,aap ((aak _ _).alloc (aad _) _) _⟩
   have h:=HC.out;simp only[Pm.iN,if_true];rw[<-Bool.and_assoc]at h;rw[h];rfl
 ·go_enter Tryz.func57,Tryz.ntmps57
  go_wp2
  all_goals go_ret
  all_goals refine⟨aG ?_,(aak _ _).alloc (aad _) _⟩
  all_goals simp only[Pm.iN,aae hk]
  all_goals (rw[aa3];simp)
theorem BN (wd ht kd dp:Int)(ps:Bool)(pa:Option Addr)(pc:Nat)(pz:List Int)(sv:Value)(w:World)(hd:1<=dp/\dp<=16)(hm:pz.length<=maxLen)(hi:Ints w pa pz)(ha:∀a,pa=some a->pz≠[]->a.block<w.heap.size): Calls Tryz.prog 33 #[img wd ht kd dp ps (.slice pa pz.length pc) sv] w fun x w'=>x=.returned (.bool (Pm.iN kd (Pm.two dp) pz))/\Below w.heap.size w w':=by
 have hm':=hm;unfold maxLen at hm;have hw:=mE dp hd;have hr:=Pm.gk dp hd;by_cases hk:kd=3
 ·subst hk
  go_enter Tryz.func33,Tryz.ntmps33
  go_wp2;by_cases c1:(pz.length:Int)%3=0
  ·have c1':((pz.length:Int)%3 != 0)=false:=by simp[c1]
   by_cases c2:(pz.length:Int)=0
   ·have c2':((pz.length:Int)==0)=true:=abs.2 c2;have HC:Hid ((pz.length:Int)=0):=c2;clear c1 c2
    go_quiet (fail)
    go_wp2
    all_goals go_ret
    all_goals refine⟨aG ?_,aap ((aak _ _).alloc (aad _) _) _⟩
    have h:=HC.out;simp[Pm.iN,h]
   ·have c2':((pz.length:Int)==0)=false:=aam.2 c2;have HC:Hid ((pz.length:Int)%3=0/\1<=(pz.length:Int)/3):=⟨c1,by omega⟩
    clear c1 c2;by_cases c3:Pm.two dp<(pz.length:Int)/3
    ·go_quiet (fail)
     go_wp2
     all_goals go_ret
     all_goals refine⟨aG ?_,aap ((aak _ _).alloc (aad _) _) _⟩
     have h:¬((pz.length:Int)/3<=Pm.two dp):=by omega
     simp[Pm.iN,h]
    ·go_quiet (fail)
     go_wp2
     go_loop [3] (fun i=>∃k:Nat,k<=pz.length/\i=.int .i64 k/\Hid (Pm.fQ (pz.take k) 256=true)) (fun i=>pz.length-(intOf i).toNat)
     case atStart=>exact⟨0,aaj _,rfl,rfl⟩
     case round =>
      obtain⟨k,hk,rfl,HA⟩:=hrel;by_cases hlt:k<pz.length
      ·obtain⟨b,off,rfl,hc⟩:=hi k hlt;have hbb:b<w.heap.size:=ha ⟨b,off,none⟩ rfl (ne_of_lt hlt);obtain⟨x,hx⟩:∃x:Int,x=pz[k]:=⟨_,rfl⟩
       rw[<-hx]at hc;have HX:Hid (x=pz[k]):=hx;clear hx hi ha;by_cases h1:x<0
       ·go_wp2
        go_ret
        refine⟨aG ?_,aap ((aak _ _).alloc (aad _) _) _⟩;have h:=Pm.iw pz k hlt 256 (by rw[<-HX.out];omega);simp[Pm.iN,h]
       ·by_cases h2:255<x
        ·go_wp2
         go_ret
         refine⟨aG ?_,aap ((aak _ _).alloc (aad _) _) _⟩;have h:=Pm.iw pz k hlt 256 (by rw[<-HX.out];omega);simp[Pm.iN,h]
        ·go_wp2
         go_round
         case rel=>exact⟨k+1,by omega,by go_num,by show _=_;rw[Pm.nt pz k hlt,HA.out,<-HX.out];simp;omega⟩
         case measure=>simp[intOf];omega
      ·go_wp2
       go_ret
       refine⟨aG ?_,aap ((aak _ _).alloc (aad _) _) _⟩;have h:=HA.out;rw[aav (by omega)]at h;have h4:=HC.out;simp[Pm.iN,h,h4];omega
  ·have c1':((pz.length:Int)%3 != 0)=true:=by simp[c1]
   have HC:Hid (¬(pz.length:Int)%3=0):=c1;clear c1
   go_quiet (fail)
   go_wp2
   all_goals go_ret
   all_goals refine⟨aG ?_,aap ((aak _ _).alloc (aad _) _) _⟩
   have h:=HC.out;simp[Pm.iN,h]
 ·go_enter Tryz.func33,Tryz.ntmps33
  go_wp2
  all_goals go_ret
  all_goals refine⟨aG ?_,(aak _ _).alloc (aad _) _⟩
  all_goals simp only[Pm.iN,aae hk]
  all_goals (rw[aa3];simp)
theorem Fv (wd ht kd dp:Int)(ps:Bool)(pa:Option Addr)(pc pl:Nat)(sa:Option Addr)(sc:Nat)(sz:List Int)(w:World)(hd:1<=dp/\dp<=16)(hwd:1<=wd/\wd<=5000)(hht:1<=ht/\ht<=5000)(hp:pl<=maxLen)(hm:sz.length<=maxLen)(hi:Ints w sa sz)(ha:∀a,sa=some a->sz≠[]->a.block<w.heap.size): Calls Tryz.prog 58 #[img wd ht kd dp ps (.slice pa pl pc) (.slice sa sz.length sc)] w fun x w'=>x=.returned (.bool (Pm.mo wd ht kd (Pm.chan kd dp) (Pm.two dp) pl sz))/\Below w.heap.size w w':=by
 have hm':=hm;unfold maxLen at hm hp;have hw:=mE dp hd;have hr:=Pm.gk dp hd;have h1:=Pm.Tt wd ht hwd hht;have h2:=Pm.NV (wd*ht) (Pm.chan kd dp) (by omega) (Pm.cm kd dp);have h3:=Pm.cm kd dp
 go_enter Tryz.func58,Tryz.ntmps58
 go_wp2_with fail;by_cases c1:(sz.length:Int)=wd*ht*Pm.chan kd dp
 ·have c1':((sz.length:Int) != wd*ht*Pm.chan kd dp)=false:=by simp[c1]
  have HC:Hid ((sz.length:Int)=wd*ht*Pm.chan kd dp):=c1;clear c1
  go_quiet ((go_at_call 54;exact abr (oD _ _ _)))
  by_cases hk:kd=3
  ·have hk':(kd==3)=true:=abs.2 hk;have HK:Hid (kd=3):=hk;clear hk;go_wp2_with (go_at_call 96;refine (oE sa sc sz _ _ hm' ?_).mono ?_;rotate_left;rintro e w' ⟨rfl,rfl⟩)
   ·go_ret
    refine⟨aG ?_,by repeat (first|exact (aak _ _).alloc (aad _) _|refine aap ?_ _)⟩;have h:=HC.out;have hk:=HK.out;simp[Pm.mo,h,hk]
   ·exact hi.below (by repeat (first|exact (aak _ _).alloc (aad _) _|refine aap ?_ _)) ha
  ·have hk':(kd==3)=false:=aam.2 hk;go_wp2_with fail
   go_quiet ((go_at_call 96;exact Ft (oE sa sc sz _ _ hm' (hi.below (by repeat (first|exact (aak _ _).alloc (aad _) _|refine aap ?_ _)) ha))))
   go_wp2
   go_ret
   refine⟨aG ?_,by repeat (first|exact (aak _ _).alloc (aad _) _|refine aap ?_ _)⟩;have h:=HC.out;simp[Pm.mo,h,hk]
 ·have c1':((sz.length:Int) != wd*ht*Pm.chan kd dp)=true:=by simp[c1]
  have HC:Hid (¬(sz.length:Int)=wd*ht*Pm.chan kd dp):=c1;clear c1
  go_quiet ((go_at_call 54;exact abr (oD _ _ _)))
  go_wp2
  go_ret
  refine⟨aG ?_,aap ((aak _ _).alloc (aad _) _) _⟩;have h:=HC.out;simp[Pm.mo,h]
theorem aI {w:World}{T:Nat}{a b c d e f g:Value}{t:TypeId}(h:w.heap[T]?=some (.cells #[a,b,c,d,e,f,g] t (0,0))): w.cell? ⟨T,0,none⟩=some a/\w.cell? ⟨T,1,none⟩=some b/\w.cell? ⟨T,2,none⟩=some c/\w.cell? ⟨T,3,none⟩=some d/\w.cell? ⟨T,4,none⟩=some e/\w.cell? ⟨T,5,none⟩=some f/\w.cell? ⟨T,6,none⟩=some g :=
 ⟨aan _ _ _ _ _ _ h,aan _ _ _ _ _ _ h,aan _ _ _ _ _ _ h,aan _ _ _ _ _ _ h,aan _ _ _ _ _ _ h,aan _ _ _ _ _ _ h,aan _ _ _ _ _ _ h⟩
theorem rG {w:World}{T:Nat}{a b c d e f:Value}{t:TypeId}(h:w.heap[T]?=some (.cells #[a,b,c,d,e,f] t (0,0))): w.cell? ⟨T,0,none⟩=some a/\w.cell? ⟨T,1,none⟩=some b/\w.cell? ⟨T,2,none⟩=some c/\w.cell? ⟨T,3,none⟩=some d/\w.cell? ⟨T,4,none⟩=some e/\w.cell? ⟨T,5,none⟩=some f :=
 ⟨aan _ _ _ _ _ _ h,aan _ _ _ _ _ _ h,aan _ _ _ _ _ _ h,aan _ _ _ _ _ _ h,aan _ _ _ _ _ _ h,aan _ _ _ _ _ _ h⟩
theorem DE (wd ht kd dp:Int)(ps:Bool)(pv sv:Value)(w:World)(hch:Pm.chan kd dp≠0): Calls Tryz.prog 136 #[img wd ht kd dp ps pv sv] w fun e w'=>e=.returned (.int .i64 (Pm.chan kd dp*dp))/\Below w.heap.size w w':=by
 have hb:=Pm.mq kd dp hch;have h1:=Pm.cm kd dp;have h2:=Pm.bp kd dp hch;have hwr:IntKind.i64.wrap (Pm.chan kd dp*dp)=Pm.chan kd dp*dp:=aah _ (by omega)
 go_enter Tryz.func136,Tryz.ntmps136
 go_wp2
 go_quiet ((go_at_call 54;exact abr (oD _ _ _)))
 go_wp2
 go_ret
 exact⟨aC (by first|rfl|simp only[hwr]),aap ((aak _ _).alloc (aad _) _) _⟩
theorem zL (wd ht kd dp:Int)(ps:Bool)(pv sv:Value)(f0 f1 f2 f3 c r:Int)(w:World)(hc:0<=c/\c<=5000)(hch:Pm.chan kd dp≠0): Calls Tryz.prog 94 #[img wd ht kd dp ps pv sv,.agg #[.int .i64 f0,.int .i64 f1,.int .i64 f2,.int .i64 f3,.int .i64 c,.int .i64 r]] w fun e w'=>e=.returned (.int .i64 ((c*(Pm.chan kd dp*dp)+7)/8))/\Below w.heap.size w w':=by
 have hb:=Pm.mq kd dp hch;have h1:=Pm.tu c (Pm.chan kd dp*dp) hc hb;have hpb:=fun u=>DE wd ht kd dp ps pv sv u hch;have hwr:IntKind.i64.wrap (c*(Pm.chan kd dp*dp))=c*(Pm.chan kd dp*dp):=aah _ (by omega);generalize Pm.chan kd dp*dp=bits at *;generalize hcb:c*bits=cb at *;have k0:Below w.heap.size w ((w.alloc (.cells #[.int .i64 wd,.int .i64 ht,.int .i64 kd,.int .i64 dp,.bool ps,pv,sv] 30)).alloc (.cells #[.int .i64 f0,.int .i64 f1,.int .i64 f2,.int .i64 f3,.int .i64 c,.int .i64 r] 122)).drew:=(((aak _ _).alloc (aad _) _).alloc (by simp) _).drew;have m0:((w.alloc (.cells #[.int .i64 wd,.int .i64 ht,.int .i64 kd,.int .i64 dp,.bool ps,pv,sv] 30)).alloc (.cells #[.int .i64 f0,.int .i64 f1,.int .i64 f2,.int .i64 f3,.int .i64 c,.int .i64 r] 122)).drew.heap[w.heap.size]?=some (.cells #[.int .i64 wd,.int .i64 ht,.int .i64 kd,.int .i64 dp,.bool ps,pv,sv] 30 (0,0)):=aw (ak w _) _
 have m1:((w.alloc (.cells #[.int .i64 wd,.int .i64 ht,.int .i64 kd,.int .i64 dp,.bool ps,pv,sv] 30)).alloc (.cells #[.int .i64 f0,.int .i64 f1,.int .i64 f2,.int .i64 f3,.int .i64 c,.int .i64 r] 122)).drew.heap[w.heap.size+1]?=some (.cells #[.int .i64 f0,.int .i64 f1,.int .i64 f2,.int .i64 f3,.int .i64 c,.int .i64 r] 122 (0,0)):=by
  have:=ak (w.alloc (.cells #[.int .i64 wd,.int .i64 ht,.int .i64 kd,.int .i64 dp,.bool ps,pv,sv] 30)) (.cells #[.int .i64 f0,.int .i64 f1,.int .i64 f2,.int .i64 f3,.int .i64 c,.int .i64 r] 122);rw[aaC]at this;exact this
 go_enter Tryz.func94,Tryz.ntmps94
 go_wp2_with fail;generalize hwd:World.drew _=v0 at *
 have hS:v0.cell? ⟨w.heap.size,0,none⟩=some (.int .i64 wd)/\v0.cell? ⟨w.heap.size,1,none⟩=some (.int .i64 ht)/\v0.cell? ⟨w.heap.size,2,none⟩=some (.int .i64 kd)/\v0.cell? ⟨w.heap.size,3,none⟩=some (.int .i64 dp)/\v0.cell? ⟨w.heap.size,4,none⟩=some (.bool ps)/\v0.cell? ⟨w.heap.size,5,none⟩=some (pv)/\v0.cell? ⟨w.heap.size,6,none⟩=some (sv)/\v0.cell? ⟨w.heap.size+1,4,none⟩=some (.int .i64 c):=by
  obtain⟨a0,a1,a2,a3,a4,a5,a6⟩:=aI m0;exact⟨a0,a1,a2,a3,a4,a5,a6,(rG m1).2.2.2.2.1⟩
 refine aE (fun w'=>w'.cell? ⟨w.heap.size,0,none⟩=some (.int .i64 wd)/\w'.cell? ⟨w.heap.size,1,none⟩=some (.int .i64 ht)/\w'.cell? ⟨w.heap.size,2,none⟩=some (.int .i64 kd)/\w'.cell? ⟨w.heap.size,3,none⟩=some (.int .i64 dp)/\w'.cell? ⟨w.heap.size,4,none⟩=some (.bool ps)/\w'.cell? ⟨w.heap.size,5,none⟩=some (pv)/\w'.cell? ⟨w.heap.size,6,none⟩=some (sv)/\w'.cell? ⟨w.heap.size+1,4,none⟩=some (.int .i64 c)) 999 ?_;rw[hwd];refine am [0,1,2] ?_
 iterate 3 (refine ay hS ?_;try simp only[Act.put])
 refine aj ?_;refine ai 3 fun K hK=>?_;go_simp;refine (hpb _).mono ?_;rintro e w1 ⟨rfl,hb1⟩;have n0:=(hb1.block _ (aab m0)).trans m0;have n1:=(hb1.block _ (aab m1)).trans m1
 have hS1:w1.cell? ⟨w.heap.size,0,none⟩=some (.int .i64 wd)/\w1.cell? ⟨w.heap.size,1,none⟩=some (.int .i64 ht)/\w1.cell? ⟨w.heap.size,2,none⟩=some (.int .i64 kd)/\w1.cell? ⟨w.heap.size,3,none⟩=some (.int .i64 dp)/\w1.cell? ⟨w.heap.size,4,none⟩=some (.bool ps)/\w1.cell? ⟨w.heap.size,5,none⟩=some (pv)/\w1.cell? ⟨w.heap.size,6,none⟩=some (sv)/\w1.cell? ⟨w.heap.size+1,4,none⟩=some (.int .i64 c):=by
  obtain⟨a0,a1,a2,a3,a4,a5,a6⟩:=aI n0;exact⟨a0,a1,a2,a3,a4,a5,a6,(rG n1).2.2.2.2.1⟩
 refine hK _ _ (fun _=>hS1) ?_;clear hK K;have KB:Below w.heap.size w w1:=k0.trans (hb1.mono k0.size);clear n0 n1 hb1 m0 m1 k0 hS hpb;refine am [4,5,6] ?_
 iterate 3 (refine ay hS1 ?_;try simp only[Act.put])
 refine aj ?_;refine ai 7 fun K hK=>?_;go_simp;refine hK _ _ (fun _=>hS1) ?_;clear hK K;refine ar ?_;go_wp2
 go_ret
 exact⟨aC (by rw[aah (cb+7) (by omega),Int.tdiv_eq_ediv_of_nonneg (by omega),aah _ (by omega)]),KB⟩
theorem Tw (wd ht kd dp:Int)(ps:Bool)(pv sv:Value)(f0 f1 f2 f3 c r:Int)(B:Nat)(bits s0:Int)(w:World)(hb:w.heap[B]?=some (.cells #[.int .i64 wd,.int .i64 ht,.int .i64 kd,.int .i64 dp,.bool ps,pv,sv] 30 (0,0)))(hs:w.heap[B+1]?=some (.cells #[.int .i64 s0] 3 (0,0)))(hc:0<=c/\c<=5000)(hr:0<=r/\r<=5000)(hch:Pm.chan kd dp≠0)(hbt:bits=Pm.chan kd dp*dp)(hs0:0<=s0/\s0<=2000000000): Calls Tryz.prog 93 #[.agg #[.int .i64 f0,.int .i64 f1,.int .i64 f2,.int .i64 f3,.int .i64 c,.int .i64 r],.pointer (some ⟨B+1,0,none⟩),.pointer (some ⟨B,0,none⟩)] w fun e w'=>e=.returned (.tuple #[])/\w'.heap[B+1]?=some (.cells #[.int .i64 (s0+Pm.ad c r bits)] 3 (0,0))/\Kp (·=B+1) w w':=by
 have a9:=Pm.mq kd dp hch;rw[<-hbt]at a9;have h1:=Pm.tu c bits hc a9;have h2:=Pm.lE c r bits hc hr a9;have e:Pm.ad c r bits=r*(1+(c*bits+7)/8):=rfl;have hrb:=fun u=>zL wd ht kd dp ps pv sv f0 f1 f2 f3 c r u hc hch;rw[<-hbt]at hrb;rw[e]at h2 ⊢;clear e hbt;generalize c*bits=cb at *;obtain⟨rb,Tx⟩:∃rb,(cb+7)/8=rb:=⟨_,rfl⟩
 rw[Tx]at hrb h2 ⊢;have h3:0<=rb/\rb<=50000:=by omega
 clear Tx h1 a9;generalize hm:r*(1+rb)=ad at *;have lb:=aab hb;have ls:=aab hs;have q0:(w.alloc (.cells #[.int .i64 f0,.int .i64 f1,.int .i64 f2,.int .i64 f3,.int .i64 c,.int .i64 r] 122)).drew.heap[w.heap.size]?=some (.cells #[.int .i64 f0,.int .i64 f1,.int .i64 f2,.int .i64 f3,.int .i64 c,.int .i64 r] 122 (0,0)):=ak w _;have q1:(w.alloc (.cells #[.int .i64 f0,.int .i64 f1,.int .i64 f2,.int .i64 f3,.int .i64 c,.int .i64 r] 122)).drew.heap[B]?=_:=aw hb _;have q2:(w.alloc (.cells #[.int .i64 f0,.int .i64 f1,.int .i64 f2,.int .i64 f3,.int .i64 c,.int .i64 r] 122)).drew.heap[B+1]?=_:=aw hs _;have k0:Below w.heap.size w (w.alloc (.cells #[.int .i64 f0,.int .i64 f1,.int .i64 f2,.int .i64 f3,.int .i64 c,.int .i64 r] 122)).drew:=((aak _ _).alloc (aad _) _).drew
 go_enter Tryz.func93,Tryz.ntmps93
 go_wp2_with fail;generalize hwd:World.drew _=v0 at *
 have hS:v0.cell? ⟨B+1,0,none⟩=some (.int .i64 s0)/\v0.cell? ⟨B,0,none⟩=some (.int .i64 wd)/\v0.cell? ⟨B,1,none⟩=some (.int .i64 ht)/\v0.cell? ⟨B,2,none⟩=some (.int .i64 kd)/\v0.cell? ⟨B,3,none⟩=some (.int .i64 dp)/\v0.cell? ⟨B,4,none⟩=some (.bool ps)/\v0.cell? ⟨B,5,none⟩=some (pv)/\v0.cell? ⟨B,6,none⟩=some (sv)/\v0.cell? ⟨w.heap.size,0,none⟩=some (.int .i64 f0)/\v0.cell? ⟨w.heap.size,1,none⟩=some (.int .i64 f1)/\v0.cell? ⟨w.heap.size,2,none⟩=some (.int .i64 f2)/\v0.cell? ⟨w.heap.size,3,none⟩=some (.int .i64 f3)/\v0.cell? ⟨w.heap.size,4,none⟩=some (.int .i64 c)/\v0.cell? ⟨w.heap.size,5,none⟩=some (.int .i64 r):=by
  obtain⟨a0,a1,a2,a3,a4,a5,a6⟩:=aI q1;obtain⟨d0,d1,d2,d3,d4,d5⟩:=rG q0;exact⟨cell_of_one q2,a0,a1,a2,a3,a4,a5,a6,d0,d1,d2,d3,d4,d5⟩
 refine aE (fun w'=>w'.cell? ⟨B+1,0,none⟩=some (.int .i64 s0)/\w'.cell? ⟨B,0,none⟩=some (.int .i64 wd)/\w'.cell? ⟨B,1,none⟩=some (.int .i64 ht)/\w'.cell? ⟨B,2,none⟩=some (.int .i64 kd)/\w'.cell? ⟨B,3,none⟩=some (.int .i64 dp)/\w'.cell? ⟨B,4,none⟩=some (.bool ps)/\w'.cell? ⟨B,5,none⟩=some (pv)/\w'.cell? ⟨B,6,none⟩=some (sv)/\w'.cell? ⟨w.heap.size,0,none⟩=some (.int .i64 f0)/\w'.cell? ⟨w.heap.size,1,none⟩=some (.int .i64 f1)/\w'.cell? ⟨w.heap.size,2,none⟩=some (.int .i64 f2)/\w'.cell? ⟨w.heap.size,3,none⟩=some (.int .i64 f3)/\w'.cell? ⟨w.heap.size,4,none⟩=some (.int .i64 c)/\w'.cell? ⟨w.heap.size,5,none⟩=some (.int .i64 r)) 9 ?_;rw[hwd];refine am [0,1,2,3,4] ?_
 iterate 5 (refine ay hS ?_;try simp only[Act.put])
 refine aj ?_;refine ai 5 fun K hK=>?_;go_simp;refine (hrb _).mono ?_;rintro e w1 ⟨rfl,hb1⟩;have n0:=(hb1.block _ (aab q0)).trans q0;have n1:=(hb1.block _ (aab q1)).trans q1;have n2:=(hb1.block _ (aab q2)).trans q2
 have hS1:w1.cell? ⟨B+1,0,none⟩=some (.int .i64 s0)/\w1.cell? ⟨B,0,none⟩=some (.int .i64 wd)/\w1.cell? ⟨B,1,none⟩=some (.int .i64 ht)/\w1.cell? ⟨B,2,none⟩=some (.int .i64 kd)/\w1.cell? ⟨B,3,none⟩=some (.int .i64 dp)/\w1.cell? ⟨B,4,none⟩=some (.bool ps)/\w1.cell? ⟨B,5,none⟩=some (pv)/\w1.cell? ⟨B,6,none⟩=some (sv)/\w1.cell? ⟨w.heap.size,0,none⟩=some (.int .i64 f0)/\w1.cell? ⟨w.heap.size,1,none⟩=some (.int .i64 f1)/\w1.cell? ⟨w.heap.size,2,none⟩=some (.int .i64 f2)/\w1.cell? ⟨w.heap.size,3,none⟩=some (.int .i64 f3)/\w1.cell? ⟨w.heap.size,4,none⟩=some (.int .i64 c)/\w1.cell? ⟨w.heap.size,5,none⟩=some (.int .i64 r):=by
  obtain⟨a0,a1,a2,a3,a4,a5,a6⟩:=aI n1;obtain⟨d0,d1,d2,d3,d4,d5⟩:=rG n0;exact⟨cell_of_one n2,a0,a1,a2,a3,a4,a5,a6,d0,d1,d2,d3,d4,d5⟩
 refine hK _ _ (fun _=>hS1) ?_;clear hK K;have KB:Below w.heap.size w w1:=k0.trans (hb1.mono k0.size);have fz:=free_of_one n2;have HN2:Hid (w1.heap[B+1]?=some (.cells #[.int .i64 s0] 3 (0,0))):=n2;have hl1:B+1<w1.heap.size:=aab n2;clear n0 n1 n2 hb1 q0 q1 q2 k0 hS hrb hb hs;refine am [6,7,8] ?_
 iterate 3 (refine ay hS1 ?_;try simp only[Act.put])
 refine aj ?_;refine ai 9 fun K hK=>?_;go_simp;refine hK _ _ (fun h=>absurd rfl h) ?_;clear hK K;refine ar ?_;go_wp2
 go_end0
 refine⟨rfl,?_,?_⟩
 ·have:=one_setCell (u:=.int .i64 (s0+ad)) HN2.out;rw[aah (1+rb) (by omega),hm,aah ad (by omega),aah (s0+ad) (by omega)];exact this
 ·exact Kp.setCell (S:=fun x=>x=B+1) (p:=⟨B+1,0,none⟩) (Kp.aJ KB) (.inl rfl) _
def dL:Array Value:=#[.int .i64 0,.int .i64 0,.int .i64 8,.int .i64 8,.int .i64 0,.int .i64 0,.int .i64 4,.int .i64 0,.int .i64 8,.int .i64 8,.int .i64 0,.int .i64 0,
 .int .i64 0,.int .i64 4,.int .i64 4,.int .i64 8,.int .i64 0,.int .i64 0,.int .i64 2,.int .i64 0,.int .i64 4,.int .i64 4,.int .i64 0,.int .i64 0,
 .int .i64 0,.int .i64 2,.int .i64 2,.int .i64 4,.int .i64 0,.int .i64 0,.int .i64 1,.int .i64 0,.int .i64 2,.int .i64 2,.int .i64 0,.int .i64 0,
 .int .i64 0,.int .i64 1,.int .i64 1,.int .i64 2,.int .i64 0,.int .i64 0]
abbrev xL (a b c d:Int):Value:=.agg #[.int .i64 a,.int .i64 b,.int .i64 c,.int .i64 d,.int .i64 0,.int .i64 0]
theorem DF (w:World):(Instr.index 178 (.agg dL) (.int .i64 0)).run Tryz.prog w=.ok (xL 0 0 8 8) w:=by kernel_rfl
theorem DG (w:World):(Instr.index 178 (.agg dL) (.int .i64 1)).run Tryz.prog w=.ok (xL 4 0 8 8) w:=by kernel_rfl
theorem DH (w:World):(Instr.index 178 (.agg dL) (.int .i64 2)).run Tryz.prog w=.ok (xL 0 4 4 8) w:=by kernel_rfl
theorem DI (w:World):(Instr.index 178 (.agg dL) (.int .i64 3)).run Tryz.prog w=.ok (xL 2 0 4 4) w:=by kernel_rfl
theorem DJ (w:World):(Instr.index 178 (.agg dL) (.int .i64 4)).run Tryz.prog w=.ok (xL 0 2 2 4) w:=by kernel_rfl
theorem DL (w:World):(Instr.index 178 (.agg dL) (.int .i64 5)).run Tryz.prog w=.ok (xL 1 0 2 2) w:=by kernel_rfl
theorem DM (w:World):(Instr.index 178 (.agg dL) (.int .i64 6)).run Tryz.prog w=.ok (xL 0 1 1 2) w:=by kernel_rfl
theorem Fw (wd ht kd dp:Int)(pv sv:Value)(B:Nat)(bits:Int)(w:World)(hb:w.heap[B]?=some (.cells #[.int .i64 wd,.int .i64 ht,.int .i64 kd,.int .i64 dp,.bool false,pv,sv] 30 (0,0)))(hs:w.heap[B+1]?=some (.cells #[.int .i64 0] 3 (0,0)))(hwd:1<=wd/\wd<=5000)(hht:1<=ht/\ht<=5000)(hch:Pm.chan kd dp≠0)(hbt:bits=Pm.chan kd dp*dp): Calls Tryz.prog 92 #[img wd ht kd dp false pv sv,.func (.func 93) #[] #[.pointer (some ⟨B+1,0,none⟩),.pointer (some ⟨B,0,none⟩)]] w fun e w'=>e=.returned (.tuple #[])/\w'.heap[B+1]?=some (.cells #[.int .i64 (Pm.ad wd ht bits)] 3 (0,0))/\Kp (·=B+1) w w':=by
 go_enter Tryz.func92,Tryz.ntmps92
 go_wp2_with (go_at_call 93;refine (Tw wd ht kd dp false pv sv 0 0 1 1 wd ht B bits 0 _ (aw hb _) (aw hs _) (by omega) (by omega) hch hbt (by omega)).mono ?_;rintro e w1 ⟨rfl,h1,h2⟩);exact aal (abe rfl _ _ _) rfl ⟨rfl,by simpa using h1,((Kp.refl _ _).alloc _).trans h2⟩
theorem vT {wd ht:Int}(b:Int)(hw:1<=wd/\wd<=5000)(hh:1<=ht/\ht<=5000)(k:Nat)(hk:k<7): ∃c0 r0 cs rs:Int,Pm.NW wd ht b k c0 r0 cs rs/\∀w:World,(Instr.index 178 (.agg dL) (.int .i64 (k:Int))).run Tryz.prog w=.ok (xL c0 r0 cs rs) w:=by
 match k,hk with
 | 0,_=>exact⟨_,_,_,_,Pm.XQ b hw hh,DF⟩
 | 1,_=>exact⟨_,_,_,_,Pm.XR b hw hh,DG⟩
 | 2,_=>exact⟨_,_,_,_,Pm.XS b hw hh,DH⟩
 | 3,_=>exact⟨_,_,_,_,Pm.XT b hw hh,DI⟩
 | 4,_=>exact⟨_,_,_,_,Pm.XW b hw hh,DJ⟩
 | 5,_=>exact⟨_,_,_,_,Pm.XX b hw hh,DL⟩
 | 6,_=>exact⟨_,_,_,_,Pm.XY b hw hh,DM⟩
theorem zM {wd ht:Int}(b:Int)(hw:1<=wd/\wd<=5000)(hh:1<=ht/\ht<=5000)(hb:0<=b/\b<=64)(k:Nat)(hk:k<=7): 0<=Pm.fN wd ht b k/\Pm.fN wd ht b k<=200010000*k:=by
 induction k with
 | zero=>simp[Pm.fN]
 | succ k ih =>
  obtain⟨c0,r0,cs,rs,R,_⟩:=vT b hw hh k (by omega);have h1:=Pm.vP wd ht b c0 r0 cs rs R.bc R.br hb;have h2:=ih (by omega);rw[R.next];omega
theorem ny (s t e:Int)(w:World)(hs:0<=s/\s<=8)(ht:1<=t/\t<=8)(he:0<=e/\e<=5000)(h:0<=e-s+t-1): Calls Tryz.prog 135 #[.int .i64 s,.int .i64 t,.int .i64 e] w fun x w'=>x=.returned (.int .i64 (Pm.cnt s t e))/\w'=w:=Mp s t e w hs ht he h
theorem zN:(Tryz.prog.info? 178).map (·.size)=some dL.size:=by kernel_rfl
theorem BO (wd ht kd dp:Int)(pv sv:Value)(B:Nat)(bits:Int)(w:World)(tt:TypeId)(fr:Nat×Nat)(hT:w.heap[0]?=some (.cells dL tt fr))(hb:w.heap[B]?=some (.cells #[.int .i64 wd,.int .i64 ht,.int .i64 kd,.int .i64 dp,.bool true,pv,sv] 30 (0,0)))(hs:w.heap[B+1]?=some (.cells #[.int .i64 0] 3 (0,0)))(hwd:1<=wd/\wd<=5000)(hht:1<=ht/\ht<=5000)(hch:Pm.chan kd dp≠0)(hbt:bits=Pm.chan kd dp*dp): Calls Tryz.prog 92 #[img wd ht kd dp true pv sv,.func (.func 93) #[] #[.pointer (some ⟨B+1,0,none⟩),.pointer (some ⟨B,0,none⟩)]] w fun e w'=>e=.returned (.tuple #[])/\w'.heap[B+1]?=some (.cells #[.int .i64 (Pm.fN wd ht bits 7)] 3 (0,0))/\Kp (·=B+1) w w':=by
 have HT:Hid (w.heap[0]?=some (.cells dL tt fr)):=hT;clear hT;have a9:0<=bits/\bits<=64:=by rw[hbt];exact Pm.mq kd dp hch
 have lb:=aab hb;have ls:=aab hs
 go_enter Tryz.func92,Tryz.ntmps92
 go_wp2_with (refine wpList_load_row rfl 178 _ rfl 0 rfl tt dL fr _ (aw HT.out _) Tryz.underlying178 rfl zN ?_)
 go_loopw [17] (fun i wr=>∃k:Nat,k<=7/\i=.int .i64 k/\wr.heap[B+1]?=some (.cells #[.int .i64 (Pm.fN wd ht bits k)] 3 (0,0))/\Kp (·=B+1) (w.alloc (.cells #[.int .i64 wd,.int .i64 ht,.int .i64 kd,.int .i64 dp,.bool true,pv,sv] 30)) wr) (fun i _=>7-(intOf i).toNat)
 case atStart=>exact⟨0,aaj _,rfl,aw hs _,Kp.refl _ _⟩
 case round =>
  obtain⟨k,hk,rfl,hsz,hkp⟩:=hrel;by_cases hlt:k<7
  ·obtain⟨c0,r0,cs,rs,R,hidx⟩:=vT bits hwd hht k hlt;have hsr:=zM bits hwd hht a9 k hk;have hsz':=hkp.size;rw[aaC]at hsz';have hlt2:w.heap.size<wr.heap.size:=by omega
   have hlt3:B<wr.heap.size:=by omega
   have Tz:B+1<wr.heap.size:=by omega
   have m0:wr.cell? ⟨w.heap.size,0,none⟩=some (.int .i64 wd):=(hkp.cell (by simp) (by simp;omega)).trans (by simp);have m1:wr.cell? ⟨w.heap.size,1,none⟩=some (.int .i64 ht):=(hkp.cell (by simp) (by simp;omega)).trans (by simp);have hbr:wr.heap[B]?=some (.cells #[.int .i64 wd,.int .i64 ht,.int .i64 kd,.int .i64 dp,.bool true,pv,sv] 30 (0,0)):=(hkp.block B (by simp;omega) (by omega)).trans (aw hb _);have HN:Hid (Pm.fN wd ht bits (k+1)=Pm.fN wd ht bits k+Pm.one wd ht bits c0 r0 cs rs):=R.next;have p1:=R.pc;have p2:=R.pr;have b1:=R.bc;have b2:=R.br;have ho:=Pm.vP wd ht bits c0 r0 cs rs R.bc R.br a9;go_wp2_with fail;refine (ny c0 cs wd _ R.hc0 R.hcs (by omega) R.pc).mono ?_;rintro e w' ⟨rfl,rfl⟩;go_wp2_with fail;refine (ny r0 rs ht _ R.hr0 R.hrs (by omega) R.pr).mono ?_;rintro e w' ⟨rfl,rfl⟩;clear p1 p2;by_cases d1:0<Pm.cnt c0 cs wd
   ·by_cases d2:0<Pm.cnt r0 rs ht
    ·have HO:Hid (Pm.one wd ht bits c0 r0 cs rs=Pm.ad (Pm.cnt c0 cs wd) (Pm.cnt r0 rs ht) bits):=by show _=_;rw[Pm.one,aaf ⟨d1,d2⟩]
     go_wp2_with fail;refine (Tw wd ht kd dp true pv sv c0 r0 cs rs (Pm.cnt c0 cs wd) (Pm.cnt r0 rs ht) B bits (Pm.fN wd ht bits k) _ (aw hbr _) (aw hsz _) R.bc R.br hch hbt (by omega)).mono ?_;rintro e w1 ⟨rfl,h1,h2⟩
     have R2:w1.heap[B+1]?=some (.cells #[.int .i64 (Pm.fN wd ht bits (k+1))] 3 (0,0))/\Kp (·=B+1) (w.alloc (.cells #[.int .i64 wd,.int .i64 ht,.int .i64 kd,.int .i64 dp,.bool true,pv,sv] 30)) w1 :=
      ⟨by rw[HN.out,HO.out];exact h1,(hkp.alloc _).trans h2⟩
     clear h1 h2 hsz hkp;go_wp2
     go_roundw
     case rel=>exact⟨k+1,by omega,by go_num,R2.1,R2.2⟩
     case measure=>simp[intOf];omega
    ·have HO:Hid (Pm.one wd ht bits c0 r0 cs rs=0):=by show _=_;rw[Pm.one,aae (by omega)]
     go_wp2
     go_roundw
     case rel=>exact⟨k+1,by omega,by go_num,by rw[HN.out,HO.out,Int.add_zero];exact aw hsz _,hkp.alloc _⟩
     case measure=>simp[intOf];omega
   ·have HO:Hid (Pm.one wd ht bits c0 r0 cs rs=0):=by show _=_;rw[Pm.one,aae (by omega)]
    go_wp2
    go_roundw
    case rel=>exact⟨k+1,by omega,by go_num,by rw[HN.out,HO.out,Int.add_zero];exact aw hsz _,hkp.alloc _⟩
    case measure=>simp[intOf];omega
  ·have hk2:k=7:=by omega
   subst hk2;go_wp2
   go_end0
   exact⟨rfl,hsz,((Kp.refl _ _).alloc _).trans hkp⟩
end Go.Proofs.YtmfijackgekioaaGreatDoor
