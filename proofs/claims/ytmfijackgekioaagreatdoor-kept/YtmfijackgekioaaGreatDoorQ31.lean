import Derived.Test.YtmfijackgekioaaGreatDoorQ01
import Derived.Test.YtmfijackgekioaaGreatDoorQ30
set_option maxHeartbeats 1000000
set_option maxRecDepth 100000
namespace Go.Proofs.YtmfijackgekioaaGreatDoor
open Go.RowKit
theorem fM (n:Int)(w:World): Calls Tryz.prog 55 #[.int .i64 n] w fun e w'=>e=.returned (.bool (Pm.fU n))/\w'=w:=by
 go_enter Tryz.func55,Tryz.ntmps55
 go_wp2
 all_goals go_ret
 all_goals refine⟨aK ?_,rfl⟩
 all_goals (unfold Pm.fU;first|(simp_all;done)|(simp;omega))
theorem NZ (s t e:Int)(w:World)(hs:0<=s/\s<=8)(ht:1<=t/\t<=8)(he:0<=e/\e<=5000)(h:0<=e-s+t-1): Calls Tryz.prog 135 #[.int .i64 s,.int .i64 t,.int .i64 e] w fun x w'=>x=.returned (.int .i64 ((e-s+t-1)/t))/\w'=w:=by
 go_enter Tryz.func135,Tryz.ntmps135
 go_wp2
 all_goals go_ret
 all_goals exact⟨rfl,rfl⟩
theorem b1 {a b:Int}(h:a=b):(a==b)=true:=by simp[h]
theorem b0 {a b:Int}(h:a≠b):(a==b)=false:=by simp[h]
theorem lC (k d:Int)(w:World): Calls Tryz.prog 54 #[.int .i64 k,.int .i64 d] w fun e w'=>e=.returned (.int .i64 (Pm.chan k d))/\w'=w:=by
 go_enter Tryz.func54,Tryz.ntmps54
 go_wp2
 all_goals go_ret
 all_goals refine⟨aH ?_,rfl⟩
 all_goals (unfold Pm.chan;simp_all)
theorem lE (ao:Option Addr)(cap:Nat)(zs:List Int)(e:Int)(w:World)(hm:zs.length<=maxLen)(hi:Ints w ao zs): Calls Tryz.prog 96 #[.slice ao zs.length cap,.int .i64 e] w fun x w'=>x=.returned (.bool (Pm.ee zs e))/\w'=w:=by
 unfold maxLen at hm
 go_enter Tryz.func96,Tryz.ntmps96
 go_wp2
 go_loop [9] (fun i=>∃k:Nat,k<=zs.length/\i=.int .i64 k/\Hid (Pm.ee (zs.take k) e=true)) (fun i=>zs.length-(intOf i).toNat)
 case atStart=>exact⟨0,Nat.zero_le _,rfl,rfl⟩
 case round =>
  obtain⟨k,hk,rfl,HA⟩:=hrel;by_cases hlt:k<zs.length
  ·obtain⟨b,off,rfl,hc⟩:=hi k hlt;obtain⟨x,hx⟩:∃x:Int,x=zs[k]:=⟨_,rfl⟩
   rw[<-hx]at hc;have HX:Hid (x=zs[k]):=hx;clear hx hi;by_cases h1:x<0
   ·go_wp2
    go_ret
    exact⟨aK (Pm.Ez zs k hlt e (by rw[<-HX.out];omega)).symm,rfl⟩
   ·by_cases h2:e<=x
    ·go_wp2
     go_ret
     exact⟨aK (Pm.Ez zs k hlt e (by rw[<-HX.out];omega)).symm,rfl⟩
    ·go_wp2
     go_round
     case rel=>exact⟨k+1,by omega,by go_num,by show _=_;rw[Pm.GE zs k hlt,HA.out,<-HX.out];simp;omega⟩
     case measure=>simp[intOf];omega
  ·go_wp2
   go_ret
   refine⟨aK ?_,rfl⟩;have h:=HA.out;rw[List.take_of_length_le (by omega)]at h;exact h.symm
abbrev img (wd ht kd dp:Int)(ps:Bool)(pv sv:Value):Value:=.agg #[.int .i64 wd,.int .i64 ht,.int .i64 kd,.int .i64 dp,.bool ps,pv,sv]
theorem nu (d:Int)(h:1<=d/\d<=16):wrap64 (2^d.toNat)=Pm.two d:=by
 have:=Pm.gP d h;rw[IntWalk.wrap64_in]
 ·rfl
 ·show _<=Pm.two d/\Pm.two d<=_;omega
theorem GJ {P:Program}{f:FuncId}{args:Array Value}{w:World}{n m:Nat}{v:Value}(h:Calls P f args (w.drewN (n+m)) fun e w'=>e=.returned v/\w'=w.drewN (n+m)):Calls P f args (w.drewN (n+m)) fun e w''=>e=.returned v/\∃m,w''=w.drewN (n+m) :=
 h.mono fun _ _ ⟨he,hm⟩=>⟨he,m,hm⟩
theorem gQ (n m:Int)(w:World)(hn:0<=n/\n<=9223372036854775807)(c:Bool)(hc:c=(decide (n%3=0)&&(decide (1<=n/3)&&decide (n/3<=m)))): Calls Tryz.prog 95 #[.int .i64 n,.int .i64 m] w fun x w'=>x=.returned (.bool c)/\w'=w:=by
 have HC:Hid (c=(decide (n%3=0)&&(decide (1<=n/3)&&decide (n/3<=m)))):=hc;clear hc
 go_enter Tryz.func95,Tryz.ntmps95
 go_wp2
 all_goals go_ret
 all_goals refine⟨aK ?_,rfl⟩
 all_goals rw[HC.out]
 all_goals (rw[Bool.eq_iff_iff];simp;try omega)
theorem GK (wd ht kd dp:Int)(ps:Bool)(pa:Option Addr)(pc:Nat)(pz:List Int)(sv:Value)(w:World)(hd:1<=dp/\dp<=16)(hm:pz.length<=maxLen)(hi:Ints w pa pz)(ha:∀a,pa=some a->pz≠[]->a.block<w.heap.size): Calls Tryz.prog 57 #[img wd ht kd dp ps (.slice pa pz.length pc) sv] w fun x w'=>x=.returned (.bool (Pm.pM kd (Pm.two dp) pz))/\Below w.heap.size w w':=by
 have hm':=hm;unfold maxLen at hm;have hw:=nu dp hd;have hr:=Pm.gP dp hd;by_cases hk:kd=3
 ·subst hk;have hw2:IntKind.i64.wrap (2^dp.toNat)=Pm.two dp:=IntWalk.i64_in (Pm.two dp) (by omega);have HN:0<=(pz.length:Int)/\(pz.length:Int)<=9223372036854775807:=by omega
  by_cases hc:(decide ((pz.length:Int)%3=0)&&(decide (1<=(pz.length:Int)/3)&&decide ((pz.length:Int)/3<=Pm.two dp)))=true
  ·have HC:Hid (_=true):=hc;have kc:=fun u=>gQ (pz.length:Int) (Pm.two dp) u HN true hc.symm;have kd:=fun u=>gQ (pz.length:Int) (IntKind.i64.wrap (2^dp.toNat)) u HN true (by rw[hw2];exact hc.symm);clear hc
   go_enter Tryz.func57,Tryz.ntmps57
   go_wp2
   go_quiet (first|(go_at_call 95;first|exact Calls.quiet_of_same (kc _)|exact Calls.quiet_of_same (kd _))|(go_at_call 96;exact Calls.quiet_of_same (lE pa pc pz 256 _ hm' (hi.below (below_drewN ((Below.refl _ _).alloc (Nat.le_refl _) _) _) ha))))
   go_wp2
   all_goals go_ret
   all_goals refine⟨aK ?_,below_drewN ((Below.refl _ _).alloc (Nat.le_refl _) _) _⟩
   have h:=HC.out;simp at h;simp[Pm.pM,h]
  ·have hc':(decide ((pz.length:Int)%3=0)&&(decide (1<=(pz.length:Int)/3)&&decide ((pz.length:Int)/3<=Pm.two dp)))=false:=by simpa using hc
   have HC:Hid (_=false):=hc';have kc:=fun u=>gQ (pz.length:Int) (Pm.two dp) u HN false hc'.symm;have kd:=fun u=>gQ (pz.length:Int) (IntKind.i64.wrap (2^dp.toNat)) u HN false (by rw[hw2];exact hc'.symm);clear hc hc'
   go_enter Tryz.func57,Tryz.ntmps57
   go_wp2
   go_quiet ((go_at_call 95;first|exact Calls.quiet_of_same (kc _)|exact Calls.quiet_of_same (kd _)))
   go_wp2
   all_goals go_ret
   all_goals refine⟨aK ?_,below_drewN ((Below.refl _ _).alloc (Nat.le_refl _) _) _⟩
   have h:=HC.out;simp only[Pm.pM,if_true];rw[<-Bool.and_assoc]at h;rw[h];rfl
 ·go_enter Tryz.func57,Tryz.ntmps57
  go_wp2
  all_goals go_ret
  all_goals refine⟨aK ?_,(Below.refl _ _).alloc (Nat.le_refl _) _⟩
  all_goals simp only[Pm.pM,if_neg hk]
  all_goals (rw[Bool.eq_iff_iff];simp)
theorem GL (wd ht kd dp:Int)(ps:Bool)(pa:Option Addr)(pc pl:Nat)(sa:Option Addr)(sc:Nat)(sz:List Int)(w:World)(hd:1<=dp/\dp<=16)(hwd:1<=wd/\wd<=5000)(hht:1<=ht/\ht<=5000)(hp:pl<=maxLen)(hm:sz.length<=maxLen)(hi:Ints w sa sz)(ha:∀a,sa=some a->sz≠[]->a.block<w.heap.size): Calls Tryz.prog 58 #[img wd ht kd dp ps (.slice pa pl pc) (.slice sa sz.length sc)] w fun x w'=>x=.returned (.bool (Pm.ug wd ht kd (Pm.chan kd dp) (Pm.two dp) pl sz))/\Below w.heap.size w w':=by
 have hm':=hm;unfold maxLen at hm hp;have hw:=nu dp hd;have hr:=Pm.gP dp hd;have h1:=Pm.aaC wd ht hwd hht;have h2:=Pm.V6 (wd*ht) (Pm.chan kd dp) (by omega) (Pm.cE kd dp);have h3:=Pm.cE kd dp
 go_enter Tryz.func58,Tryz.ntmps58
 go_wp2_with fail;by_cases c1:(sz.length:Int)=wd*ht*Pm.chan kd dp
 ·have c1':((sz.length:Int) != wd*ht*Pm.chan kd dp)=false:=by simp[c1]
  have HC:Hid ((sz.length:Int)=wd*ht*Pm.chan kd dp):=c1;clear c1
  go_quiet ((go_at_call 54;exact Calls.quiet_of_same (lC _ _ _)))
  by_cases hk:kd=3
  ·have hk':(kd==3)=true:=beq_iff_eq.2 hk;have HK:Hid (kd=3):=hk;clear hk;go_wp2_with (go_at_call 96;refine (lE sa sc sz _ _ hm' ?_).mono ?_;rotate_left;rintro e w' ⟨rfl,rfl⟩)
   ·go_ret
    refine⟨aK ?_,by repeat (first|exact (Below.refl _ _).alloc (Nat.le_refl _) _|refine below_drewN ?_ _)⟩;have h:=HC.out;have hk:=HK.out;simp[Pm.ug,h,hk]
   ·exact hi.below (by repeat (first|exact (Below.refl _ _).alloc (Nat.le_refl _) _|refine below_drewN ?_ _)) ha
  ·have hk':(kd==3)=false:=beq_eq_false_iff_ne.2 hk;go_wp2_with fail
   go_quiet ((go_at_call 96;exact GJ (lE sa sc sz _ _ hm' (hi.below (by repeat (first|exact (Below.refl _ _).alloc (Nat.le_refl _) _|refine below_drewN ?_ _)) ha))))
   go_wp2
   go_ret
   refine⟨aK ?_,by repeat (first|exact (Below.refl _ _).alloc (Nat.le_refl _) _|refine below_drewN ?_ _)⟩;have h:=HC.out;simp[Pm.ug,h,hk]
 ·have c1':((sz.length:Int) != wd*ht*Pm.chan kd dp)=true:=by simp[c1]
  have HC:Hid (¬(sz.length:Int)=wd*ht*Pm.chan kd dp):=c1;clear c1
  go_quiet ((go_at_call 54;exact Calls.quiet_of_same (lC _ _ _)))
  go_wp2
  go_ret
  refine⟨aK ?_,below_drewN ((Below.refl _ _).alloc (Nat.le_refl _) _) _⟩;have h:=HC.out;simp[Pm.ug,h]
end Go.Proofs.YtmfijackgekioaaGreatDoor
