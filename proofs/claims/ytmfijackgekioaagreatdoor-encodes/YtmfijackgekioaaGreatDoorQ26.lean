import Derived.Test.YtmfijackgekioaaGreatDoorQ06
import Derived.Test.YtmfijackgekioaaGreatDoorQ25
set_option maxHeartbeats 1000000
set_option maxRecDepth 100000
namespace Go.Proofs.YtmfijackgekioaaGreatDoor
open Go.RowKit Go.Maps
theorem fJ (p q:Int)(w:World)(hp:-1000<=p/\p<=1000)(hq:-1000<=q/\q<=1000): Calls Tryz.prog 151 #[.int .i64 p,.int .i64 q] w fun e w'=>e=.returned (.int .i64 (Pm.gS p q))/\w'=w:=by
 by_cases h:q<p
 ·have HO:Hid (Pm.gS p q=p-q):=by show _=_;rw[Pm.gS,aaf h]
  go_enter Tryz.func151,Tryz.ntmps151
  go_wp2
  go_ret
  exact⟨aC HO.out.symm,rfl⟩
 ·have HO:Hid (Pm.gS p q=q-p):=by show _=_;rw[Pm.gS,aae h]
  go_enter Tryz.func151,Tryz.ntmps151
  go_wp2
  go_ret
  exact⟨aC HO.out.symm,rfl⟩
theorem TD (a b c:Int)(w:World)(ha:0<=a/\a<256)(hb:0<=b/\b<256)(hc:0<=c/\c<256): Calls Tryz.prog 109 #[.int .i64 a,.int .i64 b,.int .i64 c] w fun e w'=>e=.returned (.int .i64 (Pm.qN a b c))/\w'=w:=by
 have hA:=fun u=>fJ (a+b-c) a u (by omega) (by omega);have hB:=fun u=>fJ (a+b-c) b u (by omega) (by omega);have hC:=fun u=>fJ (a+b-c) c u (by omega) (by omega);have HN:Hid (Pm.qN a b c=if Pm.gS (a+b-c) a<=Pm.gS (a+b-c) b/\Pm.gS (a+b-c) a<=Pm.gS (a+b-c) c then a else if Pm.gS (a+b-c) b<=Pm.gS (a+b-c) c then b else c):=rfl;generalize Pm.gS (a+b-c) a=x at *;generalize Pm.gS (a+b-c) b=y at *;generalize Pm.gS (a+b-c) c=z at *;by_cases h1:x<=y
 ·by_cases h2:x<=z
  ·rw[aaf ⟨h1,h2⟩]at HN
   go_enter Tryz.func109,Tryz.ntmps109
   go_wp2_with fail;refine (hA _).mono ?_;rintro e w' ⟨rfl,rfl⟩;go_wp2_with fail;refine (hB _).mono ?_;rintro e w' ⟨rfl,rfl⟩;go_wp2_with fail;refine (hC _).mono ?_;rintro e w' ⟨rfl,rfl⟩;go_wp2
   go_ret
   exact⟨aC HN.out.symm,rfl⟩
  ·rw[aae (fun h=>h2 h.2)]at HN;by_cases h3:y<=z
   ·exact absurd (Int.le_trans h1 h3) h2
   ·rw[aae h3]at HN
    go_enter Tryz.func109,Tryz.ntmps109
    go_wp2_with fail;refine (hA _).mono ?_;rintro e w' ⟨rfl,rfl⟩;go_wp2_with fail;refine (hB _).mono ?_;rintro e w' ⟨rfl,rfl⟩;go_wp2_with fail;refine (hC _).mono ?_;rintro e w' ⟨rfl,rfl⟩;go_wp2
    go_ret
    exact⟨aC HN.out.symm,rfl⟩
 ·rw[aae (fun h=>h1 h.1)]at HN;by_cases h3:y<=z
  ·rw[aaf h3]at HN
   go_enter Tryz.func109,Tryz.ntmps109
   go_wp2_with fail;refine (hA _).mono ?_;rintro e w' ⟨rfl,rfl⟩;go_wp2_with fail;refine (hB _).mono ?_;rintro e w' ⟨rfl,rfl⟩;go_wp2_with fail;refine (hC _).mono ?_;rintro e w' ⟨rfl,rfl⟩;go_wp2
   go_ret
   exact⟨aC HN.out.symm,rfl⟩
  ·rw[aae h3]at HN
   go_enter Tryz.func109,Tryz.ntmps109
   go_wp2_with fail;refine (hA _).mono ?_;rintro e w' ⟨rfl,rfl⟩;go_wp2_with fail;refine (hB _).mono ?_;rintro e w' ⟨rfl,rfl⟩;go_wp2_with fail;refine (hC _).mono ?_;rintro e w' ⟨rfl,rfl⟩;go_wp2
   go_ret
   exact⟨aC HN.out.symm,rfl⟩
def Jc (l:List Int)(i:Int):Int:=if i<0\/(l.length:Int)<=i then 0 else l.getD i.toNat 0
theorem atR (ao:Option Addr)(cap:Nat)(l:List Int)(i:Int)(w:World)(hi:Ints w ao l): Calls Tryz.prog 108 #[.slice ao l.length cap,.int .i64 i] w fun e w'=>e=.returned (.int .i64 (Jc l i))/\w'=w:=by
 by_cases h0:i<0
 ·have HA:Hid (Jc l i=0):=by show _=_;rw[Jc,aaf (.inl h0)]
  go_enter Tryz.func108,Tryz.ntmps108
  go_wp2
  go_ret
  exact⟨aC HA.out.symm,rfl⟩
 ·by_cases h1:(l.length:Int)<=i
  ·have HA:Hid (Jc l i=0):=by show _=_;rw[Jc,aaf (.inr h1)]
   go_enter Tryz.func108,Tryz.ntmps108
   go_wp2
   go_ret
   exact⟨aC HA.out.symm,rfl⟩
  ·obtain⟨k,rfl⟩:=aaO (a:=i) (by omega);have hk:k<l.length:=by omega
   obtain⟨b,off,rfl,hc⟩:=hi k hk
   have HA:Hid (Jc l k=l[k]):=by
    show _=_;rw[Jc,aae (by omega),aa5,aaa,aai hk];rfl
   obtain⟨x,hx⟩:∃x:Int,x=l[k]:=⟨_,rfl⟩
   rw[<-hx]at hc HA;clear hx hi
   go_enter Tryz.func108,Tryz.ntmps108
   go_wp2
   go_ret
   exact⟨aC HA.out.symm,rfl⟩
theorem DP (x y:Int)(w:World)(hx:-1000<=x/\x<=1000)(hy:-1000<=y/\y<=1000): Calls Tryz.prog 221 #[.int .i64 x,.int .i64 y] w fun e w'=>e=.returned (.int .i64 (Pm.dB x y))/\w'=w:=by
 go_enter Tryz.func221,Tryz.ntmps221
 go_wp2
 all_goals go_ret
 all_goals exact⟨aC (by unfold Pm.dB;omega),rfl⟩
theorem BP (w:World)(a b:Nat):(w.drewN a).drewN b=w.drewN (a+b):=by simp
abbrev dC (l:List Int):List Value:=l.map (Value.int .u8)
def dA (w:World)(g:Nat)(l:List Int):Prop:=w.heap[g]?=some (.cells (dC l).toArray 5 (0,0))
theorem dA.cell {w:World}{g:Nat}{l:List Int}(h:dA w g l)(j:Nat)(hj:j<l.length):w.cell? ⟨g,j,none⟩=some (.int .u8 (Pm.ap l j)):=by
 refine (aan _ _ _ _ _ _ h).trans ?_;simp[dC,hj,Pm.ap]
theorem dA.frozen {w:World}{g:Nat}{l:List Int}(h:dA w g l)(j:Nat):w.frozen? ⟨g,j,none⟩=false:=aaE w g j _ _ h
theorem dA.set {w:World}{g:Nat}{l:List Int}(h:dA w g l)(i:Nat)(x:Int):dA (w.setCell ⟨g,i,none⟩ (.int .u8 x)) g (l.set i x):=by
 refine (aat w g i _ _ (.int .u8 x) h).trans ?_;simp[dC,List.map_set]
theorem Mr (R A:Nat)(r a:List Int)(i lead n:Nat)(w:World)(hR:dA w R r)(hA:dA w A a)(hr:r.length=n)(ha:a.length=n)(hi:i<n)(hn:n<=1000000)(hl:1<=lead/\lead<=8)(gr:∀j,0<=Pm.ap r j/\Pm.ap r j<256)(ga:∀j,0<=Pm.ap a j/\Pm.ap a j<256): Calls Tryz.prog 193 #[.slice (some ⟨R,0,none⟩) n n,.slice (some ⟨A,0,none⟩) n n,.int .i64 (i:Nat),.int .i64 (lead:Nat)] w fun e w' =>
   e=.returned (.tuple #[.int .i64 (Pm.cS (Pm.ap r) i lead),.int .i64 (Pm.ap a i),.int .i64 (Pm.cS (Pm.ap a) i lead)])/\∃m,w'=w.drewN m:=by
 have c3:=hA.cell i (by omega);have g3:=ga i;have x3:IntKind.i64.wrap (Pm.ap a i)=Pm.ap a i:=aah _ (by omega);have hin:(i:Int)<(n:Int):=by omega
 by_cases h:lead<=i
 ·have KO:(i:Int)≥(lead:Int):=by omega
  have e0:((i:Int)-(lead:Int))=((i-lead:Nat):Int):=by omega
  have P1:Hid (Pm.cS (Pm.ap r) i lead=Pm.ap r (i-lead)):=by show _=_;rw[Pm.cS,aaf h]
  have P2:Hid (Pm.cS (Pm.ap a) i lead=Pm.ap a (i-lead)):=by show _=_;rw[Pm.cS,aaf h]
  have c1:=hR.cell (i-lead) (by omega);have c2:=hA.cell (i-lead) (by omega);have g1:=gr (i-lead);have g2:=ga (i-lead);have x1:IntKind.i64.wrap (Pm.ap r (i-lead))=Pm.ap r (i-lead):=aah _ (by omega);have x2:IntKind.i64.wrap (Pm.ap a (i-lead))=Pm.ap a (i-lead):=aah _ (by omega);have hk:((i-lead:Nat):Int)<(n:Int):=by omega
  generalize Pm.ap r (i-lead)=X at *;generalize Pm.ap a (i-lead)=Y at *;generalize Pm.ap a i=Z at *;obtain⟨k,hkk⟩:∃k,k=i-lead:=⟨_,rfl⟩
  rw[<-hkk]at c1 c2 e0 hk;have HK:Hid (_):=hkk;clear hR hA gr ga hkk
  go_enter Tryz.func193,Tryz.ntmps193
  go_wp2
  go_quiet (fail)
  go_wp2
  go_quiet (fail)
  go_wp2;refine aal (v:=.tuple #[.int .i64 X,.int .i64 Z,.int .i64 Y]) (by simp[results,Tryz.results193,go_sem]) rfl ⟨?_,_,BP _ _ _⟩;rw[P1.out,P2.out]
 ·have KO:¬(i:Int)≥(lead:Int):=by omega
  have P1:Hid (Pm.cS (Pm.ap r) i lead=0):=by show _=_;rw[Pm.cS,aae h]
  have P2:Hid (Pm.cS (Pm.ap a) i lead=0):=by show _=_;rw[Pm.cS,aae h]
  generalize Pm.ap a i=Z at *;clear hR hA gr ga
  go_enter Tryz.func193,Tryz.ntmps193
  go_wp2
  go_quiet (fail)
  go_wp2;refine aal (v:=.tuple #[.int .i64 0,.int .i64 Z,.int .i64 0]) (by simp[results,Tryz.results193,go_sem]) rfl ⟨?_,_,rfl⟩;rw[P1.out,P2.out]
structure qS (F f:Nat):Prop where
 does:∀(a b c:Int) (u:World),(0<=a/\a<256)->(0<=b/\b<256)->(0<=c/\c<256)->Calls Tryz.prog F #[.int .i64 a,.int .i64 b,.int .i64 c] u fun e u'=>e=.returned (.int .i64 (Pm.dG f a b c))/\u'=u
 call:∀args w,(callFunc F args).run Tryz.prog w=.ok (.enter F args) w
theorem TE:qS 188 0:=by
 refine⟨?_,fun args w=>by kernel_rfl⟩;intro a b c u ha hb hc
 go_enter Tryz.func188,Tryz.ntmps188
 go_wp2
 go_ret
 exact⟨rfl,rfl⟩
theorem TH:qS 189 1:=by
 refine⟨?_,fun args w=>by kernel_rfl⟩;intro a b c u ha hb hc
 go_enter Tryz.func189,Tryz.ntmps189
 go_wp2
 go_ret
 exact⟨rfl,rfl⟩
theorem TI:qS 190 2:=by
 refine⟨?_,fun args w=>by kernel_rfl⟩;intro a b c u ha hb hc
 go_enter Tryz.func190,Tryz.ntmps190
 go_wp2
 go_ret
 exact⟨rfl,rfl⟩
theorem TJ:qS 191 3:=by
 refine⟨?_,fun args w=>by kernel_rfl⟩;intro a b c u ha hb hc
 go_enter Tryz.func191,Tryz.ntmps191
 go_wp2
 go_ret
 exact⟨rfl,rfl⟩
theorem TL:qS 192 4:=by
 refine⟨?_,fun args w=>by kernel_rfl⟩;intro a b c u ha hb hc;have hA:=fun v=>DP b c v (by omega) (by omega);have hB:=fun v=>DP a c v (by omega) (by omega);have hC:=fun v=>DP (a+b) (c+c) v (by omega) (by omega);have HN:Hid (Pm.dG 4 a b c=if Pm.dB b c<=Pm.dB a c/\Pm.dB b c<=Pm.dB (a+b) (c+c) then a else if Pm.dB a c<=Pm.dB (a+b) (c+c) then b else c):=Pm.Fq a b c;generalize Pm.dG 4 a b c=R at *;generalize Pm.dB b c=x at *;generalize Pm.dB a c=y at *;generalize Pm.dB (a+b) (c+c)=z at *;by_cases h1:x<=y
 ·by_cases h2:x<=z
  ·rw[aaf ⟨h1,h2⟩]at HN
   go_enter Tryz.func192,Tryz.ntmps192
   go_wp2_with fail;refine (hA _).mono ?_;rintro e w' ⟨rfl,rfl⟩;go_wp2_with fail;refine (hB _).mono ?_;rintro e w' ⟨rfl,rfl⟩;go_wp2_with fail;refine (hC _).mono ?_;rintro e w' ⟨rfl,rfl⟩;go_wp2
   go_ret
   exact⟨aC HN.out.symm,rfl⟩
  ·rw[aae (fun h=>h2 h.2)]at HN;by_cases h3:y<=z
   ·exact absurd (Int.le_trans h1 h3) h2
   ·rw[aae h3]at HN
    go_enter Tryz.func192,Tryz.ntmps192
    go_wp2_with fail;refine (hA _).mono ?_;rintro e w' ⟨rfl,rfl⟩;go_wp2_with fail;refine (hB _).mono ?_;rintro e w' ⟨rfl,rfl⟩;go_wp2_with fail;refine (hC _).mono ?_;rintro e w' ⟨rfl,rfl⟩;go_wp2
    go_ret
    exact⟨aC HN.out.symm,rfl⟩
 ·rw[aae (fun h=>h1 h.1)]at HN;by_cases h3:y<=z
  all_goals
   first|rw[aaf h3]at HN|rw[aae h3]at HN
   go_enter Tryz.func192,Tryz.ntmps192
   go_wp2_with fail;refine (hA _).mono ?_;rintro e w' ⟨rfl,rfl⟩;go_wp2_with fail;refine (hB _).mono ?_;rintro e w' ⟨rfl,rfl⟩;go_wp2_with fail;refine (hC _).mono ?_;rintro e w' ⟨rfl,rfl⟩;go_wp2
   go_ret
   exact⟨aC HN.out.symm,rfl⟩
def gZ:Nat->Nat
 | 0=>188
 | 1=>189
 | 2=>190
 | 3=>191
 | _=>192
theorem tQ (f:Nat)(h:f<=4):qS (gZ f) f:=by
 match f,h with
 | 0,_=>exact TE
 | 1,_=>exact TH
 | 2,_=>exact TI
 | 3,_=>exact TJ
 | 4,_=>exact TL
inductive Jd (f:Nat) (w:World):Ending->World->Prop
 | no:4<f->Jd f w (dies 15) w
 | ok:f<=4->Jd f w (.returned (.func (.func (gZ f)) #[] #[])) w
theorem zR (f:Nat)(w:World):Calls Tryz.prog 144 #[.int .u8 (f:Nat)] w fun e w'=>Jd f w e w':=by
 rcases aaL 4 f with h|h
 ·have HH:Hid (4<f):=h;have n0:((f:Int)==0)=false:=by rw[aam];omega
  have n1:((f:Int)==1)=false:=by rw[aam];omega
  have n2:((f:Int)==2)=false:=by rw[aam];omega
  have n3:((f:Int)==3)=false:=by rw[aam];omega
  have n4:((f:Int)==4)=false:=by rw[aam];omega
  clear h
  go_enter Tryz.func144,Tryz.ntmps144
  go_wp2;exact⟨rfl,.no HH.out⟩
 ·match f,h with
  | 0,h =>
   go_enter Tryz.func144,Tryz.ntmps144
   go_wp2
   go_ret
   exact .ok h
  | 1,h =>
   go_enter Tryz.func144,Tryz.ntmps144
   go_wp2
   go_ret
   exact .ok h
  | 2,h =>
   go_enter Tryz.func144,Tryz.ntmps144
   go_wp2
   go_ret
   exact .ok h
  | 3,h =>
   go_enter Tryz.func144,Tryz.ntmps144
   go_wp2
   go_ret
   exact .ok h
  | 4,h =>
   go_enter Tryz.func144,Tryz.ntmps144
   go_wp2
   go_ret
   exact .ok h
end Go.Proofs.YtmfijackgekioaaGreatDoor
