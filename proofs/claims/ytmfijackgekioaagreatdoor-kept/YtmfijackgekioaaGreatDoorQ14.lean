import Derived.Test.YtmfijackgekioaaGreatDoorQ05
import Derived.Test.YtmfijackgekioaaGreatDoorQ13
import Derived.Lib.Strings
import Derived.Lib.Small
import Derived.Lib.Walk
import Derived.Lib.BitFns
import Derived.Laws.EntriesVeiled
set_option maxHeartbeats 4000000
set_option maxRecDepth 100000
namespace Go.Proofs.YtmfijackgekioaaGreatDoor
open Go.RowKit
theorem rj (x:Nat)(h:x<2^64):Lib.bitLen x=Rf.mf x:=by
 induction x using Nat.strongRecOn with
 | _ x ih =>
  by_cases h0:x=0
  ·subst h0;decide
  ·rw[Lib.bitLen_half x h0 h,ih (x/2) (by omega) (by omega)];unfold Rf.mf;rw[if_neg h0];by_cases h1:x=1
   ·subst h1;decide
   ·rw[if_neg (by omega)];have:x.log2=(x/2).log2+1:=by rw[Nat.log2_def,if_pos (by omega)]
    omega
theorem pA (n:Nat)(h:n<256):Lib.bitLen n<=8:=Lib.bitLen_le8 ⟨n,h⟩
theorem Rc (x:Int)(w:World)(h0:0<=x)(h1:x<=32767): Calls Tryz.prog 254 #[.int .u64 x] w fun e w'=>e=.returned (.int .i64 (Rf.mf x.toNat))/\w'=w:=by
 have g1:¬(x≥4294967296):=by omega
 have g2:¬(x≥65536):=by omega
 by_cases g3:x≥256
 ·have q1:(0:Int)<=x/256:=by omega
  have q2:x/256<=255:=by omega
  go_enter Tryz.func254,Tryz.ntmps254
  go_wp2
  go_ret
  refine⟨congrArg Ending.returned (congrArg (Value.int IntKind.i64) ?_),rfl⟩;have hb:=rj x.toNat (by omega);have s:=Lib.bitLen_shift8 x.toNat (by omega) (by omega);have lt:=pA (x.toNat/256) (by omega);have e:(x/256).toNat=x.toNat/256:=by omega
  rw[Lib.len8_of (x/256) q1 q2,e];unfold wrap64;omega
 ·have q2:x<=255:=by omega
  go_enter Tryz.func254,Tryz.ntmps254
  go_wp2
  go_ret
  refine⟨congrArg Ending.returned (congrArg (Value.int IntKind.i64) ?_),rfl⟩;have hb:=rj x.toNat (by omega);have lt:=pA x.toNat (by omega);rw[Lib.len8_of x h0 q2];unfold wrap64;omega
theorem JH (x:Int)(w:World)(h0:0<=x)(h1:x<=32767): Calls Tryz.prog 241 #[.int .u64 x] w fun e w'=>e=.returned (.int .i64 (Rf.mf x.toNat))/\w'=w:=by
 go_enter Tryz.func241,Tryz.ntmps241
 go_wp2_with (go_at_call 254;refine (Rc x _ h0 h1).mono ?_;rintro e w' ⟨rfl,rfl⟩)
 go_ret
 exact⟨rfl,rfl⟩
theorem Eh (x k:Nat)(h:x<2^k):Rf.mf x<=k:=by
 unfold Rf.mf;split
 ·omega
 ·next h0 =>
  have:=(Nat.log2_lt h0 (k:=k)).2 h;omega
theorem M4 (l:Nat)(w:World)(h1:3<=l)(h2:l<=258): Calls Tryz.prog 228 #[.int .i64 l] w fun e w'=>e=.returned (.int .i64 ((257+Rf.fX l:Nat):Int))/\w'=w:=by
 by_cases h:l=258
 ·subst h
  go_enter Tryz.func228,Tryz.ntmps228
  go_wp2
  go_ret
  exact⟨rfl,rfl⟩
 ·have hb:=Eh (l-3) 8 (by omega);have e0:((l:Int)-3).toNat=l-3:=by omega
  have hl:(l:Int)≠258:=by omega
  have hlen:=fun w=>JH ((l:Int)-3) w (by omega) (by omega);rw[e0]at hlen;have HX:Hid (Rf.fX l=4*(Rf.mf (l-3)-3)+(l-3)/2^(Rf.mf (l-3)-3)):=by show _=_;rw[Rf.fX,if_neg h]
  generalize Rf.mf (l-3)=b at *;by_cases hb3:b<3
  ·have m1:max ((b:Int)-3) 0=0:=by omega
   go_enter Tryz.func228,Tryz.ntmps228
   go_wp2_with (go_at_call 241;refine (hlen _).mono ?_;rintro e w' ⟨rfl,rfl⟩)
   go_ret
   refine⟨aH ?_,rfl⟩;rw[HX.out,show b-3=0 by omega];simp only[Nat.pow_zero,Nat.div_one];omega
  ·have m1:max ((b:Int)-3) 0=(b:Int)-3:=by omega
   have m2:((b:Int)-3).toNat=b-3:=by omega
   have m3:(0:Int)<=(b:Int)-3:=by omega
   have hq:((l:Int)-3)/2^(b-3)=(((l-3)/2^(b-3):Nat):Int):=by
    rw[show (l:Int)-3=((l-3:Nat):Int) by omega];simp
   have hq2:(l-3)/2^(b-3)<=258:=by have:=Nat.div_le_self (l-3) (2^(b-3));omega
   generalize (l-3)/2^(b-3)=q at *
   go_enter Tryz.func228,Tryz.ntmps228
   go_wp2_with (go_at_call 241;refine (hlen _).mono ?_;rintro e w' ⟨rfl,rfl⟩)
   go_ret
   refine⟨aH ?_,rfl⟩;rw[HX.out];omega
theorem M5 (d:Nat)(w:World)(h1:1<=d)(h2:d<=32768): Calls Tryz.prog 229 #[.int .i64 d] w fun e w'=>e=.returned (.int .i64 (Rf.ic d:Nat))/\w'=w:=by
 have hb:=Eh (d-1) 15 (by omega);have e0:((d:Int)-1).toNat=d-1:=by omega
 have hlen:=fun w=>JH ((d:Int)-1) w (by omega) (by omega);rw[e0]at hlen;have HX:Hid (Rf.ic d=2*(Rf.mf (d-1)-2)+(d-1)/2^(Rf.mf (d-1)-2)):=rfl;generalize Rf.mf (d-1)=b at *;by_cases hb3:b<2
 ·have m1:max ((b:Int)-2) 0=0:=by omega
  go_enter Tryz.func229,Tryz.ntmps229
  go_wp2_with (go_at_call 241;refine (hlen _).mono ?_;rintro e w' ⟨rfl,rfl⟩)
  go_ret
  refine⟨aH ?_,rfl⟩;rw[HX.out,show b-2=0 by omega];simp only[Nat.pow_zero,Nat.div_one];omega
 ·have m1:max ((b:Int)-2) 0=(b:Int)-2:=by omega
  have m2:((b:Int)-2).toNat=b-2:=by omega
  have m3:(0:Int)<=(b:Int)-2:=by omega
  have hq:((d:Int)-1)/2^(b-2)=(((d-1)/2^(b-2):Nat):Int):=by
   rw[show (d:Int)-1=((d-1:Nat):Int) by omega];simp
  have hq2:(d-1)/2^(b-2)<=32768:=by have:=Nat.div_le_self (d-1) (2^(b-2));omega
  generalize (d-1)/2^(b-2)=q at *
  go_enter Tryz.func229,Tryz.ntmps229
  go_wp2_with (go_at_call 241;refine (hlen _).mono ?_;rintro e w' ⟨rfl,rfl⟩)
  go_ret
  refine⟨aH ?_,rfl⟩;rw[HX.out];omega
theorem M6:∀i:Fin 29,lb ((257+i.val:Nat):Int)=(Rf.dy i.val:Int)/\vF ((257+i.val:Nat):Int)=Rf.lb i.val:=by decide +kernel
theorem M7:∀i:Fin 30,db ((i.val:Nat):Int)=(Rf.cY i.val:Int)/\de ((i.val:Nat):Int)=Rf.db i.val:=by decide +kernel
theorem Pr (i:Nat)(h:i<=28):lb ((257+i:Nat):Int)=(Rf.dy i:Int)/\vF ((257+i:Nat):Int)=Rf.lb i:=M6 ⟨i,by omega⟩
theorem Pt (i:Nat)(h:i<=29):db ((i:Nat):Int)=(Rf.cY i:Int)/\de ((i:Nat):Int)=Rf.db i:=M7 ⟨i,by omega⟩
theorem Co (i:Nat)(h:i<=28):Rf.lb i<=5:=by
 have:∀i:Fin 29,Rf.lb i.val<=5:=by decide +kernel
 exact this ⟨i,by omega⟩
theorem Cp (i:Nat)(h:i<=29):Rf.db i<=13:=by
 have:∀i:Fin 30,Rf.db i.val<=13:=by decide +kernel
 exact this ⟨i,by omega⟩
abbrev Tok:=Bool×Nat×Nat×Nat
def dk (T:List UInt8)(p:Nat)(s:Nat×Nat):List Tok :=
 if s.2=0 then [(false,(T.getD p 0).toNat,0,0)]
 else [(false,257+Rf.fX s.1,s.1-Rf.dy (Rf.fX s.1),Rf.lb (Rf.fX s.1)),(true,Rf.ic s.2,s.2-Rf.cY (Rf.ic s.2),Rf.db (Rf.ic s.2))]
def aq (T:List UInt8):Nat->List (Nat×Nat)->List Tok
 | _,[]=>[(false,256,0,0)]
 | p,s::r=>dk T p s++aq T (p+s.1) r
def dm (n:Nat):Nat->List (Nat×Nat)->Prop
 | p,[]=>p<=n
 | p,s::r=>((s.2=0/\s.1=1/\p<n)\/(3<=s.1/\s.1<=258/\1<=s.2/\s.2<=32768/\p+s.1<=n))/\dm n (p+s.1) r
theorem dm.length {n:Nat}:∀{p:Nat} {steps:List (Nat×Nat)},dm n p steps->p+steps.length<=n
 | _,[],h=>h
 | p,s::r,⟨h1,h2⟩=>by
  have:=dm.length h2;rw[List.length_cons];omega
theorem jL (T:List UInt8):∀(steps:List (Nat×Nat)) (p:Nat),(aq T p steps).length<=2*steps.length+1
 | [],_=>Nat.le_refl _
 | s::r,p=>by
  have:=jL T r (p+s.1);rw[aq,List.length_append,List.length_cons];have:(dk T p s).length<=2:=by unfold dk;split<;>simp
  omega
structure Kh (H:Nat) (w w':World):Prop where
 size:w.heap.size<=w'.heap.size
 block:∀k,H<=k->k<w.heap.size->(∀c fr,w.heap[k]?≠some (.cells c 5 fr))->w'.heap[k]?=w.heap[k]?
theorem Kh.cells {H:Nat}{w w':World}(h:Kh H w w'){k:Nat}(hk:H<=k){cs:Array Value}{t:TypeId}(hb:w.heap[k]?=some (.cells cs t (0,0)))(ht:t≠5):w'.heap[k]?=some (.cells cs t (0,0)):=by
 refine (h.block k hk (lt_of_block hb) (fun c fr e=>?_)).trans hb;rw[hb]at e;simp at e;exact ht e.2.1
def mM (t:Tok):Prop:=t.2.1<=(if t.1 then 29 else 285)/\t.2.2.1<2^t.2.2.2/\t.2.2.2<=13
structure xH (k1 k2:Nat) (eG jy:Array Value) (H:Nat) (sv:Value) (steps:List (Nat×Nat)) (I:World->List Tok->Prop):Prop where
 sym:∀w ts n x k,I w ts->ts.length<200000->mM (false,n,x,k)->Calls Tryz.prog k1 (#[.int .i64 n,.int .i64 x,.int .i64 k]++eG) w fun e w'=>e=.returned (.tuple #[])/\I w' (ts++[(false,n,x,k)])/\Kh H w w'
 dist:∀w ts n x k,I w ts->ts.length<200000->mM (true,n,x,k)->Calls Tryz.prog k2 (#[.int .i64 n,.int .i64 x,.int .i64 k]++jy) w fun e w'=>e=.returned (.tuple #[])/\I w' (ts++[(true,n,x,k)])/\Kh H w w'
 U8:∀args w,(callFunc k1 args).run Tryz.prog w=.ok (.enter k1 args) w
 U9:∀args w,(callFunc k2 args).run Tryz.prog w=.ok (.enter k2 args) w
 alloc:∀w ts cs t,I w ts->t≠5->I (w.alloc (.cells cs t)) ts
 drew:∀w ts n,I w ts->I (w.drewN n) ts
 rows:∀w ts,I w ts->steps≠[]->∃SB cap,sv=.slice (some ⟨SB,0,none⟩) steps.length cap/\jJ w SB 216 steps.length (fun j=>(.int .i64 (steps.getD j (0,0)).1,.int .i64 (steps.getD j (0,0)).2))
 small:∀w ts,I w ts->H<=w.heap.size
theorem zV (k1 k2:Nat)(eG jy:Array Value)(H:Nat)(ao:Option Addr)(cap:Nat)(s:ByteArray)(steps:List (Nat×Nat))(I:World->List Tok->Prop)(w:World)(hd:xH k1 k2 eG jy H (.slice ao steps.length cap) steps I)(hI:I w [])(hs:s.size<=65535)(hok:dm s.size 0 steps): Calls Tryz.prog 211 #[.string s,.slice ao steps.length cap,.agg #[.func (.func k1) #[] eG,.func (.func k2) #[] jy]] w fun e w'=>e=.returned (.tuple #[])/\I w' (aq s.data.toList 0 steps):=by
 have hsl:=hok.length;have hc1:=hd.U8;have hc2:=hd.U9;have hI0:=hd.alloc w [] #[.func (.func k1) #[] eG,.func (.func k2) #[] jy] 243 hI (by decide);have hH:=hd.small w [] hI
 go_enter Tryz.func211,Tryz.ntmps211
 go_wp2
 go_loopw [6,17] (fun pl ix wr=>∃(i p:Nat) (ts:List Tok),i<=steps.length/\ix=.int .i64 i/\pl=.int .i64 p/\p<=s.size/\Hid (dm s.size p (steps.drop i))/\Hid (ts++aq s.data.toList p (steps.drop i)=aq s.data.toList 0 steps)/\Hid (I wr ts) /\
   Hid (wr.heap[w.heap.size]?=some (.cells #[.func (.func k1) #[] eG,.func (.func k2) #[] jy] 243 (0,0)))) (fun _ ix _=>steps.length-(intOf ix).toNat)
 case atStart=>exact⟨0,0,[],Nat.zero_le _,rfl,rfl,Nat.zero_le _,hok,rfl,hI0,ah _ _⟩
 case round =>
  clear hI hI0;obtain⟨i,p,ts,hi,rfl,rfl,hp,HO,HT,HI,HB⟩:=hrel
  have Re:Hid (ts.length+(aq s.data.toList p (steps.drop i)).length<=131071):=by
   show _<=_;have a:=congrArg List.length HT.out;rw[List.length_append]at a;have b:=jL s.data.toList steps 0;omega
  by_cases hlt:i<steps.length
  ·obtain⟨SB,cap',hsv,hrow⟩:=hd.rows wr ts HI.out (ne_of_lt hlt);simp only[Value.slice.injEq,true_and]at hsv;obtain⟨rfl,rfl⟩:=hsv;obtain⟨x0,x1⟩:=hrow.cell i hlt;have Va:=hrow.lt;obtain⟨c0,c1,fz,Jf⟩:=c8 HB.out;have Zz:=hd.small wr ts HI.out
   have hdr:steps.drop i=steps.getD i (0,0)::steps.drop (i+1):=by
    rw[List.drop_eq_getElem_cons hlt,List.getD_eq_getElem?_getD,List.getElem?_eq_getElem hlt];rfl
   rw[hdr]at HO HT Re;generalize steps.getD i (0,0)=st at *;obtain⟨l,d⟩:=st;have HOk:=HO.out;obtain⟨hst,hrest⟩:=HOk;have HR:Hid (dm _ _ _):=hrest;have afl:Hid (jJ _ _ _ _ _):=hrow;simp only at x0 x1 hst HR;clear hdr hrow hrest HO;rcases hst with⟨rfl,rfl,hpn⟩|⟨g1,g2,g3,g4,g5⟩
   ·have hbyte:(s[p]).toNat<=255:=by have:=UInt8.toNat_lt s[p];omega
    have hcall:=fun u (h:I u ts)=>hd.sym u ts s[p].toNat 0 0 h (by have:=Re.out;omega) ⟨by show s[p].toNat<=285;omega,Nat.one_pos,Nat.zero_le _⟩;have hwr:IntKind.i64.wrap (s[p].toNat:Int)=(s[p].toNat:Int):=IntWalk.i64_in _ (by omega);have hI1:=hd.alloc wr ts #[.int .i64 1,.int .i64 0] 216 HI.out (by decide);have hI2:=fun n=>hd.drew _ ts n hI1
    have HT2:Hid ((ts++[(false,s[p].toNat,0,0)])++aq s.data.toList (p+1) (steps.drop (i+1))=aq s.data.toList 0 steps):=by
     show _=_;rw[<-HT.out,aq,dk,if_pos rfl,List.append_assoc]
     congr 4
     have:s.data.toList.getD p 0=s[p]:=by
      have ZA:p<s.data.toList.length:=by simpa using hpn
      rw[List.getD_eq_getElem?_getD,List.getElem?_eq_getElem ZA];rfl
     rw[this]
    have oD:(wr.alloc (.cells #[.int .i64 ((1:Nat):Int),.int .i64 ((0:Nat):Int)] 216)).heap[w.heap.size]?=some (.cells #[.func (.func k1) #[] eG,.func (.func k2) #[] jy] 243 (0,0)):=am HB.out _;have hsb:(wr.alloc (.cells #[.int .i64 ((1:Nat):Int),.int .i64 ((0:Nat):Int)] 216)).heap[wr.heap.size]?=some (.cells #[.int .i64 ((1:Nat):Int),.int .i64 ((0:Nat):Int)] 216 (0,0)):=ah _ _;have MG:Hid (_/\_):=⟨oD,hsb⟩
    have HI1:Hid (_/\_):=⟨hI1,hI2⟩
    clear oD hsb HI HB HT hI1 hI2;go_wp2
    go_region_with ((refine (hcall _ ?_).mono ?_;exact HI1.out.2 1;rintro e w1 ⟨rfl,Rg,hk3⟩))
    all_goals
     have hs1:=hk3.cells (k:=wr.heap.size) Zz MG.out.2 (by decide);have hb1:=hk3.cells (k:=w.heap.size) hH MG.out.1 (by decide);obtain⟨y0,y1,fy,hlty⟩:=c8 hs1;have HB1:Hid (w1.heap[w.heap.size]?=_):=hb1;have HI3:Hid (I _ _):=Rg;clear hs1 hb1 hk3 Rg MG HI1 hcall;go_wp2
     go_roundw
     case rel=>exact⟨i+1,p+1,_,by omega,by go_num,by go_num,by omega,HR,HT2,HI3,HB1⟩
     case measure=>simp[intOf];omega
   ·obtain⟨l1,l2,l3⟩:=Rf.s8 l g1 g2;obtain⟨d1,d2,d3⟩:=Rf.tj d g3 g4;have hq1:=fun u=>M4 l u g1 g2;have hq2:=fun u=>M5 d u g3 g4
    have hq3:∀u,Calls Tryz.prog 164 #[.int .i64 ((257+Rf.fX l:Nat):Int)] u fun e w'=>e=.returned (.tuple #[.int .i64 (Rf.dy (Rf.fX l):Nat),.int .i64 (Rf.lb (Rf.fX l):Nat)])/\w'=u:=fun u=>by
     have:=IZ ((257+Rf.fX l:Nat):Int) u (by omega) (by omega);rw[(Pr _ l1).1,(Pr _ l1).2]at this;exact this
    have hq4:∀u,Calls Tryz.prog 165 #[.int .i64 (Rf.ic d:Nat)] u fun e w'=>e=.returned (.tuple #[.int .i64 (Rf.cY (Rf.ic d):Nat),.int .i64 (Rf.db (Rf.ic d):Nat)])/\w'=u:=fun u=>by
     have:=DZ ((Rf.ic d:Nat):Int) u (by omega) (by omega);rw[(Pt _ d1).1,(Pt _ d1).2]at this;exact this
    have hlb:=Co _ l1;have hdb:=Cp _ d1;have ht1:mM (false,257+Rf.fX l,l-Rf.dy (Rf.fX l),Rf.lb (Rf.fX l)):=⟨by show 257+Rf.fX l<=285;omega,l3,by show Rf.lb (Rf.fX l)<=13;omega⟩
    have ht2:mM (true,Rf.ic d,d-Rf.cY (Rf.ic d),Rf.db (Rf.ic d)):=⟨d1,d3,hdb⟩
    have HT2:Hid (((ts++[(false,257+Rf.fX l,l-Rf.dy (Rf.fX l),Rf.lb (Rf.fX l))])++[(true,Rf.ic d,d-Rf.cY (Rf.ic d),Rf.db (Rf.ic d))])++aq s.data.toList (p+l) (steps.drop (i+1))=aq s.data.toList 0 steps):=by
     show _=_;rw[<-HT.out,aq,dk,if_neg (by show ¬d=0;omega)];simp
    have hI1:=hd.alloc wr ts #[.int .i64 l,.int .i64 d] 216 HI.out (by decide);have hI2:=fun n=>hd.drew _ ts n hI1;have JI:=fun u (h:I u ts)=>hd.sym u ts _ _ _ h (by have:=Re.out;omega) ht1
    have JJ:=fun u (h:I u (ts++[(false,257+Rf.fX l,l-Rf.dy (Rf.fX l),Rf.lb (Rf.fX l))]))=>hd.dist u _ _ _ _ h (by
     have:=Re.out;rw[List.length_append,List.length_singleton]
     omega) ht2
    have e1:(l:Int)-(Rf.dy (Rf.fX l):Nat)=((l-Rf.dy (Rf.fX l):Nat):Int):=by omega
    have e2:(d:Int)-(Rf.cY (Rf.ic d):Nat)=((d-Rf.cY (Rf.ic d):Nat):Int):=by omega
    generalize l-Rf.dy (Rf.fX l)=X1 at *;generalize d-Rf.cY (Rf.ic d)=X2 at *;generalize Rf.dy (Rf.fX l)=LB at *;generalize Rf.cY (Rf.ic d)=DB at *;generalize Rf.lb (Rf.fX l)=LN at *;generalize Rf.db (Rf.ic d)=DN at *;obtain⟨SY,hSY⟩:∃SY:Nat,SY=257+Rf.fX l:=⟨_,rfl⟩
    rw[<-hSY]at hq1 hq3 JI JJ HT2;generalize Rf.ic d=DX at *;have MG:Hid (_/\_):=⟨am HB.out (.cells #[.int .i64 (l:Int),.int .i64 (d:Int)] 216),ah wr (.cells #[.int .i64 (l:Int),.int .i64 (d:Int)] 216)⟩
    have HI1:Hid (_/\_):=⟨hI1,hI2⟩
    have afm:¬d=0:=by omega
    have acA:((d:Int)==0)=false:=by simp;omega
    clear l1 l2 l3 d1 d2 d3 ht1 ht2 hSY hlb hdb HI HB HT hI1 hI2;go_wp2
    go_quiet ((first|(go_at_call 228;exact Calls.quiet_of_same (hq1 _))|(go_at_call 229;exact Calls.quiet_of_same (hq2 _))))
    have Rg:=HI1.out.2 nq;have Rh:Hid (_/\_):=MG.out;clear HI1 MG;generalize hw0:((wr.alloc (.cells #[.int .i64 (l:Int),.int .i64 (d:Int)] 216)).drewN nq)=w0 at Rg ⊢;have hbx:w0.heap[w.heap.size]?=some (.cells #[.func (.func k1) #[] eG,.func (.func k2) #[] jy] 243 (0,0)):=by rw[<-hw0];exact Rh.out.1
    have hsx:w0.heap[wr.heap.size]?=some (.cells #[.int .i64 (l:Int),.int .i64 (d:Int)] 216 (0,0)):=by rw[<-hw0];exact Rh.out.2
    obtain⟨y0,y1,fy,Vb⟩:=c8 hsx;obtain⟨z0,z1,ZB,hlz⟩:=c8 hbx;clear Rh hw0 c0 c1 fz Jf x0 x1 hq1 hq2;go_wp2_with fail;refine (hq3 _).mono ?_;rintro e w' ⟨rfl,rfl⟩;go_wp2_with fail;refine (hq4 _).mono ?_;rintro e w'' ⟨rfl,rfl⟩;go_wp2_with fail;refine (JI _ Rg).mono ?_;rintro e w1 ⟨rfl,Ym,hk4⟩;have hs1:=hk4.cells (k:=wr.heap.size) Zz hsx (by decide);have hb1:=hk4.cells (k:=w.heap.size) hH hbx (by decide);clear y0 y1 fy Vb z0 z1 ZB hlz hsx hbx hk4 Rg hq3 hq4;obtain⟨y0,y1,fy,Vb⟩:=c8 hs1;obtain⟨z0,z1,ZB,hlz⟩:=c8 hb1;go_wp2_with fail;refine (JJ _ Ym).mono ?_;rintro e w2 ⟨rfl,hI5,hk5⟩;have hs2:=hk5.cells (k:=wr.heap.size) Zz hs1 (by decide);have hb2:=hk5.cells (k:=w.heap.size) hH hb1 (by decide);clear y0 y1 fy Vb z0 z1 ZB hlz hs1 hb1 hk5 Ym;obtain⟨y0,y1,fy,Vb⟩:=c8 hs2;have HB2:Hid (w2.heap[w.heap.size]?=_):=hb2;have HI5:Hid (I _ _):=hI5;clear hb2 hs2 hI5;go_wp2
    go_roundw
    case rel=>exact⟨i+1,p+l,_,by omega,by go_num,by go_num,by omega,HR,HT2,HI5,HB2⟩
    case measure=>simp[intOf];omega
  ·obtain⟨c0,c1,fz,Jf⟩:=c8 HB.out;have e:i=steps.length:=by omega
   subst e;have HT2:=HT.out;rw[List.drop_length,aq]at HT2;have HT3:Hid (_=_):=HT2;have hcall:=hd.sym wr ts 256 0 0 HI.out (by have:=Re.out;omega) ⟨by decide,Nat.one_pos,Nat.zero_le _⟩;clear HT HT2 HO;go_wp2_with fail;refine hcall.mono ?_;rintro e w1 ⟨rfl,Ym,hk4⟩;go_wp2
   go_end0
   exact⟨rfl,by rw[<-HT3.out];exact Ym⟩
def aA (ls ds:List Int)(ts:List Tok):List Int:=ts.flatMap (fun t=>Rf.bd (if t.1 then ds else ls) t.2.1++Rf.nb t.2.2.1 t.2.2.2)
theorem pB (ls ds:List Int)(ts:List Tok)(t:Tok):aA ls ds (ts++[t])=aA ls ds ts++(Rf.bd (if t.1 then ds else ls) t.2.1++Rf.nb t.2.2.1 t.2.2.2):=by simp[aA]
def Steps (w:World)(sv:Value)(steps:List (Nat×Nat))(B:Nat):Prop :=
 (∃ao cap,sv=.slice ao steps.length cap)/\(steps≠[]->∃SB cap,sv=.slice (some ⟨SB,0,none⟩) steps.length cap/\SB≠B/\jJ w SB 216 steps.length (fun j=>(.int .i64 (steps.getD j (0,0)).1,.int .i64 (steps.getD j (0,0)).2)))
theorem Steps.fr {w w':World}{sv:Value}{steps:List (Nat×Nat)}{B:Nat}(h:Steps w sv steps B)(k:Fr B w w'):Steps w' sv steps B :=
 ⟨h.1,fun hn=>by
  obtain⟨SB,cap,h1,h2,h3⟩:=h.2 hn;refine⟨SB,cap,h1,h2,?_⟩;obtain⟨cs,c1,c2⟩:=h3
  exact⟨cs,(k.kept h2 c1 (by decide)).trans c1,c2⟩⟩
theorem Steps.below {w w':World}{sv:Value}{steps:List (Nat×Nat)}{B:Nat}(h:Steps w sv steps B)(k:Below w.heap.size w w'):Steps w' sv steps B :=
 ⟨h.1,fun hn=>by
  obtain⟨SB,cap,h1,h2,h3⟩:=h.2 hn
  exact⟨SB,cap,h1,h2,h3.kept (k.block _ h3.lt)⟩⟩
theorem aB.alloc {w:World}{B:Nat}{W:List Int}(h:aB w B W)(o:Obj):aB (w.alloc o) B W:=by obtain⟨pv,P,h⟩:=h;exact⟨pv,P,h.alloc o⟩
theorem aB.drewN {w:World}{B:Nat}{W:List Int}(h:aB w B W)(n:Nat):aB (w.drewN n) B W:=by obtain⟨pv,P,h⟩:=h;exact⟨pv,P,h.drewN n⟩
theorem aB.lt {w:World}{B:Nat}{W:List Int}(h:aB w B W):B<w.heap.size:=by obtain⟨pv,P,h⟩:=h;exact h.lt
theorem aB.below {w w':World}{B:Nat}{W:List Int}(h:aB w B W)(k:Below w.heap.size w w'):aB w' B W:=by obtain⟨pv,P,h⟩:=h;exact⟨pv,P,h.kept (fun j _ hj=>k.block j hj)⟩
theorem Fr.alloc {B:Nat}{a w:World}(h:Fr B a w)(hB:B<a.heap.size)(o:Obj):Fr B a (w.alloc o) :=
 h.trans ⟨(Below.refl _ _).alloc (by have:=h.below.size;omega) _,fun k _ hk _=>Below.heap_alloc _ _ _ hk⟩
theorem Fr.kh {B H:Nat}{w w':World}(h:Fr B w w')(hB:B<H):Kh H w w':=⟨h.below.size,fun k h1 h2 h3=>h.other k (by omega) h2 h3⟩
structure Gc (B:Nat) (W:List Int) (ls ds:List Int) (va vb sv:Value) (steps:List (Nat×Nat)) (w0:World) (w:World) (ts:List Tok):Prop where
 wr:aB w B (W++aA ls ds ts)
 c1:fm w va B ls 0
 c2:fm w vb B ds 0
 fr:Fr B w0 w
 st:Steps w sv steps B
 len:(aA ls ds ts).length<=28*ts.length
theorem Gc.step {B:Nat}{W ls ds:List Int}{va vb sv:Value}{steps:List (Nat×Nat)}{w0 w w':World}{ts:List Tok}{t:Tok}(h:Gc B W ls ds va vb sv steps w0 w ts)(hk:t.2.2.2<=13)(hw:aB w' B ((W++aA ls ds ts)++(Rf.bd (if t.1 then ds else ls) t.2.1++xF t.2.2.1 t.2.2.2)))(hf:Fr B w w'):Gc B W ls ds va vb sv steps w0 w' (ts++[t]):=by
 refine⟨by rw[pB,<-List.append_assoc,<-fC];exact hw,h.c1.fr hf,h.c2.fr hf,h.fr.trans hf,h.st.fr hf,?_⟩;rw[pB,List.length_append,List.length_append,List.length_append,Rf.cu,Rf.aC,List.length_singleton];have a:=h.len
 have b:(((if t.1 then ds else ls):List Int).getD t.2.1 0).toNat<=15:=by
  split
  ·have:=(h.c2.Pq t.2.1).2;omega
  ·have:=(h.c1.Pq t.2.1).2;omega
 omega
theorem Gd (B:Nat)(W ls ds:List Int)(va vb:Value)(ao:Option Addr)(cap:Nat)(steps:List (Nat×Nat))(w0:World)(hW:W.length<=100000000)(hl:286<=ls.length)(hd:30<=ds.length)(h0:Gc B W ls ds va vb (.slice ao steps.length cap) steps w0 w0 []): ∃c1 c2,va=.func (.func 243) #[] c1/\vb=.func (.func 243) #[] c2 /\ xH 243 243 c1 c2 w0.heap.size (.slice ao steps.length cap) steps (Gc B W ls ds va vb (.slice ao steps.length cap) steps w0):=by
 obtain⟨WB1,Lb1,C1,e1,_⟩:=h0.c1.val;obtain⟨WB2,Lb2,C2,e2,_⟩:=h0.c2.val;have hB:=h0.wr.lt;refine⟨_,_,e1,e2,⟨?_,?_,xG,xG,?_,?_,?_,?_⟩⟩
 ·intro w ts n x k h hts hok;obtain⟨WB,Lb,C,e,b1,b2,n1,_⟩:=h.c1.val;rw[e1]at e;simp at e;obtain⟨rfl,rfl⟩:=e;have hlen:=h.len;have hn:n<=285:=hok.1;refine (tv n x k WB1 Lb1 C ls B (W++aA ls ds ts) w b1 b2 n1 h.c1.Pq h.wr (by omega) (by have:=hok.2.2;simp only at this;omega) (by rw[List.length_append];omega)).mono ?_;rintro e w' ⟨rfl,hw',hf'⟩;exact⟨rfl,h.step (t:=(false,n,x,k)) hok.2.2 hw' hf',hf'.kh hB⟩
 ·intro w ts n x k h hts hok;obtain⟨WB,Lb,C,e,b1,b2,n1,_⟩:=h.c2.val;rw[e2]at e;simp at e;obtain⟨rfl,rfl⟩:=e;have hlen:=h.len;have hn:n<=29:=hok.1;refine (tv n x k WB2 Lb2 C ds B (W++aA ls ds ts) w b1 b2 n1 h.c2.Pq h.wr (by omega) (by have:=hok.2.2;simp only at this;omega) (by rw[List.length_append];omega)).mono ?_;rintro e w' ⟨rfl,hw',hf'⟩;exact⟨rfl,h.step (t:=(true,n,x,k)) hok.2.2 hw' hf',hf'.kh hB⟩
 ·intro w ts cs t h _;exact⟨h.wr.alloc _,h.c1.below (ae _ _),h.c2.below (ae _ _),h.fr.alloc hB _,h.st.below (ae _ _),h.len⟩
 ·intro w ts n h;have hb:Below w.heap.size w (w.drewN n):=below_drewN (Below.refl _ _) n;exact⟨h.wr.drewN n,h.c1.below hb,h.c2.below hb,h.fr.drewN n,h.st.below hb,h.len⟩
 ·intro w ts h hn;obtain⟨SB,cap',q1,_,q3⟩:=h.st.2 hn;exact⟨SB,cap',q1,q3⟩
 ·intro w ts h;exact h.fr.below.size
theorem M8 (w:World)(T:Nat)(a b:Value):Kp (·=T) w ((w.setCell ⟨T,0,none⟩ a).setCell ⟨T,1,none⟩ b) :=
 ((Kp.refl (·=T) w).setCell (p:=⟨T,0,none⟩) (.inl rfl) a).setCell (p:=⟨T,1,none⟩) (.inl rfl) b
theorem zW (B:Nat)(ls ds:List Int)(a1 a2:Option Addr)(p1 p2 N1 N2:Nat)(w:World)(hN1:ls.length=N1)(ZC:ds.length=N2)(l1:N1<=320)(l2:N2<=320)(i1:Ints w a1 ls)(i2:Ints w a2 ds)(b1:∀a,a1=some a->ls≠[]->a.block<w.heap.size)(b2:∀a,a2=some a->ds≠[]->a.block<w.heap.size)(w1:∀j,0<=ls.getD j 0/\ls.getD j 0<=15)(w2:∀j,0<=ds.getD j 0/\ds.getD j 0<=15)(f1:Rf.fs ls ls.length<=32768)(f2:Rf.fs ds ds.length<=32768)(hB:B<w.heap.size): Calls Tryz.prog 216 #[.pointer (some ⟨B,0,none⟩),.slice a1 N1 p1,.slice a2 N2 p2] w fun e w'=>∃va vb,e=.returned (.agg #[va,vb])/\fm w' va B ls w.heap.size/\fm w' vb B ds w.heap.size/\Below w.heap.size w w':=by
 go_enter Tryz.func216,Tryz.ntmps216
 go_wp2_with fail;have k0:=ae w (.cells #[.nilFunc,.nilFunc] 243);refine (jK B a1 p1 ls N1 _ hN1 l1 (i1.below k0 b1) (fun a e h=>by have:=b1 a e h;simp;omega) w1 f1 (by simp;omega)).mono ?_;rintro e u1 ⟨va,rfl,TN,k1⟩;have s1:=k1.size;rw[World.size_alloc]at s1;have ZD:=k0.trans (k1.mono (by simp));go_wp2_with fail;refine (jK B a2 p2 ds N2 _ ZC l2 (i2.below ZD b2) (fun a e h=>by have:=b2 a e h;omega) w2 f2 (by omega)).mono ?_;rintro e u2 ⟨vb,rfl,Ri,k2⟩;have hr:u2.heap[w.heap.size]?=some (.cells #[.nilFunc,.nilFunc] 243 (0,0)):=(k2.block _ (by omega)).trans ((k1.block _ (by simp)).trans (ah w _));obtain⟨y0,y1,fy,Vb⟩:=c8 hr;have Rj:=TN.below k2;obtain⟨P1,Q1,_,e1,_⟩:=Rj.val;obtain⟨P2,Q2,_,e2,_⟩:=Ri.val;have hkk:Below w.heap.size w u2:=ZD.trans (k2.mono (by omega));have HD:Hid (_/\_/\_):=⟨Rj,Ri,hkk⟩
 have hu2:=hkk.size;clear TN Rj Ri k0 k1 k2 ZD hkk;subst e1 e2;go_wp2;have HS:=M8 u2 w.heap.size (.func (.func 243) #[] #[.pointer (some ⟨P1,0,none⟩),.pointer (some ⟨Q1,0,none⟩)]) (.func (.func 243) #[] #[.pointer (some ⟨P2,0,none⟩),.pointer (some ⟨Q2,0,none⟩)]);refine bodyPost_ret (v:=.agg #[.func (.func 243) #[] #[.pointer (some ⟨P1,0,none⟩),.pointer (some ⟨Q1,0,none⟩)],.func (.func 243) #[] #[.pointer (some ⟨P2,0,none⟩),.pointer (some ⟨Q2,0,none⟩)]]) (by simp[results,Tryz.results216,go_sem,y0,y1]) rfl ⟨_,_,rfl,?_,?_,?_⟩
 ·exact (HD.out.1.kept HS (fun j hj=>by rw[hj,World.size_alloc];omega)).weak (by rw[World.size_alloc];omega)
 ·exact (HD.out.2.1.kept HS (fun j hj=>by rw[hj];omega)).weak (by omega)
 ·exact HD.out.2.2.trans (HS.below (by omega) (fun k _ hk=>by omega))
theorem l7 (B:Nat)(W ls ds:List Int)(va vb:Value)(ao:Option Addr)(cap:Nat)(s:ByteArray)(steps:List (Nat×Nat))(w:World)(hW:W.length<=100000000)(hl:286<=ls.length)(hd:30<=ds.length)(hw:aB w B W)(c1:fm w va B ls 0)(c2:fm w vb B ds 0)(hst:Steps w (.slice ao steps.length cap) steps B)(hs:s.size<=65535)(hok:dm s.size 0 steps): Calls Tryz.prog 211 #[.string s,.slice ao steps.length cap,.agg #[va,vb]] w fun e w'=>e=.returned (.tuple #[])/\aB w' B (W++aA ls ds (aq s.data.toList 0 steps))/\Fr B w w':=by
 have h0:Gc B W ls ds va vb (.slice ao steps.length cap) steps w w []:=⟨by simpa[aA]using hw,c1,c2,Fr.refl _ _,hst,by simp[aA]⟩
 obtain⟨q1,q2,rfl,rfl,hdo⟩:=Gd B W ls ds va vb ao cap steps w hW hl hd h0;refine (zV _ _ q1 q2 _ ao cap s steps _ w hdo h0 hs hok).mono ?_;rintro e w' ⟨rfl,h⟩;exact⟨rfl,h.wr,h.fr⟩
def eW (N:Nat)(b:Bool)(ts:List Tok):List Int:=(List.range N).map (fun j=>((ts.countP (fun t=>decide (t.1=b/\t.2.1=j)):Nat):Int))
def aU (ts:List Tok):Nat:=(ts.map (fun t=>t.2.2.2)).sum
theorem eH (N:Nat)(b:Bool)(ts:List Tok):(eW N b ts).length=N:=by simp[eW]
theorem ja (N:Nat)(b:Bool)(ts:List Tok)(j:Nat)(h:j<N):(eW N b ts).getD j 0=((ts.countP (fun t=>decide (t.1=b/\t.2.1=j)):Nat):Int):=by
 unfold eW;rw[List.getD_eq_getElem?_getD,List.getElem?_map,List.getElem?_range h];rfl
theorem gH (N:Nat)(b:Bool)(ts:List Tok)(j:Nat):0<=(eW N b ts).getD j 0/\(eW N b ts).getD j 0<=ts.length:=by
 by_cases h:j<N
 ·rw[ja N b ts j h];have:=List.countP_le_length (p:=fun t:Tok=>decide (t.1=b/\t.2.1=j)) (l:=ts);omega
 ·rw[List.getD_eq_getElem?_getD,List.getElem?_eq_none (by rw[eH];omega)];simp
theorem tw (N:Nat)(b:Bool)(ts:List Tok)(n x k:Nat):eW N b (ts++[(b,n,x,k)])=(eW N b ts).set n ((eW N b ts).getD n 0+1):=by
 apply List.ext_getElem
 ·simp[eW]
 ·intro j h1 h2;have hj:j<N:=by simpa[eW]using h1
  rw[List.getElem_set];by_cases e:n=j
  ·subst e;rw[if_pos rfl,ja N b ts n hj];simp only[eW,List.getElem_map,List.getElem_range,List.countP_append,List.countP_cons,List.countP_nil];simp
  ·rw[if_neg e];simp only[eW,List.getElem_map,List.getElem_range,List.countP_append,List.countP_cons,List.countP_nil];simp[e]
theorem vU (N:Nat)(b c:Bool)(h:c≠b)(ts:List Tok)(n x k:Nat):eW N b (ts++[(c,n,x,k)])=eW N b ts:=by
 unfold eW;refine List.map_congr_left (fun j _=>?_);rw[List.countP_append];simp[h]
theorem iL (ts:List Tok)(t:Tok):aU (ts++[t])=aU ts+t.2.2.2:=by simp[aU]
structure jM (Tb Sy Di:Nat) (sv:Value) (steps:List (Nat×Nat)) (b0:Nat) (w0:World) (w:World) (ts:List Tok):Prop where
 box:w.heap[Tb]?=some (.cells #[.slice (some ⟨Sy,0,none⟩) 286 286,.slice (some ⟨Di,0,none⟩) 30 30,.int .i64 (aU ts:Nat)] 220 (0,0))
 sy:aP w Sy (eW 286 false ts)
 di:aP w Di (eW 30 true ts)
 be:Below b0 w0 w
 st:Steps w sv steps Tb
 ne:Sy≠Di/\Sy≠Tb/\Di≠Tb/\b0<=Sy/\b0<=Di/\b0<=Tb
 ex:aU ts<=13*ts.length
theorem cells3 {w:World}{T:Nat}{a b c:Value}{t:TypeId}(h:w.heap[T]?=some (.cells #[a,b,c] t (0,0))): w.cell? ⟨T,0,none⟩=some a/\w.cell? ⟨T,1,none⟩=some b/\w.cell? ⟨T,2,none⟩=some c/\(∀j,w.frozen? ⟨T,j,none⟩=false)/\T<w.heap.size :=
 ⟨cell_of_row _ _ _ _ _ _ h,cell_of_row _ _ _ _ _ _ h,cell_of_row _ _ _ _ _ _ h,fun j=>frozen_of_row w T j _ _ h,lt_of_block h⟩
theorem Steps.kept {w w':World}{sv:Value}{steps:List (Nat×Nat)}{B b0:Nat}(h:Steps w sv steps B)(k:∀j,j<b0->j<w.heap.size->w'.heap[j]?=w.heap[j]?)(hsv:∀SB cap,sv=.slice (some ⟨SB,0,none⟩) steps.length cap->SB<b0):Steps w' sv steps B :=
 ⟨h.1,fun hn=>by
  obtain⟨SB,cap,h1,h2,h3⟩:=h.2 hn
  exact⟨SB,cap,h1,h2,h3.kept (k _ (hsv SB cap h1) h3.lt)⟩⟩
theorem jM.kp (Tb Sy Di G n:Nat)(hG:G=Sy\/G=Di)(w:World)(u v:Value):Kp (fun j=>j=Tb\/j=Sy\/j=Di) w ((w.setCell ⟨G,n,none⟩ u).setCell ⟨Tb,2,none⟩ v) :=
 ((Kp.refl _ w).setCell (p:=⟨G,n,none⟩) (.inl (by rcases hG with rfl|rfl<;>simp)) u).setCell (p:=⟨Tb,2,none⟩) (.inl (.inl rfl)) v
theorem jM.sym {Tb Sy Di:Nat}{sv:Value}{steps:List (Nat×Nat)}{b0:Nat}{w0 w:World}{ts:List Tok}(h:jM Tb Sy Di sv steps b0 w0 w ts)(n x k:Nat)(hk:k<=13)(hsv:∀SB cap,sv=.slice (some ⟨SB,0,none⟩) steps.length cap->SB<b0): jM Tb Sy Di sv steps b0 w0 ((w.setCell ⟨Sy,n,none⟩ (.int .i64 ((eW 286 false ts).getD n 0+1))).setCell ⟨Tb,2,none⟩ (.int .i64 ((aU ts:Nat)+(k:Int)))) (ts++[(false,n,x,k)]):=by
 obtain⟨n1,n2,n3,n4,n5,n6⟩:=h.ne;have K:=jM.kp Tb Sy Di Sy n (.inl rfl) w (.int .i64 ((eW 286 false ts).getD n 0+1)) (.int .i64 ((aU ts:Nat)+(k:Int)));refine⟨?_,?_,?_,h.be.trans (K.below (by have:=lt_of_block h.box;omega) (fun j _ hj=>by omega)),h.st.kept (fun j hj hl=>K.block j hl (by omega)) hsv,h.ne,by rw[iL,List.length_append];have:=h.ex;simp only[List.length_singleton];omega⟩
 ·refine (heap_setCell_same _ Tb 2 _ _ _ ((Below.heap_setCell w ⟨Sy,n,none⟩ _ Tb (Ne.symm n2)).trans h.box)).trans ?_;rw[iL];simp
 ·rw[tw];exact (Below.heap_setCell _ ⟨Tb,2,none⟩ _ Sy n2).trans (h.sy.set n _)
 ·rw[vU 30 true false (by decide)];exact (Below.heap_setCell _ ⟨Tb,2,none⟩ _ Di n3).trans ((Below.heap_setCell w ⟨Sy,n,none⟩ _ Di (Ne.symm n1)).trans h.di)
theorem jM.dist {Tb Sy Di:Nat}{sv:Value}{steps:List (Nat×Nat)}{b0:Nat}{w0 w:World}{ts:List Tok}(h:jM Tb Sy Di sv steps b0 w0 w ts)(n x k:Nat)(hk:k<=13)(hsv:∀SB cap,sv=.slice (some ⟨SB,0,none⟩) steps.length cap->SB<b0): jM Tb Sy Di sv steps b0 w0 ((w.setCell ⟨Di,n,none⟩ (.int .i64 ((eW 30 true ts).getD n 0+1))).setCell ⟨Tb,2,none⟩ (.int .i64 ((aU ts:Nat)+(k:Int)))) (ts++[(true,n,x,k)]):=by
 obtain⟨n1,n2,n3,n4,n5,n6⟩:=h.ne;have K:=jM.kp Tb Sy Di Di n (.inr rfl) w (.int .i64 ((eW 30 true ts).getD n 0+1)) (.int .i64 ((aU ts:Nat)+(k:Int)));refine⟨?_,?_,?_,h.be.trans (K.below (by have:=lt_of_block h.box;omega) (fun j _ hj=>by omega)),h.st.kept (fun j hj hl=>K.block j hl (by omega)) hsv,h.ne,by rw[iL,List.length_append];have:=h.ex;simp only[List.length_singleton];omega⟩
 ·refine (heap_setCell_same _ Tb 2 _ _ _ ((Below.heap_setCell w ⟨Di,n,none⟩ _ Tb (Ne.symm n3)).trans h.box)).trans ?_;rw[iL];simp
 ·rw[vU 286 false true (by decide)];exact (Below.heap_setCell _ ⟨Tb,2,none⟩ _ Sy n2).trans ((Below.heap_setCell w ⟨Di,n,none⟩ _ Sy n1).trans h.sy)
 ·rw[tw];exact (Below.heap_setCell _ ⟨Tb,2,none⟩ _ Di n3).trans (h.di.set n _)
theorem aP.at_ {w:World}{g:Nat}{zs:List Int}(h:aP w g zs)(j:Nat)(hj:j<zs.length):w.cell? ⟨g,j,none⟩=some (.int .i64 (zs.getD j 0)):=by
 rw[h.cell j hj,List.getD_eq_getElem?_getD,List.getElem?_eq_getElem hj];rfl
theorem M9 (Tb Sy Di:Nat)(sv:Value)(steps:List (Nat×Nat))(b0:Nat)(w0 w:World)(ts:List Tok)(n x k:Nat)(h:jM Tb Sy Di sv steps b0 w0 w ts)(hn:n<286)(hts:ts.length<200000)(hk:k<=13)(hsv:∀SB cap,sv=.slice (some ⟨SB,0,none⟩) steps.length cap->SB<b0): Calls Tryz.prog 212 #[.int .i64 n,.int .i64 x,.int .i64 k,.pointer (some ⟨Tb,0,none⟩)] w fun e w'=>e=.returned (.tuple #[])/\jM Tb Sy Di sv steps b0 w0 w' (ts++[(false,n,x,k)])/\Kp (fun j=>j=Tb\/j=Sy\/j=Di) w w':=by
 obtain⟨c0,c1,c2,fz,hlt⟩:=cells3 h.box;obtain⟨n1,n2,n3,n4,n5,n6⟩:=h.ne;have hr:=gH 286 false ts n;have hcell:=h.sy.at_ n (by rw[eH];exact hn);have hfz:∀j,w.frozen? ⟨Sy,j,none⟩=false:=fun j=>frozen_of_row w Sy j _ _ h.sy;have hex:=h.ex;have Va:=lt_of_block h.sy;have H:=h.sym n x k hk hsv;have K:=jM.kp Tb Sy Di Sy n (.inl rfl) w (.int .i64 ((eW 286 false ts).getD n 0+1)) (.int .i64 ((aU ts:Nat)+(k:Int)));generalize (eW 286 false ts).getD n 0=v at *
 go_enter Tryz.func212,Tryz.ntmps212
 go_wp2
 go_end0
 exact⟨rfl,H,K⟩
theorem Na (Tb Sy Di:Nat)(sv:Value)(steps:List (Nat×Nat))(b0:Nat)(w0 w:World)(ts:List Tok)(n x k:Nat)(h:jM Tb Sy Di sv steps b0 w0 w ts)(hn:n<30)(hts:ts.length<200000)(hk:k<=13)(hsv:∀SB cap,sv=.slice (some ⟨SB,0,none⟩) steps.length cap->SB<b0): Calls Tryz.prog 213 #[.int .i64 n,.int .i64 x,.int .i64 k,.pointer (some ⟨Tb,0,none⟩)] w fun e w'=>e=.returned (.tuple #[])/\jM Tb Sy Di sv steps b0 w0 w' (ts++[(true,n,x,k)])/\Kp (fun j=>j=Tb\/j=Sy\/j=Di) w w':=by
 obtain⟨c0,c1,c2,fz,hlt⟩:=cells3 h.box;obtain⟨n1,n2,n3,n4,n5,n6⟩:=h.ne;have hr:=gH 30 true ts n;have hcell:=h.di.at_ n (by rw[eH];exact hn);have hfz:∀j,w.frozen? ⟨Di,j,none⟩=false:=fun j=>frozen_of_row w Di j _ _ h.di;have hex:=h.ex;have Va:=lt_of_block h.di;have H:=h.dist n x k hk hsv;have K:=jM.kp Tb Sy Di Di n (.inr rfl) w (.int .i64 ((eW 30 true ts).getD n 0+1)) (.int .i64 ((aU ts:Nat)+(k:Int)));generalize (eW 30 true ts).getD n 0=v at *
 go_enter Tryz.func213,Tryz.ntmps213
 go_wp2
 go_end0
 exact⟨rfl,H,K⟩
theorem Rk (args:Array Value)(w:World):(callFunc 212 args).run Tryz.prog w=.ok (.enter 212 args) w:=by kernel_rfl
theorem Rl (args:Array Value)(w:World):(callFunc 213 args).run Tryz.prog w=.ok (.enter 213 args) w:=by kernel_rfl
theorem Pu {S:Nat->Prop}{w w':World}{H:Nat}(k:Kp S w w')(hS:∀j,S j->j<H):Kh H w w':=⟨k.size,fun j h1 h2 _=>k.block j h2 (fun h=>by have:=hS j h;omega)⟩
theorem Ge (Tb Sy Di:Nat)(ao:Option Addr)(cap:Nat)(steps:List (Nat×Nat))(b0 H:Nat)(w0 w:World)(h:jM Tb Sy Di (.slice ao steps.length cap) steps b0 w0 w [])(hH:H=w.heap.size)(hsv:∀SB cap',Value.slice ao steps.length cap=.slice (some ⟨SB,0,none⟩) steps.length cap'->SB<b0): xH 212 213 #[.pointer (some ⟨Tb,0,none⟩)] #[.pointer (some ⟨Tb,0,none⟩)] H (.slice ao steps.length cap) steps (fun u ts=>jM Tb Sy Di (.slice ao steps.length cap) steps b0 w0 u ts/\H<=u.heap.size):=by
 have l1:=lt_of_block h.box;have l2:=lt_of_block h.sy;have l3:=lt_of_block h.di;refine⟨?_,?_,Rk,Rl,?_,?_,?_,fun u ts h=>h.2⟩
 ·rintro u ts n x k ⟨h,hu⟩ hts hok;refine (M9 Tb Sy Di _ steps b0 w0 u ts n x k h (by have:n<=285:=hok.1;omega) hts hok.2.2 hsv).mono ?_;rintro e u' ⟨rfl,h',k'⟩;exact⟨rfl,⟨h',by have:=k'.size;omega⟩,Pu k' (fun j hj=>by omega)⟩
 ·rintro u ts n x k ⟨h,hu⟩ hts hok;refine (Na Tb Sy Di _ steps b0 w0 u ts n x k h (by have:n<=29:=hok.1;omega) hts hok.2.2 hsv).mono ?_;rintro e u' ⟨rfl,h',k'⟩;exact⟨rfl,⟨h',by have:=k'.size;omega⟩,Pu k' (fun j hj=>by omega)⟩
 ·rintro u ts cs t ⟨h,hu⟩ _;have hb:=ae u (.cells cs t);exact⟨⟨am h.box _,am h.sy _,am h.di _,h.be.trans (hb.mono (by have:=lt_of_block h.box;have:=h.ne;omega)),h.st.below hb,h.ne,h.ex⟩,by simp;omega⟩
 ·rintro u ts n ⟨h,hu⟩;have hb:Below u.heap.size u (u.drewN n):=below_drewN (Below.refl _ _) n;exact⟨⟨h.box,h.sy,h.di,h.be.trans (hb.mono (by have:=lt_of_block h.box;have:=h.ne;omega)),h.st.below hb,h.ne,h.ex⟩,hu⟩
 ·rintro u ts ⟨h,hu⟩ hn;obtain⟨SB,cap',q1,_,q3⟩:=h.st.2 hn;exact⟨SB,cap',q1,q3⟩
end Go.Proofs.YtmfijackgekioaaGreatDoor
