import Derived.Test.YtmfijackgekioabGreatDoorQ06
import Derived.Test.YtmfijackgekioabGreatDoorQ14
import Derived.Lib.Strings
import Derived.Lib.Small
import Derived.Lib.Walk
import Derived.Lib.BitFns
import Derived.Laws.EntriesVeiled
set_option maxHeartbeats 4000000
set_option maxRecDepth 100000
namespace Go.Proofs.YtmfijackgekioabGreatDoor
open Go.RowKit
theorem rU (x:Nat)(h:x<2^64):Lib.bitLen x=Rf.mJ x:=by
 induction x using Nat.strongRecOn with
 | _ x ih =>
  by_cases h0:x=0
  ·subst h0;decide
  ·rw[Lib.bitLen_half x h0 h,ih (x/2) (by omega) (by omega)];unfold Rf.mJ;rw[aag h0];by_cases h1:x=1
   ·subst h1;decide
   ·rw[aag (by omega)];have:x.log2=(x/2).log2+1:=by rw[Nat.log2_def,aai (by omega)]
    omega
theorem p6 (n:Nat)(h:n<256):Lib.bitLen n<=8:=Lib.bitLen_le8 ⟨n,h⟩
theorem Sj (x:Int)(w:World)(h0:0<=x)(h1:x<=32767): Calls Tryz.prog 206 #[.int .u64 x] w fun e w'=>e=.returned (.int .i64 (Rf.mJ x.toNat))/\w'=w:=by
 have g1:¬(x≥4294967296):=by omega
 have g2:¬(x≥65536):=by omega
 by_cases g3:x≥256
 ·have q1:(0:Int)<=x/256:=by omega
  have q2:x/256<=255:=by omega
  go_enter Tryz.func206,Tryz.ntmps206
  go_wp2
  go_ret
  refine⟨abY Ending.returned (abY (Value.int IntKind.i64) ?_),rfl⟩;have hb:=rU x.toNat (by omega);have s:=Lib.bitLen_shift8 x.toNat (by omega) (by omega);have lt:=p6 (x.toNat/256) (by omega);have e:(x/256).toNat=x.toNat/256:=by omega
  rw[Lib.len8_of (x/256) q1 q2,e];unfold wrap64;omega
 ·have q2:x<=255:=by omega
  go_enter Tryz.func206,Tryz.ntmps206
  go_wp2
  go_ret
  refine⟨abY Ending.returned (abY (Value.int IntKind.i64) ?_),rfl⟩;have hb:=rU x.toNat (by omega);have lt:=p6 x.toNat (by omega);rw[Lib.len8_of x h0 q2];unfold wrap64;omega
theorem KE (x:Int)(w:World)(h0:0<=x)(h1:x<=32767): Calls Tryz.prog 193 #[.int .u64 x] w fun e w'=>e=.returned (.int .i64 (Rf.mJ x.toNat))/\w'=w:=by
 go_enter Tryz.func193,Tryz.ntmps193
 go_wp2_with (go_at_call 206;refine (Sj x _ h0 h1).mono ?_;rintro e w' ⟨rfl,rfl⟩)
 go_ret
 exact⟨rfl,rfl⟩
theorem Fc (x k:Nat)(h:x<2^k):Rf.mJ x<=k:=by
 unfold Rf.mJ;split
 ·omega
 ·next h0 =>
  have:=(Nat.log2_lt h0 (k:=k)).2 h;omega
theorem N4 (l:Nat)(w:World)(h1:3<=l)(h2:l<=258): Calls Tryz.prog 181 #[.int .i64 l] w fun e w'=>e=.returned (.int .i64 ((257+Rf.gB l:Nat):Int))/\w'=w:=by
 by_cases h:l=258
 ·subst h
  go_enter Tryz.func181,Tryz.ntmps181
  go_wp2
  go_ret
  exact⟨rfl,rfl⟩
 ·have hb:=Fc (l-3) 8 (by omega);have e0:((l:Int)-3).toNat=l-3:=by omega
  have hl:(l:Int)≠258:=by omega
  have hlen:=fun w=>KE ((l:Int)-3) w (by omega) (by omega);rw[e0]at hlen;have HX:Hid (Rf.gB l=4*(Rf.mJ (l-3)-3)+(l-3)/2^(Rf.mJ (l-3)-3)):=by show _=_;rw[Rf.gB,aag h]
  generalize Rf.mJ (l-3)=b at *;by_cases hb3:b<3
  ·have m1:max ((b:Int)-3) 0=0:=by omega
   go_enter Tryz.func181,Tryz.ntmps181
   go_wp2_with (go_at_call 193;refine (hlen _).mono ?_;rintro e w' ⟨rfl,rfl⟩)
   go_ret
   refine⟨aK ?_,rfl⟩;rw[HX.out,show b-3=0 by omega];simp only[Nat.pow_zero,Nat.div_one];omega
  ·have m1:max ((b:Int)-3) 0=(b:Int)-3:=by omega
   have m2:((b:Int)-3).toNat=b-3:=by omega
   have m3:(0:Int)<=(b:Int)-3:=by omega
   have hq:((l:Int)-3)/2^(b-3)=(((l-3)/2^(b-3):Nat):Int):=by
    rw[show (l:Int)-3=((l-3:Nat):Int) by omega];simp
   have hq2:(l-3)/2^(b-3)<=258:=by have:=Nat.div_le_self (l-3) (2^(b-3));omega
   generalize (l-3)/2^(b-3)=q at *
   go_enter Tryz.func181,Tryz.ntmps181
   go_wp2_with (go_at_call 193;refine (hlen _).mono ?_;rintro e w' ⟨rfl,rfl⟩)
   go_ret
   refine⟨aK ?_,rfl⟩;rw[HX.out];omega
theorem N5 (d:Nat)(w:World)(h1:1<=d)(h2:d<=32768): Calls Tryz.prog 182 #[.int .i64 d] w fun e w'=>e=.returned (.int .i64 (Rf.iG d:Nat))/\w'=w:=by
 have hb:=Fc (d-1) 15 (by omega);have e0:((d:Int)-1).toNat=d-1:=by omega
 have hlen:=fun w=>KE ((d:Int)-1) w (by omega) (by omega);rw[e0]at hlen;have HX:Hid (Rf.iG d=2*(Rf.mJ (d-1)-2)+(d-1)/2^(Rf.mJ (d-1)-2)):=rfl;generalize Rf.mJ (d-1)=b at *;by_cases hb3:b<2
 ·have m1:max ((b:Int)-2) 0=0:=by omega
  go_enter Tryz.func182,Tryz.ntmps182
  go_wp2_with (go_at_call 193;refine (hlen _).mono ?_;rintro e w' ⟨rfl,rfl⟩)
  go_ret
  refine⟨aK ?_,rfl⟩;rw[HX.out,show b-2=0 by omega];simp only[Nat.pow_zero,Nat.div_one];omega
 ·have m1:max ((b:Int)-2) 0=(b:Int)-2:=by omega
  have m2:((b:Int)-2).toNat=b-2:=by omega
  have m3:(0:Int)<=(b:Int)-2:=by omega
  have hq:((d:Int)-1)/2^(b-2)=(((d-1)/2^(b-2):Nat):Int):=by
   rw[show (d:Int)-1=((d-1:Nat):Int) by omega];simp
  have hq2:(d-1)/2^(b-2)<=32768:=by have:=Nat.div_le_self (d-1) (2^(b-2));omega
  generalize (d-1)/2^(b-2)=q at *
  go_enter Tryz.func182,Tryz.ntmps182
  go_wp2_with (go_at_call 193;refine (hlen _).mono ?_;rintro e w' ⟨rfl,rfl⟩)
  go_ret
  refine⟨aK ?_,rfl⟩;rw[HX.out];omega
theorem N6:∀i:Fin 29,lb ((257+i.val:Nat):Int)=(Rf.dK i.val:Int)/\wK ((257+i.val:Nat):Int)=Rf.lb i.val:=by decide +kernel
theorem N7:∀i:Fin 30,db ((i.val:Nat):Int)=(Rf.dy i.val:Int)/\de ((i.val:Nat):Int)=Rf.db i.val:=by decide +kernel
theorem Qv (i:Nat)(h:i<=28):lb ((257+i:Nat):Int)=(Rf.dK i:Int)/\wK ((257+i:Nat):Int)=Rf.lb i:=N6 ⟨i,by omega⟩
theorem Qw (i:Nat)(h:i<=29):db ((i:Nat):Int)=(Rf.dy i:Int)/\de ((i:Nat):Int)=Rf.db i:=N7 ⟨i,by omega⟩
theorem Dq (i:Nat)(h:i<=28):Rf.lb i<=5:=by
 have:∀i:Fin 29,Rf.lb i.val<=5:=by decide +kernel
 exact this ⟨i,by omega⟩
theorem Dr (i:Nat)(h:i<=29):Rf.db i<=13:=by
 have:∀i:Fin 30,Rf.db i.val<=13:=by decide +kernel
 exact this ⟨i,by omega⟩
abbrev Tok:=Bool×Nat×Nat×Nat
def dF (T:List UInt8)(p:Nat)(s:Nat×Nat):List Tok :=
 if s.2=0 then [(false,(T.getD p 0).toNat,0,0)]
 else [(false,257+Rf.gB s.1,s.1-Rf.dK (Rf.gB s.1),Rf.lb (Rf.gB s.1)),(true,Rf.iG s.2,s.2-Rf.dy (Rf.iG s.2),Rf.db (Rf.iG s.2))]
def ar (T:List UInt8):Nat->List (Nat×Nat)->List Tok
 | _,[]=>[(false,256,0,0)]
 | p,s::r=>dF T p s++ar T (p+s.1) r
def dG (n:Nat):Nat->List (Nat×Nat)->Prop
 | p,[]=>p<=n
 | p,s::r=>((s.2=0/\s.1=1/\p<n)\/(3<=s.1/\s.1<=258/\1<=s.2/\s.2<=32768/\p+s.1<=n))/\dG n (p+s.1) r
theorem dG.length {n:Nat}:∀{p:Nat} {steps:List (Nat×Nat)},dG n p steps->p+steps.length<=n
 | _,[],h=>h
 | p,s::r,⟨h1,h2⟩=>by
  have:=dG.length h2;rw[aaw];omega
theorem kj (T:List UInt8):∀(steps:List (Nat×Nat)) (p:Nat),(ar T p steps).length<=2*steps.length+1
 | [],_=>aaf _
 | s::r,p=>by
  have:=kj T r (p+s.1);rw[ar,aae,aaw];have:(dF T p s).length<=2:=by unfold dF;split<;>simp
  omega
structure Kh (H:Nat) (w w':World):Prop where
 size:w.heap.size<=w'.heap.size
 block:∀k,H<=k->k<w.heap.size->(∀c fr,w.heap[k]?≠some (.cells c 5 fr))->w'.heap[k]?=w.heap[k]?
theorem Kh.cells {H:Nat}{w w':World}(h:Kh H w w'){k:Nat}(hk:H<=k){cs:Array Value}{t:TypeId}(hb:w.heap[k]?=some (.cells cs t (0,0)))(ht:t≠5):w'.heap[k]?=some (.cells cs t (0,0)):=by
 refine (h.block k hk (aac hb) (fun c fr e=>?_)).trans hb;rw[hb]at e;simp at e;exact ht e.2.1
def np (t:Tok):Prop:=t.2.1<=(if t.1 then 29 else 285)/\t.2.2.1<2^t.2.2.2/\t.2.2.2<=13
structure yF (k1 k2:Nat) (eW jR:Array Value) (H:Nat) (sv:Value) (steps:List (Nat×Nat)) (I:World->List Tok->Prop):Prop where
 sym:∀w ts n x k,I w ts->ts.length<200000->np (false,n,x,k)->Calls Tryz.prog k1 (#[.int .i64 n,.int .i64 x,.int .i64 k]++eW) w fun e w'=>e=.returned (.tuple #[])/\I w' (ts++[(false,n,x,k)])/\Kh H w w'
 dist:∀w ts n x k,I w ts->ts.length<200000->np (true,n,x,k)->Calls Tryz.prog k2 (#[.int .i64 n,.int .i64 x,.int .i64 k]++jR) w fun e w'=>e=.returned (.tuple #[])/\I w' (ts++[(true,n,x,k)])/\Kh H w w'
 V8:∀args w,(callFunc k1 args).run Tryz.prog w=.ok (.enter k1 args) w
 V9:∀args w,(callFunc k2 args).run Tryz.prog w=.ok (.enter k2 args) w
 alloc:∀w ts cs t,I w ts->t≠5->I (w.alloc (.cells cs t)) ts
 drew:∀w ts n,I w ts->I (w.drewN n) ts
 rows:∀w ts,I w ts->steps≠[]->∃SB cap,sv=.slice (some ⟨SB,0,none⟩) steps.length cap/\ke w SB 187 steps.length (fun j=>(.int .i64 (steps.getD j (0,0)).1,.int .i64 (steps.getD j (0,0)).2))
 small:∀w ts,I w ts->H<=w.heap.size
theorem A0 (k1 k2:Nat)(eW jR:Array Value)(H:Nat)(ao:Option Addr)(cap:Nat)(s:ByteArray)(steps:List (Nat×Nat))(I:World->List Tok->Prop)(w:World)(hd:yF k1 k2 eW jR H (.slice ao steps.length cap) steps I)(hI:I w [])(hs:s.size<=65535)(hok:dG s.size 0 steps): Calls Tryz.prog 166 #[.string s,.slice ao steps.length cap,.agg #[.func (.func k1) #[] eW,.func (.func k2) #[] jR]] w fun e w'=>e=.returned (.tuple #[])/\I w' (ar s.data.toList 0 steps):=by
 have hsl:=hok.length;have hc1:=hd.V8;have hc2:=hd.V9;have hI0:=hd.alloc w [] #[.func (.func k1) #[] eW,.func (.func k2) #[] jR] 206 hI (by decide);have hH:=hd.small w [] hI
 go_enter Tryz.func166,Tryz.ntmps166
 go_wp2
 go_loopw [6,17] (fun pl ix wr=>∃(i p:Nat) (ts:List Tok),i<=steps.length/\ix=.int .i64 i/\pl=.int .i64 p/\p<=s.size/\Hid (dG s.size p (steps.drop i))/\Hid (ts++ar s.data.toList p (steps.drop i)=ar s.data.toList 0 steps)/\Hid (I wr ts) /\
   Hid (wr.heap[w.heap.size]?=some (.cells #[.func (.func k1) #[] eW,.func (.func k2) #[] jR] 206 (0,0)))) (fun _ ix _=>steps.length-(intOf ix).toNat)
 case atStart=>exact⟨0,0,[],aao _,rfl,rfl,aao _,hok,rfl,hI0,ah _ _⟩
 case round =>
  clear hI hI0;obtain⟨i,p,ts,hi,rfl,rfl,hp,HO,HT,HI,HB⟩:=hrel
  have Sk:Hid (ts.length+(ar s.data.toList p (steps.drop i)).length<=131071):=by
   show _<=_;have a:=abY List.length HT.out;rw[aae]at a;have b:=kj s.data.toList steps 0;omega
  by_cases hlt:i<steps.length
  ·obtain⟨SB,cap',hsv,hrow⟩:=hd.rows wr ts HI.out (ne_of_lt hlt);simp only[abU,ack]at hsv;obtain⟨rfl,rfl⟩:=hsv;obtain⟨x0,x1⟩:=hrow.cell i hlt;have Wa:=hrow.lt;obtain⟨c0,c1,fz,J6⟩:=dB HB.out;have hHr:=hd.small wr ts HI.out
   have hdr:steps.drop i=steps.getD i (0,0)::steps.drop (i+1):=by
    rw[List.drop_eq_getElem_cons hlt,aad,aaj hlt];rfl
   rw[hdr]at HO HT Sk;generalize steps.getD i (0,0)=st at *;obtain⟨l,d⟩:=st;have HOk:=HO.out;obtain⟨hst,hrest⟩:=HOk;have HR:Hid (dG _ _ _):=hrest;have agr:Hid (ke _ _ _ _ _):=hrow;simp only at x0 x1 hst HR;clear hdr hrow hrest HO;rcases hst with⟨rfl,rfl,hpn⟩|⟨g1,g2,g3,g4,g5⟩
   ·have hbyte:(s[p]).toNat<=255:=by have:=UInt8.toNat_lt s[p];omega
    have hcall:=fun u (h:I u ts)=>hd.sym u ts s[p].toNat 0 0 h (by have:=Sk.out;omega) ⟨by show s[p].toNat<=285;omega,Nat.one_pos,aao _⟩;have hwr:IntKind.i64.wrap (s[p].toNat:Int)=(s[p].toNat:Int):=aan _ (by omega);have hI1:=hd.alloc wr ts #[.int .i64 1,.int .i64 0] 187 HI.out (by decide);have hI2:=fun n=>hd.drew _ ts n hI1
    have HT2:Hid ((ts++[(false,s[p].toNat,0,0)])++ar s.data.toList (p+1) (steps.drop (i+1))=ar s.data.toList 0 steps):=by
     show _=_;rw[<-HT.out,ar,dF,aai rfl,aar]
     congr 4
     have:s.data.toList.getD p 0=s[p]:=by
      have hpd:p<s.data.toList.length:=by simpa using hpn
      rw[aad,aaj hpd];rfl
     rw[this]
    have o8:(wr.alloc (.cells #[.int .i64 ((1:Nat):Int),.int .i64 ((0:Nat):Int)] 187)).heap[w.heap.size]?=some (.cells #[.func (.func k1) #[] eW,.func (.func k2) #[] jR] 206 (0,0)):=ak HB.out _;have hsb:(wr.alloc (.cells #[.int .i64 ((1:Nat):Int),.int .i64 ((0:Nat):Int)] 187)).heap[wr.heap.size]?=some (.cells #[.int .i64 ((1:Nat):Int),.int .i64 ((0:Nat):Int)] 187 (0,0)):=ah _ _;have ND:Hid (_/\_):=⟨o8,hsb⟩
    have HI1:Hid (_/\_):=⟨hI1,hI2⟩
    clear o8 hsb HI HB HT hI1 hI2;go_wp2
    go_region_with ((refine (hcall _ ?_).mono ?_;exact HI1.out.2 1;rintro e w1 ⟨rfl,Sm,hk3⟩))
    all_goals
     have hs1:=hk3.cells (k:=wr.heap.size) hHr ND.out.2 (by decide);have hb1:=hk3.cells (k:=w.heap.size) hH ND.out.1 (by decide);obtain⟨y0,y1,fy,hlty⟩:=dB hs1;have HB1:Hid (w1.heap[w.heap.size]?=_):=hb1;have HI3:Hid (I _ _):=Sm;clear hs1 hb1 hk3 Sm ND HI1 hcall;go_wp2
     go_roundw
     case rel=>exact⟨i+1,p+1,_,by omega,by go_num,by go_num,by omega,HR,HT2,HI3,HB1⟩
     case measure=>simp[intOf];omega
   ·obtain⟨l1,l2,l3⟩:=Rf.tT l g1 g2;obtain⟨d1,d2,d3⟩:=Rf.tW d g3 g4;have hq1:=fun u=>N4 l u g1 g2;have hq2:=fun u=>N5 d u g3 g4
    have hq3:∀u,Calls Tryz.prog 110 #[.int .i64 ((257+Rf.gB l:Nat):Int)] u fun e w'=>e=.returned (.tuple #[.int .i64 (Rf.dK (Rf.gB l):Nat),.int .i64 (Rf.lb (Rf.gB l):Nat)])/\w'=u:=fun u=>by
     have:=JQ ((257+Rf.gB l:Nat):Int) u (by omega) (by omega);rw[(Qv _ l1).1,(Qv _ l1).2]at this;exact this
    have hq4:∀u,Calls Tryz.prog 111 #[.int .i64 (Rf.iG d:Nat)] u fun e w'=>e=.returned (.tuple #[.int .i64 (Rf.dy (Rf.iG d):Nat),.int .i64 (Rf.db (Rf.iG d):Nat)])/\w'=u:=fun u=>by
     have:=ET ((Rf.iG d:Nat):Int) u (by omega) (by omega);rw[(Qw _ d1).1,(Qw _ d1).2]at this;exact this
    have hlb:=Dq _ l1;have hdb:=Dr _ d1;have ht1:np (false,257+Rf.gB l,l-Rf.dK (Rf.gB l),Rf.lb (Rf.gB l)):=⟨by show 257+Rf.gB l<=285;omega,l3,by show Rf.lb (Rf.gB l)<=13;omega⟩
    have ht2:np (true,Rf.iG d,d-Rf.dy (Rf.iG d),Rf.db (Rf.iG d)):=⟨d1,d3,hdb⟩
    have HT2:Hid (((ts++[(false,257+Rf.gB l,l-Rf.dK (Rf.gB l),Rf.lb (Rf.gB l))])++[(true,Rf.iG d,d-Rf.dy (Rf.iG d),Rf.db (Rf.iG d))])++ar s.data.toList (p+l) (steps.drop (i+1))=ar s.data.toList 0 steps):=by
     show _=_;rw[<-HT.out,ar,dF,aag (by show ¬d=0;omega)];simp
    have hI1:=hd.alloc wr ts #[.int .i64 l,.int .i64 d] 187 HI.out (by decide);have hI2:=fun n=>hd.drew _ ts n hI1;have KG:=fun u (h:I u ts)=>hd.sym u ts _ _ _ h (by have:=Sk.out;omega) ht1
    have KH:=fun u (h:I u (ts++[(false,257+Rf.gB l,l-Rf.dK (Rf.gB l),Rf.lb (Rf.gB l))]))=>hd.dist u _ _ _ _ h (by
     have:=Sk.out;rw[aae,ab4]
     omega) ht2
    have e1:(l:Int)-(Rf.dK (Rf.gB l):Nat)=((l-Rf.dK (Rf.gB l):Nat):Int):=by omega
    have e2:(d:Int)-(Rf.dy (Rf.iG d):Nat)=((d-Rf.dy (Rf.iG d):Nat):Int):=by omega
    generalize l-Rf.dK (Rf.gB l)=X1 at *;generalize d-Rf.dy (Rf.iG d)=X2 at *;generalize Rf.dK (Rf.gB l)=LB at *;generalize Rf.dy (Rf.iG d)=DB at *;generalize Rf.lb (Rf.gB l)=LN at *;generalize Rf.db (Rf.iG d)=DN at *;obtain⟨SY,hSY⟩:∃SY:Nat,SY=257+Rf.gB l:=⟨_,rfl⟩
    rw[<-hSY]at hq1 hq3 KG KH HT2;generalize Rf.iG d=DX at *;have ND:Hid (_/\_):=⟨ak HB.out (.cells #[.int .i64 (l:Int),.int .i64 (d:Int)] 187),ah wr (.cells #[.int .i64 (l:Int),.int .i64 (d:Int)] 187)⟩
    have HI1:Hid (_/\_):=⟨hI1,hI2⟩
    have ags:¬d=0:=by omega
    have adB:((d:Int)==0)=false:=by simp;omega
    clear l1 l2 l3 d1 d2 d3 ht1 ht2 hSY hlb hdb HI HB HT hI1 hI2;go_wp2
    go_quiet ((first|(go_at_call 181;exact abn (hq1 _))|(go_at_call 182;exact abn (hq2 _))))
    have Sm:=HI1.out.2 nq;have Sn:Hid (_/\_):=ND.out;clear HI1 ND;generalize hw0:((wr.alloc (.cells #[.int .i64 (l:Int),.int .i64 (d:Int)] 187)).drewN nq)=w0 at Sm ⊢;have hbx:w0.heap[w.heap.size]?=some (.cells #[.func (.func k1) #[] eW,.func (.func k2) #[] jR] 206 (0,0)):=by rw[<-hw0];exact Sn.out.1
    have hsx:w0.heap[wr.heap.size]?=some (.cells #[.int .i64 (l:Int),.int .i64 (d:Int)] 187 (0,0)):=by rw[<-hw0];exact Sn.out.2
    obtain⟨y0,y1,fy,Wc⟩:=dB hsx;obtain⟨z0,z1,fz',hlz⟩:=dB hbx;clear Sn hw0 c0 c1 fz J6 x0 x1 hq1 hq2;go_wp2_with fail;refine (hq3 _).mono ?_;rintro e w' ⟨rfl,rfl⟩;go_wp2_with fail;refine (hq4 _).mono ?_;rintro e w'' ⟨rfl,rfl⟩;go_wp2_with fail;refine (KG _ Sm).mono ?_;rintro e w1 ⟨rfl,Zp,hk4⟩;have hs1:=hk4.cells (k:=wr.heap.size) hHr hsx (by decide);have hb1:=hk4.cells (k:=w.heap.size) hH hbx (by decide);clear y0 y1 fy Wc z0 z1 fz' hlz hsx hbx hk4 Sm hq3 hq4;obtain⟨y0,y1,fy,Wc⟩:=dB hs1;obtain⟨z0,z1,fz',hlz⟩:=dB hb1;go_wp2_with fail;refine (KH _ Zp).mono ?_;rintro e w2 ⟨rfl,hI5,hk5⟩;have hs2:=hk5.cells (k:=wr.heap.size) hHr hs1 (by decide);have hb2:=hk5.cells (k:=w.heap.size) hH hb1 (by decide);clear y0 y1 fy Wc z0 z1 fz' hlz hs1 hb1 hk5 Zp;obtain⟨y0,y1,fy,Wc⟩:=dB hs2;have HB2:Hid (w2.heap[w.heap.size]?=_):=hb2;have HI5:Hid (I _ _):=hI5;clear hb2 hs2 hI5;go_wp2
    go_roundw
    case rel=>exact⟨i+1,p+l,_,by omega,by go_num,by go_num,by omega,HR,HT2,HI5,HB2⟩
    case measure=>simp[intOf];omega
  ·obtain⟨c0,c1,fz,J6⟩:=dB HB.out;have e:i=steps.length:=by omega
   subst e;have HT2:=HT.out;rw[List.drop_length,ar]at HT2;have HT3:Hid (_=_):=HT2;have hcall:=hd.sym wr ts 256 0 0 HI.out (by have:=Sk.out;omega) ⟨by decide,Nat.one_pos,aao _⟩;clear HT HT2 HO;go_wp2_with fail;refine hcall.mono ?_;rintro e w1 ⟨rfl,Zp,hk4⟩;go_wp2
   go_end0
   exact⟨rfl,by rw[<-HT3.out];exact Zp⟩
def aA (ls ds:List Int)(ts:List Tok):List Int:=ts.flatMap (fun t=>Rf.bm (if t.1 then ds else ls) t.2.1++Rf.nb t.2.2.1 t.2.2.2)
theorem p7 (ls ds:List Int)(ts:List Tok)(t:Tok):aA ls ds (ts++[t])=aA ls ds ts++(Rf.bm (if t.1 then ds else ls) t.2.1++Rf.nb t.2.2.1 t.2.2.2):=by simp[aA]
def Steps (w:World)(sv:Value)(steps:List (Nat×Nat))(B:Nat):Prop :=
 (∃ao cap,sv=.slice ao steps.length cap)/\(steps≠[]->∃SB cap,sv=.slice (some ⟨SB,0,none⟩) steps.length cap/\SB≠B/\ke w SB 187 steps.length (fun j=>(.int .i64 (steps.getD j (0,0)).1,.int .i64 (steps.getD j (0,0)).2)))
theorem Steps.fr {w w':World}{sv:Value}{steps:List (Nat×Nat)}{B:Nat}(h:Steps w sv steps B)(k:Fr B w w'):Steps w' sv steps B :=
 ⟨h.1,fun hn=>by
  obtain⟨SB,cap,h1,h2,h3⟩:=h.2 hn;refine⟨SB,cap,h1,h2,?_⟩;obtain⟨cs,c1,c2⟩:=h3
  exact⟨cs,(k.kept h2 c1 (by decide)).trans c1,c2⟩⟩
theorem Steps.below {w w':World}{sv:Value}{steps:List (Nat×Nat)}{B:Nat}(h:Steps w sv steps B)(k:Below w.heap.size w w'):Steps w' sv steps B :=
 ⟨h.1,fun hn=>by
  obtain⟨SB,cap,h1,h2,h3⟩:=h.2 hn
  exact⟨SB,cap,h1,h2,h3.kept (k.block _ h3.lt)⟩⟩
theorem aB.alloc {w:World}{B:Nat}{W:List Int}(h:aB w B W)(o:Obj):aB (w.alloc o) B W:=by obtain⟨pv,P,h⟩:=h;exact⟨pv,P,h.alloc o⟩
theorem aB.drewN {w:World}{B:Nat}{W:List Int}(h:aB w B W)(n:Nat):aB (w.drewN n) B W:=by obtain⟨pv,P,h⟩:=h;exact⟨pv,P,h.drewN n⟩
theorem aB.lt {w:World}{B:Nat}{W:List Int}(h:aB w B W):B<w.heap.size:=by obtain⟨pv,P,h⟩:=h;exact h.lt
theorem aB.below {w w':World}{B:Nat}{W:List Int}(h:aB w B W)(k:Below w.heap.size w w'):aB w' B W:=by obtain⟨pv,P,h⟩:=h;exact⟨pv,P,h.kept (fun j _ hj=>k.block j hj)⟩
theorem Fr.alloc {B:Nat}{a w:World}(h:Fr B a w)(hB:B<a.heap.size)(o:Obj):Fr B a (w.alloc o) :=
 h.trans ⟨(aav _ _).alloc (by have:=h.below.size;omega) _,fun k _ hk _=>abV _ _ _ hk⟩
theorem Fr.kh {B H:Nat}{w w':World}(h:Fr B w w')(hB:B<H):Kh H w w':=⟨h.below.size,fun k h1 h2 h3=>h.other k (by omega) h2 h3⟩
structure Ha (B:Nat) (W:List Int) (ls ds:List Int) (vU vV sv:Value) (steps:List (Nat×Nat)) (w0:World) (w:World) (ts:List Tok):Prop where
 wr:aB w B (W++aA ls ds ts)
 c1:fB w vU B ls 0
 c2:fB w vV B ds 0
 fr:Fr B w0 w
 st:Steps w sv steps B
 len:(aA ls ds ts).length<=28*ts.length
theorem Ha.step {B:Nat}{W ls ds:List Int}{vU vV sv:Value}{steps:List (Nat×Nat)}{w0 w w':World}{ts:List Tok}{t:Tok}(h:Ha B W ls ds vU vV sv steps w0 w ts)(hk:t.2.2.2<=13)(hw:aB w' B ((W++aA ls ds ts)++(Rf.bm (if t.1 then ds else ls) t.2.1++yC t.2.2.1 t.2.2.2)))(hf:Fr B w w'):Ha B W ls ds vU vV sv steps w0 w' (ts++[t]):=by
 refine⟨by rw[p7,<-aar,<-fM];exact hw,h.c1.fr hf,h.c2.fr hf,h.fr.trans hf,h.st.fr hf,?_⟩;rw[p7,aae,aae,aae,Rf.cO,Rf.aF,ab4];have a:=h.len
 have b:(((if t.1 then ds else ls):List Int).getD t.2.1 0).toNat<=15:=by
  split
  ·have:=(h.c2.Qu t.2.1).2;omega
  ·have:=(h.c1.Qu t.2.1).2;omega
 omega
theorem Hb (B:Nat)(W ls ds:List Int)(vU vV:Value)(ao:Option Addr)(cap:Nat)(steps:List (Nat×Nat))(w0:World)(hW:W.length<=100000000)(hl:286<=ls.length)(hd:30<=ds.length)(h0:Ha B W ls ds vU vV (.slice ao steps.length cap) steps w0 w0 []): ∃c1 c2,vU=.func (.func 195) #[] c1/\vV=.func (.func 195) #[] c2 /\ yF 195 195 c1 c2 w0.heap.size (.slice ao steps.length cap) steps (Ha B W ls ds vU vV (.slice ao steps.length cap) steps w0):=by
 obtain⟨WB1,Lb1,C1,e1,_⟩:=h0.c1.val;obtain⟨WB2,Lb2,C2,e2,_⟩:=h0.c2.val;have hB:=h0.wr.lt;refine⟨_,_,e1,e2,⟨?_,?_,yD,yD,?_,?_,?_,?_⟩⟩
 ·intro w ts n x k h hts hok;obtain⟨WB,Lb,C,e,b1,b2,n1,_⟩:=h.c1.val;rw[e1]at e;simp at e;obtain⟨rfl,rfl⟩:=e;have hlen:=h.len;have hn:n<=285:=hok.1;refine (ua n x k WB1 Lb1 C ls B (W++aA ls ds ts) w b1 b2 n1 h.c1.Qu h.wr (by omega) (by have:=hok.2.2;simp only at this;omega) (by rw[aae];omega)).mono ?_;rintro e w' ⟨rfl,hw',hf'⟩;exact⟨rfl,h.step (t:=(false,n,x,k)) hok.2.2 hw' hf',hf'.kh hB⟩
 ·intro w ts n x k h hts hok;obtain⟨WB,Lb,C,e,b1,b2,n1,_⟩:=h.c2.val;rw[e2]at e;simp at e;obtain⟨rfl,rfl⟩:=e;have hlen:=h.len;have hn:n<=29:=hok.1;refine (ua n x k WB2 Lb2 C ds B (W++aA ls ds ts) w b1 b2 n1 h.c2.Qu h.wr (by omega) (by have:=hok.2.2;simp only at this;omega) (by rw[aae];omega)).mono ?_;rintro e w' ⟨rfl,hw',hf'⟩;exact⟨rfl,h.step (t:=(true,n,x,k)) hok.2.2 hw' hf',hf'.kh hB⟩
 ·intro w ts cs t h _;exact⟨h.wr.alloc _,h.c1.below (ae _ _),h.c2.below (ae _ _),h.fr.alloc hB _,h.st.below (ae _ _),h.len⟩
 ·intro w ts n h;have hb:Below w.heap.size w (w.drewN n):=aaA (aav _ _) n;exact⟨h.wr.drewN n,h.c1.below hb,h.c2.below hb,h.fr.drewN n,h.st.below hb,h.len⟩
 ·intro w ts h hn;obtain⟨SB,cap',q1,_,q3⟩:=h.st.2 hn;exact⟨SB,cap',q1,q3⟩
 ·intro w ts h;exact h.fr.below.size
theorem N8 (w:World)(T:Nat)(a b:Value):Kp (·=T) w ((w.setCell ⟨T,0,none⟩ a).setCell ⟨T,1,none⟩ b) :=
 ((Kp.refl (·=T) w).setCell (p:=⟨T,0,none⟩) (.inl rfl) a).setCell (p:=⟨T,1,none⟩) (.inl rfl) b
theorem A3 (B:Nat)(ls ds:List Int)(a1 a2:Option Addr)(p1 p2 N1 N2:Nat)(w:World)(hN1:ls.length=N1)(hN2:ds.length=N2)(l1:N1<=320)(l2:N2<=320)(i1:Ints w a1 ls)(i2:Ints w a2 ds)(b1:∀a,a1=some a->ls≠[]->a.block<w.heap.size)(b2:∀a,a2=some a->ds≠[]->a.block<w.heap.size)(w1:∀j,0<=ls.getD j 0/\ls.getD j 0<=15)(w2:∀j,0<=ds.getD j 0/\ds.getD j 0<=15)(f1:Rf.fs ls ls.length<=32768)(f2:Rf.fs ds ds.length<=32768)(hB:B<w.heap.size): Calls Tryz.prog 171 #[.pointer (some ⟨B,0,none⟩),.slice a1 N1 p1,.slice a2 N2 p2] w fun e w'=>∃vU vV,e=.returned (.agg #[vU,vV])/\fB w' vU B ls w.heap.size/\fB w' vV B ds w.heap.size/\Below w.heap.size w w':=by
 go_enter Tryz.func171,Tryz.ntmps171
 go_wp2_with fail;have k0:=ae w (.cells #[.nilFunc,.nilFunc] 206);refine (ki B a1 p1 ls N1 _ hN1 l1 (i1.below k0 b1) (fun a e h=>by have:=b1 a e h;simp;omega) w1 f1 (by simp;omega)).mono ?_;rintro e u1 ⟨vU,rfl,UV,k1⟩;have s1:=k1.size;rw[aap]at s1;have k01:=k0.trans (k1.mono (by simp));go_wp2_with fail;refine (ki B a2 p2 ds N2 _ hN2 l2 (i2.below k01 b2) (fun a e h=>by have:=b2 a e h;omega) w2 f2 (by omega)).mono ?_;rintro e u2 ⟨vV,rfl,Sp,k2⟩;have hr:u2.heap[w.heap.size]?=some (.cells #[.nilFunc,.nilFunc] 206 (0,0)):=(k2.block _ (by omega)).trans ((k1.block _ (by simp)).trans (ah w _));obtain⟨y0,y1,fy,Wc⟩:=dB hr;have Sq:=UV.below k2;obtain⟨P1,Q1,_,e1,_⟩:=Sq.val;obtain⟨P2,Q2,_,e2,_⟩:=Sp.val;have hkk:Below w.heap.size w u2:=k01.trans (k2.mono (by omega));have HD:Hid (_/\_/\_):=⟨Sq,Sp,hkk⟩
 have hu2:=hkk.size;clear UV Sq Sp k0 k1 k2 k01 hkk;subst e1 e2;go_wp2;have HS:=N8 u2 w.heap.size (.func (.func 195) #[] #[.pointer (some ⟨P1,0,none⟩),.pointer (some ⟨Q1,0,none⟩)]) (.func (.func 195) #[] #[.pointer (some ⟨P2,0,none⟩),.pointer (some ⟨Q2,0,none⟩)]);refine aaG (v:=.agg #[.func (.func 195) #[] #[.pointer (some ⟨P1,0,none⟩),.pointer (some ⟨Q1,0,none⟩)],.func (.func 195) #[] #[.pointer (some ⟨P2,0,none⟩),.pointer (some ⟨Q2,0,none⟩)]]) (by simp[results,Tryz.results171,go_sem,y0,y1]) rfl ⟨_,_,rfl,?_,?_,?_⟩
 ·exact (HD.out.1.kept HS (fun j hj=>by rw[hj,aap];omega)).weak (by rw[aap];omega)
 ·exact (HD.out.2.1.kept HS (fun j hj=>by rw[hj];omega)).weak (by omega)
 ·exact HD.out.2.2.trans (HS.below (by omega) (fun k _ hk=>by omega))
theorem mE (B:Nat)(W ls ds:List Int)(vU vV:Value)(ao:Option Addr)(cap:Nat)(s:ByteArray)(steps:List (Nat×Nat))(w:World)(hW:W.length<=100000000)(hl:286<=ls.length)(hd:30<=ds.length)(hw:aB w B W)(c1:fB w vU B ls 0)(c2:fB w vV B ds 0)(hst:Steps w (.slice ao steps.length cap) steps B)(hs:s.size<=65535)(hok:dG s.size 0 steps): Calls Tryz.prog 166 #[.string s,.slice ao steps.length cap,.agg #[vU,vV]] w fun e w'=>e=.returned (.tuple #[])/\aB w' B (W++aA ls ds (ar s.data.toList 0 steps))/\Fr B w w':=by
 have h0:Ha B W ls ds vU vV (.slice ao steps.length cap) steps w w []:=⟨by simpa[aA]using hw,c1,c2,Fr.refl _ _,hst,by simp[aA]⟩
 obtain⟨q1,q2,rfl,rfl,hdo⟩:=Hb B W ls ds vU vV ao cap steps w hW hl hd h0;refine (A0 _ _ q1 q2 _ ao cap s steps _ w hdo h0 hs hok).mono ?_;rintro e w' ⟨rfl,h⟩;exact⟨rfl,h.wr,h.fr⟩
def fp (N:Nat)(b:Bool)(ts:List Tok):List Int:=(List.range N).map (fun j=>((ts.countP (fun t=>decide (t.1=b/\t.2.1=j)):Nat):Int))
def aY (ts:List Tok):Nat:=(ts.map (fun t=>t.2.2.2)).sum
theorem fa (N:Nat)(b:Bool)(ts:List Tok):(fp N b ts).length=N:=by simp[fp]
theorem ju (N:Nat)(b:Bool)(ts:List Tok)(j:Nat)(h:j<N):(fp N b ts).getD j 0=((ts.countP (fun t=>decide (t.1=b/\t.2.1=j)):Nat):Int):=by
 unfold fp;rw[aad,abQ,List.getElem?_range h];rfl
theorem gV (N:Nat)(b:Bool)(ts:List Tok)(j:Nat):0<=(fp N b ts).getD j 0/\(fp N b ts).getD j 0<=ts.length:=by
 by_cases h:j<N
 ·rw[ju N b ts j h];have:=List.countP_le_length (p:=fun t:Tok=>decide (t.1=b/\t.2.1=j)) (l:=ts);omega
 ·rw[aad,aaz (by rw[fa];omega)];simp
theorem ub (N:Nat)(b:Bool)(ts:List Tok)(n x k:Nat):fp N b (ts++[(b,n,x,k)])=(fp N b ts).set n ((fp N b ts).getD n 0+1):=by
 apply ace
 ·simp[fp]
 ·intro j h1 h2;have hj:j<N:=by simpa[fp]using h1
  rw[List.getElem_set];by_cases e:n=j
  ·subst e;rw[aai rfl,ju N b ts n hj];simp only[fp,acI,acQ,List.countP_append,List.countP_cons,List.countP_nil];simp
  ·rw[aag e];simp only[fp,acI,acQ,List.countP_append,List.countP_cons,List.countP_nil];simp[e]
theorem xh (N:Nat)(b c:Bool)(h:c≠b)(ts:List Tok)(n x k:Nat):fp N b (ts++[(c,n,x,k)])=fp N b ts:=by
 unfold fp;refine acS (fun j _=>?_);rw[List.countP_append];simp[h]
theorem ja (ts:List Tok)(t:Tok):aY (ts++[t])=aY ts+t.2.2.2:=by simp[aY]
structure kn (Tb Sy Di:Nat) (sv:Value) (steps:List (Nat×Nat)) (b0:Nat) (w0:World) (w:World) (ts:List Tok):Prop where
 box:w.heap[Tb]?=some (.cells #[.slice (some ⟨Sy,0,none⟩) 286 286,.slice (some ⟨Di,0,none⟩) 30 30,.int .i64 (aY ts:Nat)] 191 (0,0))
 sy:aS w Sy (fp 286 false ts)
 di:aS w Di (fp 30 true ts)
 be:Below b0 w0 w
 st:Steps w sv steps Tb
 ne:Sy≠Di/\Sy≠Tb/\Di≠Tb/\b0<=Sy/\b0<=Di/\b0<=Tb
 ex:aY ts<=13*ts.length
theorem cells3 {w:World}{T:Nat}{a b c:Value}{t:TypeId}(h:w.heap[T]?=some (.cells #[a,b,c] t (0,0))): w.cell? ⟨T,0,none⟩=some a/\w.cell? ⟨T,1,none⟩=some b/\w.cell? ⟨T,2,none⟩=some c/\(∀j,w.frozen? ⟨T,j,none⟩=false)/\T<w.heap.size :=
 ⟨aas _ _ _ _ _ _ h,aas _ _ _ _ _ _ h,aas _ _ _ _ _ _ h,fun j=>aaM w T j _ _ h,aac h⟩
theorem Steps.kept {w w':World}{sv:Value}{steps:List (Nat×Nat)}{B b0:Nat}(h:Steps w sv steps B)(k:∀j,j<b0->j<w.heap.size->w'.heap[j]?=w.heap[j]?)(hsv:∀SB cap,sv=.slice (some ⟨SB,0,none⟩) steps.length cap->SB<b0):Steps w' sv steps B :=
 ⟨h.1,fun hn=>by
  obtain⟨SB,cap,h1,h2,h3⟩:=h.2 hn
  exact⟨SB,cap,h1,h2,h3.kept (k _ (hsv SB cap h1) h3.lt)⟩⟩
theorem kn.kp (Tb Sy Di G n:Nat)(hG:G=Sy\/G=Di)(w:World)(u v:Value):Kp (fun j=>j=Tb\/j=Sy\/j=Di) w ((w.setCell ⟨G,n,none⟩ u).setCell ⟨Tb,2,none⟩ v) :=
 ((Kp.refl _ w).setCell (p:=⟨G,n,none⟩) (.inl (by rcases hG with rfl|rfl<;>simp)) u).setCell (p:=⟨Tb,2,none⟩) (.inl (.inl rfl)) v
theorem kn.sym {Tb Sy Di:Nat}{sv:Value}{steps:List (Nat×Nat)}{b0:Nat}{w0 w:World}{ts:List Tok}(h:kn Tb Sy Di sv steps b0 w0 w ts)(n x k:Nat)(hk:k<=13)(hsv:∀SB cap,sv=.slice (some ⟨SB,0,none⟩) steps.length cap->SB<b0): kn Tb Sy Di sv steps b0 w0 ((w.setCell ⟨Sy,n,none⟩ (.int .i64 ((fp 286 false ts).getD n 0+1))).setCell ⟨Tb,2,none⟩ (.int .i64 ((aY ts:Nat)+(k:Int)))) (ts++[(false,n,x,k)]):=by
 obtain⟨n1,n2,n3,n4,n5,n6⟩:=h.ne;have K:=kn.kp Tb Sy Di Sy n (.inl rfl) w (.int .i64 ((fp 286 false ts).getD n 0+1)) (.int .i64 ((aY ts:Nat)+(k:Int)));refine⟨?_,?_,?_,h.be.trans (K.below (by have:=aac h.box;omega) (fun j _ hj=>by omega)),h.st.kept (fun j hj hl=>K.block j hl (by omega)) hsv,h.ne,by rw[ja,aae];have:=h.ex;simp only[ab4];omega⟩
 ·refine (aau _ Tb 2 _ _ _ ((aam w ⟨Sy,n,none⟩ _ Tb (ac0 n2)).trans h.box)).trans ?_;rw[ja];simp
 ·rw[ub];exact (aam _ ⟨Tb,2,none⟩ _ Sy n2).trans (h.sy.set n _)
 ·rw[xh 30 true false (by decide)];exact (aam _ ⟨Tb,2,none⟩ _ Di n3).trans ((aam w ⟨Sy,n,none⟩ _ Di (ac0 n1)).trans h.di)
theorem kn.dist {Tb Sy Di:Nat}{sv:Value}{steps:List (Nat×Nat)}{b0:Nat}{w0 w:World}{ts:List Tok}(h:kn Tb Sy Di sv steps b0 w0 w ts)(n x k:Nat)(hk:k<=13)(hsv:∀SB cap,sv=.slice (some ⟨SB,0,none⟩) steps.length cap->SB<b0): kn Tb Sy Di sv steps b0 w0 ((w.setCell ⟨Di,n,none⟩ (.int .i64 ((fp 30 true ts).getD n 0+1))).setCell ⟨Tb,2,none⟩ (.int .i64 ((aY ts:Nat)+(k:Int)))) (ts++[(true,n,x,k)]):=by
 obtain⟨n1,n2,n3,n4,n5,n6⟩:=h.ne;have K:=kn.kp Tb Sy Di Di n (.inr rfl) w (.int .i64 ((fp 30 true ts).getD n 0+1)) (.int .i64 ((aY ts:Nat)+(k:Int)));refine⟨?_,?_,?_,h.be.trans (K.below (by have:=aac h.box;omega) (fun j _ hj=>by omega)),h.st.kept (fun j hj hl=>K.block j hl (by omega)) hsv,h.ne,by rw[ja,aae];have:=h.ex;simp only[ab4];omega⟩
 ·refine (aau _ Tb 2 _ _ _ ((aam w ⟨Di,n,none⟩ _ Tb (ac0 n3)).trans h.box)).trans ?_;rw[ja];simp
 ·rw[xh 286 false true (by decide)];exact (aam _ ⟨Tb,2,none⟩ _ Sy n2).trans ((aam w ⟨Di,n,none⟩ _ Sy n1).trans h.sy)
 ·rw[ub];exact (aam _ ⟨Tb,2,none⟩ _ Di n3).trans (h.di.set n _)
theorem aS.at_ {w:World}{g:Nat}{zs:List Int}(h:aS w g zs)(j:Nat)(hj:j<zs.length):w.cell? ⟨g,j,none⟩=some (.int .i64 (zs.getD j 0)):=by
 rw[h.cell j hj,aad,aaj hj];rfl
theorem N9 (Tb Sy Di:Nat)(sv:Value)(steps:List (Nat×Nat))(b0:Nat)(w0 w:World)(ts:List Tok)(n x k:Nat)(h:kn Tb Sy Di sv steps b0 w0 w ts)(hn:n<286)(hts:ts.length<200000)(hk:k<=13)(hsv:∀SB cap,sv=.slice (some ⟨SB,0,none⟩) steps.length cap->SB<b0): Calls Tryz.prog 167 #[.int .i64 n,.int .i64 x,.int .i64 k,.pointer (some ⟨Tb,0,none⟩)] w fun e w'=>e=.returned (.tuple #[])/\kn Tb Sy Di sv steps b0 w0 w' (ts++[(false,n,x,k)])/\Kp (fun j=>j=Tb\/j=Sy\/j=Di) w w':=by
 obtain⟨c0,c1,c2,fz,hlt⟩:=cells3 h.box;obtain⟨n1,n2,n3,n4,n5,n6⟩:=h.ne;have hr:=gV 286 false ts n;have hcell:=h.sy.at_ n (by rw[fa];exact hn);have hfz:∀j,w.frozen? ⟨Sy,j,none⟩=false:=fun j=>aaM w Sy j _ _ h.sy;have hex:=h.ex;have Wa:=aac h.sy;have H:=h.sym n x k hk hsv;have K:=kn.kp Tb Sy Di Sy n (.inl rfl) w (.int .i64 ((fp 286 false ts).getD n 0+1)) (.int .i64 ((aY ts:Nat)+(k:Int)));generalize (fp 286 false ts).getD n 0=v at *
 go_enter Tryz.func167,Tryz.ntmps167
 go_wp2
 go_end0
 exact⟨rfl,H,K⟩
theorem Oa (Tb Sy Di:Nat)(sv:Value)(steps:List (Nat×Nat))(b0:Nat)(w0 w:World)(ts:List Tok)(n x k:Nat)(h:kn Tb Sy Di sv steps b0 w0 w ts)(hn:n<30)(hts:ts.length<200000)(hk:k<=13)(hsv:∀SB cap,sv=.slice (some ⟨SB,0,none⟩) steps.length cap->SB<b0): Calls Tryz.prog 168 #[.int .i64 n,.int .i64 x,.int .i64 k,.pointer (some ⟨Tb,0,none⟩)] w fun e w'=>e=.returned (.tuple #[])/\kn Tb Sy Di sv steps b0 w0 w' (ts++[(true,n,x,k)])/\Kp (fun j=>j=Tb\/j=Sy\/j=Di) w w':=by
 obtain⟨c0,c1,c2,fz,hlt⟩:=cells3 h.box;obtain⟨n1,n2,n3,n4,n5,n6⟩:=h.ne;have hr:=gV 30 true ts n;have hcell:=h.di.at_ n (by rw[fa];exact hn);have hfz:∀j,w.frozen? ⟨Di,j,none⟩=false:=fun j=>aaM w Di j _ _ h.di;have hex:=h.ex;have Wa:=aac h.di;have H:=h.dist n x k hk hsv;have K:=kn.kp Tb Sy Di Di n (.inr rfl) w (.int .i64 ((fp 30 true ts).getD n 0+1)) (.int .i64 ((aY ts:Nat)+(k:Int)));generalize (fp 30 true ts).getD n 0=v at *
 go_enter Tryz.func168,Tryz.ntmps168
 go_wp2
 go_end0
 exact⟨rfl,H,K⟩
theorem Sr (args:Array Value)(w:World):(callFunc 167 args).run Tryz.prog w=.ok (.enter 167 args) w:=by kernel_rfl
theorem Ss (args:Array Value)(w:World):(callFunc 168 args).run Tryz.prog w=.ok (.enter 168 args) w:=by kernel_rfl
theorem Qx {S:Nat->Prop}{w w':World}{H:Nat}(k:Kp S w w')(hS:∀j,S j->j<H):Kh H w w':=⟨k.size,fun j h1 h2 _=>k.block j h2 (fun h=>by have:=hS j h;omega)⟩
theorem Hc (Tb Sy Di:Nat)(ao:Option Addr)(cap:Nat)(steps:List (Nat×Nat))(b0 H:Nat)(w0 w:World)(h:kn Tb Sy Di (.slice ao steps.length cap) steps b0 w0 w [])(hH:H=w.heap.size)(hsv:∀SB cap',Value.slice ao steps.length cap=.slice (some ⟨SB,0,none⟩) steps.length cap'->SB<b0): yF 167 168 #[.pointer (some ⟨Tb,0,none⟩)] #[.pointer (some ⟨Tb,0,none⟩)] H (.slice ao steps.length cap) steps (fun u ts=>kn Tb Sy Di (.slice ao steps.length cap) steps b0 w0 u ts/\H<=u.heap.size):=by
 have l1:=aac h.box;have l2:=aac h.sy;have l3:=aac h.di;refine⟨?_,?_,Sr,Ss,?_,?_,?_,fun u ts h=>h.2⟩
 ·rintro u ts n x k ⟨h,hu⟩ hts hok;refine (N9 Tb Sy Di _ steps b0 w0 u ts n x k h (by have:n<=285:=hok.1;omega) hts hok.2.2 hsv).mono ?_;rintro e u' ⟨rfl,h',k'⟩;exact⟨rfl,⟨h',by have:=k'.size;omega⟩,Qx k' (fun j hj=>by omega)⟩
 ·rintro u ts n x k ⟨h,hu⟩ hts hok;refine (Oa Tb Sy Di _ steps b0 w0 u ts n x k h (by have:n<=29:=hok.1;omega) hts hok.2.2 hsv).mono ?_;rintro e u' ⟨rfl,h',k'⟩;exact⟨rfl,⟨h',by have:=k'.size;omega⟩,Qx k' (fun j hj=>by omega)⟩
 ·rintro u ts cs t ⟨h,hu⟩ _;have hb:=ae u (.cells cs t);exact⟨⟨ak h.box _,ak h.sy _,ak h.di _,h.be.trans (hb.mono (by have:=aac h.box;have:=h.ne;omega)),h.st.below hb,h.ne,h.ex⟩,by simp;omega⟩
 ·rintro u ts n ⟨h,hu⟩;have hb:Below u.heap.size u (u.drewN n):=aaA (aav _ _) n;exact⟨⟨h.box,h.sy,h.di,h.be.trans (hb.mono (by have:=aac h.box;have:=h.ne;omega)),h.st.below hb,h.ne,h.ex⟩,hu⟩
 ·rintro u ts ⟨h,hu⟩ hn;obtain⟨SB,cap',q1,_,q3⟩:=h.st.2 hn;exact⟨SB,cap',q1,q3⟩
end Go.Proofs.YtmfijackgekioabGreatDoor
