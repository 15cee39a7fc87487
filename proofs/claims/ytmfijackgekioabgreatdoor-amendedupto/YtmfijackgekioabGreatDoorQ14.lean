import Derived.Test.YtmfijackgekioabGreatDoorQ05
import Derived.Test.YtmfijackgekioabGreatDoorQ13
import Derived.Lib.Strings
import Derived.Lib.Small
import Derived.Lib.Walk
import Derived.Lib.BitFns
import Derived.Laws.EntriesVeiled
set_option maxHeartbeats 4000000
set_option maxRecDepth 100000
namespace Go.Proofs.YtmfijackgekioabGreatDoor
open Go.RowKit
theorem ry (x:Nat)(h:x<2^64):Lib.bitLen x=Rf.my x:=by
 induction x using Nat.strongRecOn with
 | _ x ih =>
  by_cases h0:x=0
  ·subst h0;decide
  ·rw[Lib.bitLen_half x h0 h,ih (x/2) (by omega) (by omega)];unfold Rf.my;rw[aai h0];by_cases h1:x=1
   ·subst h1;decide
   ·rw[aai (by omega)];have:x.log2=(x/2).log2+1:=by rw[Nat.log2_def,aaj (by omega)]
    omega
theorem pJ (n:Nat)(h:n<256):Lib.bitLen n<=8:=Lib.bitLen_le8 ⟨n,h⟩
theorem RF (x:Int)(w:World)(h0:0<=x)(h1:x<=32767): Calls Tryz.prog 206 #[.int .u64 x] w fun e w'=>e=.returned (.int .i64 (Rf.my x.toNat))/\w'=w:=by
 have g1:¬(x≥4294967296):=by omega
 have g2:¬(x≥65536):=by omega
 by_cases g3:x≥256
 ·have q1:(0:Int)<=x/256:=by omega
  have q2:x/256<=255:=by omega
  go_enter Tryz.func206,Tryz.ntmps206
  go_wp2
  go_ret
  refine⟨abV Ending.returned (abV (Value.int IntKind.i64) ?_),rfl⟩;have hb:=ry x.toNat (by omega);have s:=Lib.bitLen_shift8 x.toNat (by omega) (by omega);have lt:=pJ (x.toNat/256) (by omega);have e:(x/256).toNat=x.toNat/256:=by omega
  rw[Lib.len8_of (x/256) q1 q2,e];unfold wrap64;omega
 ·have q2:x<=255:=by omega
  go_enter Tryz.func206,Tryz.ntmps206
  go_wp2
  go_ret
  refine⟨abV Ending.returned (abV (Value.int IntKind.i64) ?_),rfl⟩;have hb:=ry x.toNat (by omega);have lt:=pJ x.toNat (by omega);rw[Lib.len8_of x h0 q2];unfold wrap64;omega
theorem Kd (x:Int)(w:World)(h0:0<=x)(h1:x<=32767): Calls Tryz.prog 193 #[.int .u64 x] w fun e w'=>e=.returned (.int .i64 (Rf.my x.toNat))/\w'=w:=by
 go_enter Tryz.func193,Tryz.ntmps193
 go_wp2_with (go_at_call 206;refine (RF x _ h0 h1).mono ?_;rintro e w' ⟨rfl,rfl⟩)
 go_ret
 exact⟨rfl,rfl⟩
theorem EL (x k:Nat)(h:x<2^k):Rf.my x<=k:=by
 unfold Rf.my;split
 ·omega
 ·next h0 =>
  have:=(Nat.log2_lt h0 (k:=k)).2 h;omega
theorem Ny (l:Nat)(w:World)(h1:3<=l)(h2:l<=258): Calls Tryz.prog 181 #[.int .i64 l] w fun e w'=>e=.returned (.int .i64 ((257+Rf.gi l:Nat):Int))/\w'=w:=by
 by_cases h:l=258
 ·subst h
  go_enter Tryz.func181,Tryz.ntmps181
  go_wp2
  go_ret
  exact⟨rfl,rfl⟩
 ·have hb:=EL (l-3) 8 (by omega);have e0:((l:Int)-3).toNat=l-3:=by omega
  have hl:(l:Int)≠258:=by omega
  have hlen:=fun w=>Kd ((l:Int)-3) w (by omega) (by omega);rw[e0]at hlen;have HX:Hid (Rf.gi l=4*(Rf.my (l-3)-3)+(l-3)/2^(Rf.my (l-3)-3)):=by show _=_;rw[Rf.gi,aai h]
  generalize Rf.my (l-3)=b at *;by_cases hb3:b<3
  ·have m1:max ((b:Int)-3) 0=0:=by omega
   go_enter Tryz.func181,Tryz.ntmps181
   go_wp2_with (go_at_call 193;refine (hlen _).mono ?_;rintro e w' ⟨rfl,rfl⟩)
   go_ret
   refine⟨aI ?_,rfl⟩;rw[HX.out,show b-3=0 by omega];simp only[Nat.pow_zero,Nat.div_one];omega
  ·have m1:max ((b:Int)-3) 0=(b:Int)-3:=by omega
   have m2:((b:Int)-3).toNat=b-3:=by omega
   have m3:(0:Int)<=(b:Int)-3:=by omega
   have hq:((l:Int)-3)/2^(b-3)=(((l-3)/2^(b-3):Nat):Int):=by
    rw[show (l:Int)-3=((l-3:Nat):Int) by omega];simp
   have hq2:(l-3)/2^(b-3)<=258:=by have:=Nat.div_le_self (l-3) (2^(b-3));omega
   generalize (l-3)/2^(b-3)=q at *
   go_enter Tryz.func181,Tryz.ntmps181
   go_wp2_with (go_at_call 193;refine (hlen _).mono ?_;rintro e w' ⟨rfl,rfl⟩)
   go_ret
   refine⟨aI ?_,rfl⟩;rw[HX.out];omega
theorem Nz (d:Nat)(w:World)(h1:1<=d)(h2:d<=32768): Calls Tryz.prog 182 #[.int .i64 d] w fun e w'=>e=.returned (.int .i64 (Rf.ip d:Nat))/\w'=w:=by
 have hb:=EL (d-1) 15 (by omega);have e0:((d:Int)-1).toNat=d-1:=by omega
 have hlen:=fun w=>Kd ((d:Int)-1) w (by omega) (by omega);rw[e0]at hlen;have HX:Hid (Rf.ip d=2*(Rf.my (d-1)-2)+(d-1)/2^(Rf.my (d-1)-2)):=rfl;generalize Rf.my (d-1)=b at *;by_cases hb3:b<2
 ·have m1:max ((b:Int)-2) 0=0:=by omega
  go_enter Tryz.func182,Tryz.ntmps182
  go_wp2_with (go_at_call 193;refine (hlen _).mono ?_;rintro e w' ⟨rfl,rfl⟩)
  go_ret
  refine⟨aI ?_,rfl⟩;rw[HX.out,show b-2=0 by omega];simp only[Nat.pow_zero,Nat.div_one];omega
 ·have m1:max ((b:Int)-2) 0=(b:Int)-2:=by omega
  have m2:((b:Int)-2).toNat=b-2:=by omega
  have m3:(0:Int)<=(b:Int)-2:=by omega
  have hq:((d:Int)-1)/2^(b-2)=(((d-1)/2^(b-2):Nat):Int):=by
   rw[show (d:Int)-1=((d-1:Nat):Int) by omega];simp
  have hq2:(d-1)/2^(b-2)<=32768:=by have:=Nat.div_le_self (d-1) (2^(b-2));omega
  generalize (d-1)/2^(b-2)=q at *
  go_enter Tryz.func182,Tryz.ntmps182
  go_wp2_with (go_at_call 193;refine (hlen _).mono ?_;rintro e w' ⟨rfl,rfl⟩)
  go_ret
  refine⟨aI ?_,rfl⟩;rw[HX.out];omega
theorem NA:∀i:Fin 29,lb ((257+i.val:Nat):Int)=(Rf.dK i.val:Int)/\vY ((257+i.val:Nat):Int)=Rf.lb i.val:=by decide +kernel
theorem NB:∀i:Fin 30,db ((i.val:Nat):Int)=(Rf.dy i.val:Int)/\de ((i.val:Nat):Int)=Rf.db i.val:=by decide +kernel
theorem PY (i:Nat)(h:i<=28):lb ((257+i:Nat):Int)=(Rf.dK i:Int)/\vY ((257+i:Nat):Int)=Rf.lb i:=NA ⟨i,by omega⟩
theorem PZ (i:Nat)(h:i<=29):db ((i:Nat):Int)=(Rf.dy i:Int)/\de ((i:Nat):Int)=Rf.db i:=NB ⟨i,by omega⟩
theorem CX (i:Nat)(h:i<=28):Rf.lb i<=5:=by
 have:∀i:Fin 29,Rf.lb i.val<=5:=by decide +kernel
 exact this ⟨i,by omega⟩
theorem CY (i:Nat)(h:i<=29):Rf.db i<=13:=by
 have:∀i:Fin 30,Rf.db i.val<=13:=by decide +kernel
 exact this ⟨i,by omega⟩
abbrev Tok:=Bool×Nat×Nat×Nat
def dF (T:List UInt8)(p:Nat)(s:Nat×Nat):List Tok :=
 if s.2=0 then [(false,(T.getD p 0).toNat,0,0)]
 else [(false,257+Rf.gi s.1,s.1-Rf.dK (Rf.gi s.1),Rf.lb (Rf.gi s.1)),(true,Rf.ip s.2,s.2-Rf.dy (Rf.ip s.2),Rf.db (Rf.ip s.2))]
def ar (T:List UInt8):Nat->List (Nat×Nat)->List Tok
 | _,[]=>[(false,256,0,0)]
 | p,s::r=>dF T p s++ar T (p+s.1) r
def dG (n:Nat):Nat->List (Nat×Nat)->Prop
 | p,[]=>p<=n
 | p,s::r=>((s.2=0/\s.1=1/\p<n)\/(3<=s.1/\s.1<=258/\1<=s.2/\s.2<=32768/\p+s.1<=n))/\dG n (p+s.1) r
theorem dG.length {n:Nat}:∀{p:Nat} {steps:List (Nat×Nat)},dG n p steps->p+steps.length<=n
 | _,[],h=>h
 | p,s::r,⟨h1,h2⟩=>by
  have:=dG.length h2;rw[aaA];omega
theorem jT (T:List UInt8):∀(steps:List (Nat×Nat)) (p:Nat),(ar T p steps).length<=2*steps.length+1
 | [],_=>aah _
 | s::r,p=>by
  have:=jT T r (p+s.1);rw[ar,aac,aaA];have:(dF T p s).length<=2:=by unfold dF;split<;>simp
  omega
structure Kh (H:Nat) (w w':World):Prop where
 size:w.heap.size<=w'.heap.size
 block:∀k,H<=k->k<w.heap.size->(∀c fr,w.heap[k]?≠some (.cells c 5 fr))->w'.heap[k]?=w.heap[k]?
theorem Kh.cells {H:Nat}{w w':World}(h:Kh H w w'){k:Nat}(hk:H<=k){cs:Array Value}{t:TypeId}(hb:w.heap[k]?=some (.cells cs t (0,0)))(ht:t≠5):w'.heap[k]?=some (.cells cs t (0,0)):=by
 refine (h.block k hk (aaa hb) (fun c fr e=>?_)).trans hb;rw[hb]at e;simp at e;exact ht e.2.1
def mU (t:Tok):Prop:=t.2.1<=(if t.1 then 29 else 285)/\t.2.2.1<2^t.2.2.2/\t.2.2.2<=13
structure yd (k1 k2:Nat) (eO jE:Array Value) (H:Nat) (sv:Value) (steps:List (Nat×Nat)) (I:World->List Tok->Prop):Prop where
 sym:∀w ts n x k,I w ts->ts.length<200000->mU (false,n,x,k)->Calls Tryz.prog k1 (#[.int .i64 n,.int .i64 x,.int .i64 k]++eO) w fun e w'=>e=.returned (.tuple #[])/\I w' (ts++[(false,n,x,k)])/\Kh H w w'
 dist:∀w ts n x k,I w ts->ts.length<200000->mU (true,n,x,k)->Calls Tryz.prog k2 (#[.int .i64 n,.int .i64 x,.int .i64 k]++jE) w fun e w'=>e=.returned (.tuple #[])/\I w' (ts++[(true,n,x,k)])/\Kh H w w'
 Vy:∀args w,(callFunc k1 args).run Tryz.prog w=.ok (.enter k1 args) w
 Vz:∀args w,(callFunc k2 args).run Tryz.prog w=.ok (.enter k2 args) w
 alloc:∀w ts cs t,I w ts->t≠5->I (w.alloc (.cells cs t)) ts
 drew:∀w ts n,I w ts->I (w.drewN n) ts
 rows:∀w ts,I w ts->steps≠[]->∃SB cap,sv=.slice (some ⟨SB,0,none⟩) steps.length cap/\jR w SB 187 steps.length (fun j=>(.int .i64 (steps.getD j (0,0)).1,.int .i64 (steps.getD j (0,0)).2))
 small:∀w ts,I w ts->H<=w.heap.size
theorem Aw (k1 k2:Nat)(eO jE:Array Value)(H:Nat)(ao:Option Addr)(cap:Nat)(s:ByteArray)(steps:List (Nat×Nat))(I:World->List Tok->Prop)(w:World)(hd:yd k1 k2 eO jE H (.slice ao steps.length cap) steps I)(hI:I w [])(hs:s.size<=65535)(hok:dG s.size 0 steps): Calls Tryz.prog 166 #[.string s,.slice ao steps.length cap,.agg #[.func (.func k1) #[] eO,.func (.func k2) #[] jE]] w fun e w'=>e=.returned (.tuple #[])/\I w' (ar s.data.toList 0 steps):=by
 have hsl:=hok.length;have hc1:=hd.Vy;have hc2:=hd.Vz;have hI0:=hd.alloc w [] #[.func (.func k1) #[] eO,.func (.func k2) #[] jE] 206 hI (by decide);have hH:=hd.small w [] hI
 go_enter Tryz.func166,Tryz.ntmps166
 go_wp2
 go_loopw [6,17] (fun pl ix wr=>∃(i p:Nat) (ts:List Tok),i<=steps.length/\ix=.int .i64 i/\pl=.int .i64 p/\p<=s.size/\Hid (dG s.size p (steps.drop i))/\Hid (ts++ar s.data.toList p (steps.drop i)=ar s.data.toList 0 steps)/\Hid (I wr ts) /\
   Hid (wr.heap[w.heap.size]?=some (.cells #[.func (.func k1) #[] eO,.func (.func k2) #[] jE] 206 (0,0)))) (fun _ ix _=>steps.length-(intOf ix).toNat)
 case atStart=>exact⟨0,0,[],aaq _,rfl,rfl,aaq _,hok,rfl,hI0,ah _ _⟩
 case round =>
  clear hI hI0;obtain⟨i,p,ts,hi,rfl,rfl,hp,HO,HT,HI,HB⟩:=hrel
  have RG:Hid (ts.length+(ar s.data.toList p (steps.drop i)).length<=131071):=by
   show _<=_;have a:=abV List.length HT.out;rw[aac]at a;have b:=jT s.data.toList steps 0;omega
  by_cases hlt:i<steps.length
  ·obtain⟨SB,cap',hsv,hrow⟩:=hd.rows wr ts HI.out (ne_of_lt hlt);simp only[abH,acm]at hsv;obtain⟨rfl,rfl⟩:=hsv;obtain⟨x0,x1⟩:=hrow.cell i hlt;have VA:=hrow.lt;obtain⟨c0,c1,fz,JK⟩:=dB HB.out;have Z7:=hd.small wr ts HI.out
   have hdr:steps.drop i=steps.getD i (0,0)::steps.drop (i+1):=by
    rw[List.drop_eq_getElem_cons hlt,aab,aan hlt];rfl
   rw[hdr]at HO HT RG;generalize steps.getD i (0,0)=st at *;obtain⟨l,d⟩:=st;have HOk:=HO.out;obtain⟨hst,hrest⟩:=HOk;have HR:Hid (dG _ _ _):=hrest;have afL:Hid (jR _ _ _ _ _):=hrow;simp only at x0 x1 hst HR;clear hdr hrow hrest HO;rcases hst with⟨rfl,rfl,hpn⟩|⟨g1,g2,g3,g4,g5⟩
   ·have hbyte:(s[p]).toNat<=255:=by have:=UInt8.toNat_lt s[p];omega
    have hcall:=fun u (h:I u ts)=>hd.sym u ts s[p].toNat 0 0 h (by have:=RG.out;omega) ⟨by show s[p].toNat<=285;omega,Nat.one_pos,aaq _⟩;have hwr:IntKind.i64.wrap (s[p].toNat:Int)=(s[p].toNat:Int):=aao _ (by omega);have hI1:=hd.alloc wr ts #[.int .i64 1,.int .i64 0] 187 HI.out (by decide);have hI2:=fun n=>hd.drew _ ts n hI1
    have HT2:Hid ((ts++[(false,s[p].toNat,0,0)])++ar s.data.toList (p+1) (steps.drop (i+1))=ar s.data.toList 0 steps):=by
     show _=_;rw[<-HT.out,ar,dF,aaj rfl,aaw]
     congr 4
     have:s.data.toList.getD p 0=s[p]:=by
      have Z8:p<s.data.toList.length:=by simpa using hpn
      rw[aab,aan Z8];rfl
     rw[this]
    have oP:(wr.alloc (.cells #[.int .i64 ((1:Nat):Int),.int .i64 ((0:Nat):Int)] 187)).heap[w.heap.size]?=some (.cells #[.func (.func k1) #[] eO,.func (.func k2) #[] jE] 206 (0,0)):=ak HB.out _;have hsb:(wr.alloc (.cells #[.int .i64 ((1:Nat):Int),.int .i64 ((0:Nat):Int)] 187)).heap[wr.heap.size]?=some (.cells #[.int .i64 ((1:Nat):Int),.int .i64 ((0:Nat):Int)] 187 (0,0)):=ah _ _;have Na:Hid (_/\_):=⟨oP,hsb⟩
    have HI1:Hid (_/\_):=⟨hI1,hI2⟩
    clear oP hsb HI HB HT hI1 hI2;go_wp2
    go_region_with ((refine (hcall _ ?_).mono ?_;exact HI1.out.2 1;rintro e w1 ⟨rfl,RH,hk3⟩))
    all_goals
     have hs1:=hk3.cells (k:=wr.heap.size) Z7 Na.out.2 (by decide);have hb1:=hk3.cells (k:=w.heap.size) hH Na.out.1 (by decide);obtain⟨y0,y1,fy,hlty⟩:=dB hs1;have HB1:Hid (w1.heap[w.heap.size]?=_):=hb1;have HI3:Hid (I _ _):=RH;clear hs1 hb1 hk3 RH Na HI1 hcall;go_wp2
     go_roundw
     case rel=>exact⟨i+1,p+1,_,by omega,by go_num,by go_num,by omega,HR,HT2,HI3,HB1⟩
     case measure=>simp[intOf];omega
   ·obtain⟨l1,l2,l3⟩:=Rf.tv l g1 g2;obtain⟨d1,d2,d3⟩:=Rf.tB d g3 g4;have hq1:=fun u=>Ny l u g1 g2;have hq2:=fun u=>Nz d u g3 g4
    have hq3:∀u,Calls Tryz.prog 110 #[.int .i64 ((257+Rf.gi l:Nat):Int)] u fun e w'=>e=.returned (.tuple #[.int .i64 (Rf.dK (Rf.gi l):Nat),.int .i64 (Rf.lb (Rf.gi l):Nat)])/\w'=u:=fun u=>by
     have:=Ju ((257+Rf.gi l:Nat):Int) u (by omega) (by omega);rw[(PY _ l1).1,(PY _ l1).2]at this;exact this
    have hq4:∀u,Calls Tryz.prog 111 #[.int .i64 (Rf.ip d:Nat)] u fun e w'=>e=.returned (.tuple #[.int .i64 (Rf.dy (Rf.ip d):Nat),.int .i64 (Rf.db (Rf.ip d):Nat)])/\w'=u:=fun u=>by
     have:=Et ((Rf.ip d:Nat):Int) u (by omega) (by omega);rw[(PZ _ d1).1,(PZ _ d1).2]at this;exact this
    have hlb:=CX _ l1;have hdb:=CY _ d1;have ht1:mU (false,257+Rf.gi l,l-Rf.dK (Rf.gi l),Rf.lb (Rf.gi l)):=⟨by show 257+Rf.gi l<=285;omega,l3,by show Rf.lb (Rf.gi l)<=13;omega⟩
    have ht2:mU (true,Rf.ip d,d-Rf.dy (Rf.ip d),Rf.db (Rf.ip d)):=⟨d1,d3,hdb⟩
    have HT2:Hid (((ts++[(false,257+Rf.gi l,l-Rf.dK (Rf.gi l),Rf.lb (Rf.gi l))])++[(true,Rf.ip d,d-Rf.dy (Rf.ip d),Rf.db (Rf.ip d))])++ar s.data.toList (p+l) (steps.drop (i+1))=ar s.data.toList 0 steps):=by
     show _=_;rw[<-HT.out,ar,dF,aai (by show ¬d=0;omega)];simp
    have hI1:=hd.alloc wr ts #[.int .i64 l,.int .i64 d] 187 HI.out (by decide);have hI2:=fun n=>hd.drew _ ts n hI1;have Ke:=fun u (h:I u ts)=>hd.sym u ts _ _ _ h (by have:=RG.out;omega) ht1
    have Kf:=fun u (h:I u (ts++[(false,257+Rf.gi l,l-Rf.dK (Rf.gi l),Rf.lb (Rf.gi l))]))=>hd.dist u _ _ _ _ h (by
     have:=RG.out;rw[aac,acg]
     omega) ht2
    have e1:(l:Int)-(Rf.dK (Rf.gi l):Nat)=((l-Rf.dK (Rf.gi l):Nat):Int):=by omega
    have e2:(d:Int)-(Rf.dy (Rf.ip d):Nat)=((d-Rf.dy (Rf.ip d):Nat):Int):=by omega
    generalize l-Rf.dK (Rf.gi l)=X1 at *;generalize d-Rf.dy (Rf.ip d)=X2 at *;generalize Rf.dK (Rf.gi l)=LB at *;generalize Rf.dy (Rf.ip d)=DB at *;generalize Rf.lb (Rf.gi l)=LN at *;generalize Rf.db (Rf.ip d)=DN at *;obtain⟨SY,hSY⟩:∃SY:Nat,SY=257+Rf.gi l:=⟨_,rfl⟩
    rw[<-hSY]at hq1 hq3 Ke Kf HT2;generalize Rf.ip d=DX at *;have Na:Hid (_/\_):=⟨ak HB.out (.cells #[.int .i64 (l:Int),.int .i64 (d:Int)] 187),ah wr (.cells #[.int .i64 (l:Int),.int .i64 (d:Int)] 187)⟩
    have HI1:Hid (_/\_):=⟨hI1,hI2⟩
    have afM:¬d=0:=by omega
    have acW:((d:Int)==0)=false:=by simp;omega
    clear l1 l2 l3 d1 d2 d3 ht1 ht2 hSY hlb hdb HI HB HT hI1 hI2;go_wp2
    go_quiet ((first|(go_at_call 181;exact abq (hq1 _))|(go_at_call 182;exact abq (hq2 _))))
    have RH:=HI1.out.2 nq;have RI:Hid (_/\_):=Na.out;clear HI1 Na;generalize hw0:((wr.alloc (.cells #[.int .i64 (l:Int),.int .i64 (d:Int)] 187)).drewN nq)=w0 at RH ⊢;have hbx:w0.heap[w.heap.size]?=some (.cells #[.func (.func k1) #[] eO,.func (.func k2) #[] jE] 206 (0,0)):=by rw[<-hw0];exact RI.out.1
    have hsx:w0.heap[wr.heap.size]?=some (.cells #[.int .i64 (l:Int),.int .i64 (d:Int)] 187 (0,0)):=by rw[<-hw0];exact RI.out.2
    obtain⟨y0,y1,fy,VB⟩:=dB hsx;obtain⟨z0,z1,Z9,hlz⟩:=dB hbx;clear RI hw0 c0 c1 fz JK x0 x1 hq1 hq2;go_wp2_with fail;refine (hq3 _).mono ?_;rintro e w' ⟨rfl,rfl⟩;go_wp2_with fail;refine (hq4 _).mono ?_;rintro e w'' ⟨rfl,rfl⟩;go_wp2_with fail;refine (Ke _ RH).mono ?_;rintro e w1 ⟨rfl,YL,hk4⟩;have hs1:=hk4.cells (k:=wr.heap.size) Z7 hsx (by decide);have hb1:=hk4.cells (k:=w.heap.size) hH hbx (by decide);clear y0 y1 fy VB z0 z1 Z9 hlz hsx hbx hk4 RH hq3 hq4;obtain⟨y0,y1,fy,VB⟩:=dB hs1;obtain⟨z0,z1,Z9,hlz⟩:=dB hb1;go_wp2_with fail;refine (Kf _ YL).mono ?_;rintro e w2 ⟨rfl,hI5,hk5⟩;have hs2:=hk5.cells (k:=wr.heap.size) Z7 hs1 (by decide);have hb2:=hk5.cells (k:=w.heap.size) hH hb1 (by decide);clear y0 y1 fy VB z0 z1 Z9 hlz hs1 hb1 hk5 YL;obtain⟨y0,y1,fy,VB⟩:=dB hs2;have HB2:Hid (w2.heap[w.heap.size]?=_):=hb2;have HI5:Hid (I _ _):=hI5;clear hb2 hs2 hI5;go_wp2
    go_roundw
    case rel=>exact⟨i+1,p+l,_,by omega,by go_num,by go_num,by omega,HR,HT2,HI5,HB2⟩
    case measure=>simp[intOf];omega
  ·obtain⟨c0,c1,fz,JK⟩:=dB HB.out;have e:i=steps.length:=by omega
   subst e;have HT2:=HT.out;rw[List.drop_length,ar]at HT2;have HT3:Hid (_=_):=HT2;have hcall:=hd.sym wr ts 256 0 0 HI.out (by have:=RG.out;omega) ⟨by decide,Nat.one_pos,aaq _⟩;clear HT HT2 HO;go_wp2_with fail;refine hcall.mono ?_;rintro e w1 ⟨rfl,YL,hk4⟩;go_wp2
   go_end0
   exact⟨rfl,by rw[<-HT3.out];exact YL⟩
def ay (ls ds:List Int)(ts:List Tok):List Int:=ts.flatMap (fun t=>Rf.bg (if t.1 then ds else ls) t.2.1++Rf.nb t.2.2.1 t.2.2.2)
theorem pK (ls ds:List Int)(ts:List Tok)(t:Tok):ay ls ds (ts++[t])=ay ls ds ts++(Rf.bg (if t.1 then ds else ls) t.2.1++Rf.nb t.2.2.1 t.2.2.2):=by simp[ay]
def Steps (w:World)(sv:Value)(steps:List (Nat×Nat))(B:Nat):Prop :=
 (∃ao cap,sv=.slice ao steps.length cap)/\(steps≠[]->∃SB cap,sv=.slice (some ⟨SB,0,none⟩) steps.length cap/\SB≠B/\jR w SB 187 steps.length (fun j=>(.int .i64 (steps.getD j (0,0)).1,.int .i64 (steps.getD j (0,0)).2)))
theorem Steps.fr {w w':World}{sv:Value}{steps:List (Nat×Nat)}{B:Nat}(h:Steps w sv steps B)(k:Fr B w w'):Steps w' sv steps B :=
 ⟨h.1,fun hn=>by
  obtain⟨SB,cap,h1,h2,h3⟩:=h.2 hn;refine⟨SB,cap,h1,h2,?_⟩;obtain⟨cs,c1,c2⟩:=h3
  exact⟨cs,(k.kept h2 c1 (by decide)).trans c1,c2⟩⟩
theorem Steps.below {w w':World}{sv:Value}{steps:List (Nat×Nat)}{B:Nat}(h:Steps w sv steps B)(k:Below w.heap.size w w'):Steps w' sv steps B :=
 ⟨h.1,fun hn=>by
  obtain⟨SB,cap,h1,h2,h3⟩:=h.2 hn
  exact⟨SB,cap,h1,h2,h3.kept (k.block _ h3.lt)⟩⟩
theorem aA.alloc {w:World}{B:Nat}{W:List Int}(h:aA w B W)(o:Obj):aA (w.alloc o) B W:=by obtain⟨pv,P,h⟩:=h;exact⟨pv,P,h.alloc o⟩
theorem aA.drewN {w:World}{B:Nat}{W:List Int}(h:aA w B W)(n:Nat):aA (w.drewN n) B W:=by obtain⟨pv,P,h⟩:=h;exact⟨pv,P,h.drewN n⟩
theorem aA.lt {w:World}{B:Nat}{W:List Int}(h:aA w B W):B<w.heap.size:=by obtain⟨pv,P,h⟩:=h;exact h.lt
theorem aA.below {w w':World}{B:Nat}{W:List Int}(h:aA w B W)(k:Below w.heap.size w w'):aA w' B W:=by obtain⟨pv,P,h⟩:=h;exact⟨pv,P,h.kept (fun j _ hj=>k.block j hj)⟩
theorem Fr.alloc {B:Nat}{a w:World}(h:Fr B a w)(hB:B<a.heap.size)(o:Obj):Fr B a (w.alloc o) :=
 h.trans ⟨(aav _ _).alloc (by have:=h.below.size;omega) _,fun k _ hk _=>abI _ _ _ hk⟩
theorem Fr.kh {B H:Nat}{w w':World}(h:Fr B w w')(hB:B<H):Kh H w w':=⟨h.below.size,fun k h1 h2 h3=>h.other k (by omega) h2 h3⟩
structure GE (B:Nat) (W:List Int) (ls ds:List Int) (vy vA sv:Value) (steps:List (Nat×Nat)) (w0:World) (w:World) (ts:List Tok):Prop where
 wr:aA w B (W++ay ls ds ts)
 c1:fu w vy B ls 0
 c2:fu w vA B ds 0
 fr:Fr B w0 w
 st:Steps w sv steps B
 len:(ay ls ds ts).length<=28*ts.length
theorem GE.step {B:Nat}{W ls ds:List Int}{vy vA sv:Value}{steps:List (Nat×Nat)}{w0 w w':World}{ts:List Tok}{t:Tok}(h:GE B W ls ds vy vA sv steps w0 w ts)(hk:t.2.2.2<=13)(hw:aA w' B ((W++ay ls ds ts)++(Rf.bg (if t.1 then ds else ls) t.2.1++xZ t.2.2.1 t.2.2.2)))(hf:Fr B w w'):GE B W ls ds vy vA sv steps w0 w' (ts++[t]):=by
 refine⟨by rw[pK,<-aaw,<-fH];exact hw,h.c1.fr hf,h.c2.fr hf,h.fr.trans hf,h.st.fr hf,?_⟩;rw[pK,aac,aac,aac,Rf.cM,Rf.aC,acg];have a:=h.len
 have b:(((if t.1 then ds else ls):List Int).getD t.2.1 0).toNat<=15:=by
  split
  ·have:=(h.c2.PV t.2.1).2;omega
  ·have:=(h.c1.PV t.2.1).2;omega
 omega
theorem GF (B:Nat)(W ls ds:List Int)(vy vA:Value)(ao:Option Addr)(cap:Nat)(steps:List (Nat×Nat))(w0:World)(hW:W.length<=100000000)(hl:286<=ls.length)(hd:30<=ds.length)(h0:GE B W ls ds vy vA (.slice ao steps.length cap) steps w0 w0 []): ∃c1 c2,vy=.func (.func 195) #[] c1/\vA=.func (.func 195) #[] c2 /\ yd 195 195 c1 c2 w0.heap.size (.slice ao steps.length cap) steps (GE B W ls ds vy vA (.slice ao steps.length cap) steps w0):=by
 obtain⟨WB1,Lb1,C1,e1,_⟩:=h0.c1.val;obtain⟨WB2,Lb2,C2,e2,_⟩:=h0.c2.val;have hB:=h0.wr.lt;refine⟨_,_,e1,e2,⟨?_,?_,yb,yb,?_,?_,?_,?_⟩⟩
 ·intro w ts n x k h hts hok;obtain⟨WB,Lb,C,e,b1,b2,n1,_⟩:=h.c1.val;rw[e1]at e;simp at e;obtain⟨rfl,rfl⟩:=e;have hlen:=h.len;have hn:n<=285:=hok.1;refine (tH n x k WB1 Lb1 C ls B (W++ay ls ds ts) w b1 b2 n1 h.c1.PV h.wr (by omega) (by have:=hok.2.2;simp only at this;omega) (by rw[aac];omega)).mono ?_;rintro e w' ⟨rfl,hw',hf'⟩;exact⟨rfl,h.step (t:=(false,n,x,k)) hok.2.2 hw' hf',hf'.kh hB⟩
 ·intro w ts n x k h hts hok;obtain⟨WB,Lb,C,e,b1,b2,n1,_⟩:=h.c2.val;rw[e2]at e;simp at e;obtain⟨rfl,rfl⟩:=e;have hlen:=h.len;have hn:n<=29:=hok.1;refine (tH n x k WB2 Lb2 C ds B (W++ay ls ds ts) w b1 b2 n1 h.c2.PV h.wr (by omega) (by have:=hok.2.2;simp only at this;omega) (by rw[aac];omega)).mono ?_;rintro e w' ⟨rfl,hw',hf'⟩;exact⟨rfl,h.step (t:=(true,n,x,k)) hok.2.2 hw' hf',hf'.kh hB⟩
 ·intro w ts cs t h _;exact⟨h.wr.alloc _,h.c1.below (ae _ _),h.c2.below (ae _ _),h.fr.alloc hB _,h.st.below (ae _ _),h.len⟩
 ·intro w ts n h;have hb:Below w.heap.size w (w.drewN n):=aaD (aav _ _) n;exact⟨h.wr.drewN n,h.c1.below hb,h.c2.below hb,h.fr.drewN n,h.st.below hb,h.len⟩
 ·intro w ts h hn;obtain⟨SB,cap',q1,_,q3⟩:=h.st.2 hn;exact⟨SB,cap',q1,q3⟩
 ·intro w ts h;exact h.fr.below.size
theorem NC (w:World)(T:Nat)(a b:Value):Kp (·=T) w ((w.setCell ⟨T,0,none⟩ a).setCell ⟨T,1,none⟩ b) :=
 ((Kp.refl (·=T) w).setCell (p:=⟨T,0,none⟩) (.inl rfl) a).setCell (p:=⟨T,1,none⟩) (.inl rfl) b
theorem Ax (B:Nat)(ls ds:List Int)(a1 a2:Option Addr)(p1 p2 N1 N2:Nat)(w:World)(hN1:ls.length=N1)(hN2:ds.length=N2)(l1:N1<=320)(l2:N2<=320)(i1:Ints w a1 ls)(i2:Ints w a2 ds)(b1:∀a,a1=some a->ls≠[]->a.block<w.heap.size)(b2:∀a,a2=some a->ds≠[]->a.block<w.heap.size)(w1:∀j,0<=ls.getD j 0/\ls.getD j 0<=15)(w2:∀j,0<=ds.getD j 0/\ds.getD j 0<=15)(f1:Rf.fs ls ls.length<=32768)(f2:Rf.fs ds ds.length<=32768)(hB:B<w.heap.size): Calls Tryz.prog 171 #[.pointer (some ⟨B,0,none⟩),.slice a1 N1 p1,.slice a2 N2 p2] w fun e w'=>∃vy vA,e=.returned (.agg #[vy,vA])/\fu w' vy B ls w.heap.size/\fu w' vA B ds w.heap.size/\Below w.heap.size w w':=by
 go_enter Tryz.func171,Tryz.ntmps171
 go_wp2_with fail;have k0:=ae w (.cells #[.nilFunc,.nilFunc] 206);refine (jS B a1 p1 ls N1 _ hN1 l1 (i1.below k0 b1) (fun a e h=>by have:=b1 a e h;simp;omega) w1 f1 (by simp;omega)).mono ?_;rintro e u1 ⟨vy,rfl,Uo,k1⟩;have s1:=k1.size;rw[aas]at s1;have k01:=k0.trans (k1.mono (by simp));go_wp2_with fail;refine (jS B a2 p2 ds N2 _ hN2 l2 (i2.below k01 b2) (fun a e h=>by have:=b2 a e h;omega) w2 f2 (by omega)).mono ?_;rintro e u2 ⟨vA,rfl,RJ,k2⟩;have hr:u2.heap[w.heap.size]?=some (.cells #[.nilFunc,.nilFunc] 206 (0,0)):=(k2.block _ (by omega)).trans ((k1.block _ (by simp)).trans (ah w _));obtain⟨y0,y1,fy,VB⟩:=dB hr;have RK:=Uo.below k2;obtain⟨P1,Q1,_,e1,_⟩:=RK.val;obtain⟨P2,Q2,_,e2,_⟩:=RJ.val;have hkk:Below w.heap.size w u2:=k01.trans (k2.mono (by omega));have HD:Hid (_/\_/\_):=⟨RK,RJ,hkk⟩
 have hu2:=hkk.size;clear Uo RK RJ k0 k1 k2 k01 hkk;subst e1 e2;go_wp2;have HS:=NC u2 w.heap.size (.func (.func 195) #[] #[.pointer (some ⟨P1,0,none⟩),.pointer (some ⟨Q1,0,none⟩)]) (.func (.func 195) #[] #[.pointer (some ⟨P2,0,none⟩),.pointer (some ⟨Q2,0,none⟩)]);refine aaF (v:=.agg #[.func (.func 195) #[] #[.pointer (some ⟨P1,0,none⟩),.pointer (some ⟨Q1,0,none⟩)],.func (.func 195) #[] #[.pointer (some ⟨P2,0,none⟩),.pointer (some ⟨Q2,0,none⟩)]]) (by simp[results,Tryz.results171,go_sem,y0,y1]) rfl ⟨_,_,rfl,?_,?_,?_⟩
 ·exact (HD.out.1.kept HS (fun j hj=>by rw[hj,aas];omega)).weak (by rw[aas];omega)
 ·exact (HD.out.2.1.kept HS (fun j hj=>by rw[hj];omega)).weak (by omega)
 ·exact HD.out.2.2.trans (HS.below (by omega) (fun k _ hk=>by omega))
theorem mj (B:Nat)(W ls ds:List Int)(vy vA:Value)(ao:Option Addr)(cap:Nat)(s:ByteArray)(steps:List (Nat×Nat))(w:World)(hW:W.length<=100000000)(hl:286<=ls.length)(hd:30<=ds.length)(hw:aA w B W)(c1:fu w vy B ls 0)(c2:fu w vA B ds 0)(hst:Steps w (.slice ao steps.length cap) steps B)(hs:s.size<=65535)(hok:dG s.size 0 steps): Calls Tryz.prog 166 #[.string s,.slice ao steps.length cap,.agg #[vy,vA]] w fun e w'=>e=.returned (.tuple #[])/\aA w' B (W++ay ls ds (ar s.data.toList 0 steps))/\Fr B w w':=by
 have h0:GE B W ls ds vy vA (.slice ao steps.length cap) steps w w []:=⟨by simpa[ay]using hw,c1,c2,Fr.refl _ _,hst,by simp[ay]⟩
 obtain⟨q1,q2,rfl,rfl,hdo⟩:=GF B W ls ds vy vA ao cap steps w hW hl hd h0;refine (Aw _ _ q1 q2 _ ao cap s steps _ w hdo h0 hs hok).mono ?_;rintro e w' ⟨rfl,h⟩;exact⟨rfl,h.wr,h.fr⟩
def fg (N:Nat)(b:Bool)(ts:List Tok):List Int:=(List.range N).map (fun j=>((ts.countP (fun t=>decide (t.1=b/\t.2.1=j)):Nat):Int))
def aW (ts:List Tok):Nat:=(ts.map (fun t=>t.2.2.2)).sum
theorem eQ (N:Nat)(b:Bool)(ts:List Tok):(fg N b ts).length=N:=by simp[fg]
theorem ji (N:Nat)(b:Bool)(ts:List Tok)(j:Nat)(h:j<N):(fg N b ts).getD j 0=((ts.countP (fun t=>decide (t.1=b/\t.2.1=j)):Nat):Int):=by
 unfold fg;rw[aab,abC,List.getElem?_range h];rfl
theorem gO (N:Nat)(b:Bool)(ts:List Tok)(j:Nat):0<=(fg N b ts).getD j 0/\(fg N b ts).getD j 0<=ts.length:=by
 by_cases h:j<N
 ·rw[ji N b ts j h];have:=List.countP_le_length (p:=fun t:Tok=>decide (t.1=b/\t.2.1=j)) (l:=ts);omega
 ·rw[aab,aaC (by rw[eQ];omega)];simp
theorem tI (N:Nat)(b:Bool)(ts:List Tok)(n x k:Nat):fg N b (ts++[(b,n,x,k)])=(fg N b ts).set n ((fg N b ts).getD n 0+1):=by
 apply aca
 ·simp[fg]
 ·intro j h1 h2;have hj:j<N:=by simpa[fg]using h1
  rw[List.getElem_set];by_cases e:n=j
  ·subst e;rw[aaj rfl,ji N b ts n hj];simp only[fg,acB,acG,List.countP_append,List.countP_cons,List.countP_nil];simp
  ·rw[aai e];simp only[fg,acB,acG,List.countP_append,List.countP_cons,List.countP_nil];simp[e]
theorem wE (N:Nat)(b c:Bool)(h:c≠b)(ts:List Tok)(n x k:Nat):fg N b (ts++[(c,n,x,k)])=fg N b ts:=by
 unfold fg;refine acJ (fun j _=>?_);rw[List.countP_append];simp[h]
theorem iT (ts:List Tok)(t:Tok):aW (ts++[t])=aW ts+t.2.2.2:=by simp[aW]
structure jU (Tb Sy Di:Nat) (sv:Value) (steps:List (Nat×Nat)) (b0:Nat) (w0:World) (w:World) (ts:List Tok):Prop where
 box:w.heap[Tb]?=some (.cells #[.slice (some ⟨Sy,0,none⟩) 286 286,.slice (some ⟨Di,0,none⟩) 30 30,.int .i64 (aW ts:Nat)] 191 (0,0))
 sy:aQ w Sy (fg 286 false ts)
 di:aQ w Di (fg 30 true ts)
 be:Below b0 w0 w
 st:Steps w sv steps Tb
 ne:Sy≠Di/\Sy≠Tb/\Di≠Tb/\b0<=Sy/\b0<=Di/\b0<=Tb
 ex:aW ts<=13*ts.length
theorem cells3 {w:World}{T:Nat}{a b c:Value}{t:TypeId}(h:w.heap[T]?=some (.cells #[a,b,c] t (0,0))): w.cell? ⟨T,0,none⟩=some a/\w.cell? ⟨T,1,none⟩=some b/\w.cell? ⟨T,2,none⟩=some c/\(∀j,w.frozen? ⟨T,j,none⟩=false)/\T<w.heap.size :=
 ⟨aat _ _ _ _ _ _ h,aat _ _ _ _ _ _ h,aat _ _ _ _ _ _ h,fun j=>aaI w T j _ _ h,aaa h⟩
theorem Steps.kept {w w':World}{sv:Value}{steps:List (Nat×Nat)}{B b0:Nat}(h:Steps w sv steps B)(k:∀j,j<b0->j<w.heap.size->w'.heap[j]?=w.heap[j]?)(hsv:∀SB cap,sv=.slice (some ⟨SB,0,none⟩) steps.length cap->SB<b0):Steps w' sv steps B :=
 ⟨h.1,fun hn=>by
  obtain⟨SB,cap,h1,h2,h3⟩:=h.2 hn
  exact⟨SB,cap,h1,h2,h3.kept (k _ (hsv SB cap h1) h3.lt)⟩⟩
theorem jU.kp (Tb Sy Di G n:Nat)(hG:G=Sy\/G=Di)(w:World)(u v:Value):Kp (fun j=>j=Tb\/j=Sy\/j=Di) w ((w.setCell ⟨G,n,none⟩ u).setCell ⟨Tb,2,none⟩ v) :=
 ((Kp.refl _ w).setCell (p:=⟨G,n,none⟩) (.inl (by rcases hG with rfl|rfl<;>simp)) u).setCell (p:=⟨Tb,2,none⟩) (.inl (.inl rfl)) v
theorem jU.sym {Tb Sy Di:Nat}{sv:Value}{steps:List (Nat×Nat)}{b0:Nat}{w0 w:World}{ts:List Tok}(h:jU Tb Sy Di sv steps b0 w0 w ts)(n x k:Nat)(hk:k<=13)(hsv:∀SB cap,sv=.slice (some ⟨SB,0,none⟩) steps.length cap->SB<b0): jU Tb Sy Di sv steps b0 w0 ((w.setCell ⟨Sy,n,none⟩ (.int .i64 ((fg 286 false ts).getD n 0+1))).setCell ⟨Tb,2,none⟩ (.int .i64 ((aW ts:Nat)+(k:Int)))) (ts++[(false,n,x,k)]):=by
 obtain⟨n1,n2,n3,n4,n5,n6⟩:=h.ne;have K:=jU.kp Tb Sy Di Sy n (.inl rfl) w (.int .i64 ((fg 286 false ts).getD n 0+1)) (.int .i64 ((aW ts:Nat)+(k:Int)));refine⟨?_,?_,?_,h.be.trans (K.below (by have:=aaa h.box;omega) (fun j _ hj=>by omega)),h.st.kept (fun j hj hl=>K.block j hl (by omega)) hsv,h.ne,by rw[iT,aac];have:=h.ex;simp only[acg];omega⟩
 ·refine (aau _ Tb 2 _ _ _ ((aak w ⟨Sy,n,none⟩ _ Tb (acN n2)).trans h.box)).trans ?_;rw[iT];simp
 ·rw[tI];exact (aak _ ⟨Tb,2,none⟩ _ Sy n2).trans (h.sy.set n _)
 ·rw[wE 30 true false (by decide)];exact (aak _ ⟨Tb,2,none⟩ _ Di n3).trans ((aak w ⟨Sy,n,none⟩ _ Di (acN n1)).trans h.di)
theorem jU.dist {Tb Sy Di:Nat}{sv:Value}{steps:List (Nat×Nat)}{b0:Nat}{w0 w:World}{ts:List Tok}(h:jU Tb Sy Di sv steps b0 w0 w ts)(n x k:Nat)(hk:k<=13)(hsv:∀SB cap,sv=.slice (some ⟨SB,0,none⟩) steps.length cap->SB<b0): jU Tb Sy Di sv steps b0 w0 ((w.setCell ⟨Di,n,none⟩ (.int .i64 ((fg 30 true ts).getD n 0+1))).setCell ⟨Tb,2,none⟩ (.int .i64 ((aW ts:Nat)+(k:Int)))) (ts++[(true,n,x,k)]):=by
 obtain⟨n1,n2,n3,n4,n5,n6⟩:=h.ne;have K:=jU.kp Tb Sy Di Di n (.inr rfl) w (.int .i64 ((fg 30 true ts).getD n 0+1)) (.int .i64 ((aW ts:Nat)+(k:Int)));refine⟨?_,?_,?_,h.be.trans (K.below (by have:=aaa h.box;omega) (fun j _ hj=>by omega)),h.st.kept (fun j hj hl=>K.block j hl (by omega)) hsv,h.ne,by rw[iT,aac];have:=h.ex;simp only[acg];omega⟩
 ·refine (aau _ Tb 2 _ _ _ ((aak w ⟨Di,n,none⟩ _ Tb (acN n3)).trans h.box)).trans ?_;rw[iT];simp
 ·rw[wE 286 false true (by decide)];exact (aak _ ⟨Tb,2,none⟩ _ Sy n2).trans ((aak w ⟨Di,n,none⟩ _ Sy n1).trans h.sy)
 ·rw[tI];exact (aak _ ⟨Tb,2,none⟩ _ Di n3).trans (h.di.set n _)
theorem aQ.at_ {w:World}{g:Nat}{zs:List Int}(h:aQ w g zs)(j:Nat)(hj:j<zs.length):w.cell? ⟨g,j,none⟩=some (.int .i64 (zs.getD j 0)):=by
 rw[h.cell j hj,aab,aan hj];rfl
theorem ND (Tb Sy Di:Nat)(sv:Value)(steps:List (Nat×Nat))(b0:Nat)(w0 w:World)(ts:List Tok)(n x k:Nat)(h:jU Tb Sy Di sv steps b0 w0 w ts)(hn:n<286)(hts:ts.length<200000)(hk:k<=13)(hsv:∀SB cap,sv=.slice (some ⟨SB,0,none⟩) steps.length cap->SB<b0): Calls Tryz.prog 167 #[.int .i64 n,.int .i64 x,.int .i64 k,.pointer (some ⟨Tb,0,none⟩)] w fun e w'=>e=.returned (.tuple #[])/\jU Tb Sy Di sv steps b0 w0 w' (ts++[(false,n,x,k)])/\Kp (fun j=>j=Tb\/j=Sy\/j=Di) w w':=by
 obtain⟨c0,c1,c2,fz,hlt⟩:=cells3 h.box;obtain⟨n1,n2,n3,n4,n5,n6⟩:=h.ne;have hr:=gO 286 false ts n;have hcell:=h.sy.at_ n (by rw[eQ];exact hn);have hfz:∀j,w.frozen? ⟨Sy,j,none⟩=false:=fun j=>aaI w Sy j _ _ h.sy;have hex:=h.ex;have VA:=aaa h.sy;have H:=h.sym n x k hk hsv;have K:=jU.kp Tb Sy Di Sy n (.inl rfl) w (.int .i64 ((fg 286 false ts).getD n 0+1)) (.int .i64 ((aW ts:Nat)+(k:Int)));generalize (fg 286 false ts).getD n 0=v at *
 go_enter Tryz.func167,Tryz.ntmps167
 go_wp2
 go_end0
 exact⟨rfl,H,K⟩
theorem NF (Tb Sy Di:Nat)(sv:Value)(steps:List (Nat×Nat))(b0:Nat)(w0 w:World)(ts:List Tok)(n x k:Nat)(h:jU Tb Sy Di sv steps b0 w0 w ts)(hn:n<30)(hts:ts.length<200000)(hk:k<=13)(hsv:∀SB cap,sv=.slice (some ⟨SB,0,none⟩) steps.length cap->SB<b0): Calls Tryz.prog 168 #[.int .i64 n,.int .i64 x,.int .i64 k,.pointer (some ⟨Tb,0,none⟩)] w fun e w'=>e=.returned (.tuple #[])/\jU Tb Sy Di sv steps b0 w0 w' (ts++[(true,n,x,k)])/\Kp (fun j=>j=Tb\/j=Sy\/j=Di) w w':=by
 obtain⟨c0,c1,c2,fz,hlt⟩:=cells3 h.box;obtain⟨n1,n2,n3,n4,n5,n6⟩:=h.ne;have hr:=gO 30 true ts n;have hcell:=h.di.at_ n (by rw[eQ];exact hn);have hfz:∀j,w.frozen? ⟨Di,j,none⟩=false:=fun j=>aaI w Di j _ _ h.di;have hex:=h.ex;have VA:=aaa h.di;have H:=h.dist n x k hk hsv;have K:=jU.kp Tb Sy Di Di n (.inr rfl) w (.int .i64 ((fg 30 true ts).getD n 0+1)) (.int .i64 ((aW ts:Nat)+(k:Int)));generalize (fg 30 true ts).getD n 0=v at *
 go_enter Tryz.func168,Tryz.ntmps168
 go_wp2
 go_end0
 exact⟨rfl,H,K⟩
theorem RL (args:Array Value)(w:World):(callFunc 167 args).run Tryz.prog w=.ok (.enter 167 args) w:=by kernel_rfl
theorem RM (args:Array Value)(w:World):(callFunc 168 args).run Tryz.prog w=.ok (.enter 168 args) w:=by kernel_rfl
theorem P7 {S:Nat->Prop}{w w':World}{H:Nat}(k:Kp S w w')(hS:∀j,S j->j<H):Kh H w w':=⟨k.size,fun j h1 h2 _=>k.block j h2 (fun h=>by have:=hS j h;omega)⟩
theorem GG (Tb Sy Di:Nat)(ao:Option Addr)(cap:Nat)(steps:List (Nat×Nat))(b0 H:Nat)(w0 w:World)(h:jU Tb Sy Di (.slice ao steps.length cap) steps b0 w0 w [])(hH:H=w.heap.size)(hsv:∀SB cap',Value.slice ao steps.length cap=.slice (some ⟨SB,0,none⟩) steps.length cap'->SB<b0): yd 167 168 #[.pointer (some ⟨Tb,0,none⟩)] #[.pointer (some ⟨Tb,0,none⟩)] H (.slice ao steps.length cap) steps (fun u ts=>jU Tb Sy Di (.slice ao steps.length cap) steps b0 w0 u ts/\H<=u.heap.size):=by
 have l1:=aaa h.box;have l2:=aaa h.sy;have l3:=aaa h.di;refine⟨?_,?_,RL,RM,?_,?_,?_,fun u ts h=>h.2⟩
 ·rintro u ts n x k ⟨h,hu⟩ hts hok;refine (ND Tb Sy Di _ steps b0 w0 u ts n x k h (by have:n<=285:=hok.1;omega) hts hok.2.2 hsv).mono ?_;rintro e u' ⟨rfl,h',k'⟩;exact⟨rfl,⟨h',by have:=k'.size;omega⟩,P7 k' (fun j hj=>by omega)⟩
 ·rintro u ts n x k ⟨h,hu⟩ hts hok;refine (NF Tb Sy Di _ steps b0 w0 u ts n x k h (by have:n<=29:=hok.1;omega) hts hok.2.2 hsv).mono ?_;rintro e u' ⟨rfl,h',k'⟩;exact⟨rfl,⟨h',by have:=k'.size;omega⟩,P7 k' (fun j hj=>by omega)⟩
 ·rintro u ts cs t ⟨h,hu⟩ _;have hb:=ae u (.cells cs t);exact⟨⟨ak h.box _,ak h.sy _,ak h.di _,h.be.trans (hb.mono (by have:=aaa h.box;have:=h.ne;omega)),h.st.below hb,h.ne,h.ex⟩,by simp;omega⟩
 ·rintro u ts n ⟨h,hu⟩;have hb:Below u.heap.size u (u.drewN n):=aaD (aav _ _) n;exact⟨⟨h.box,h.sy,h.di,h.be.trans (hb.mono (by have:=aaa h.box;have:=h.ne;omega)),h.st.below hb,h.ne,h.ex⟩,hu⟩
 ·rintro u ts ⟨h,hu⟩ hn;obtain⟨SB,cap',q1,_,q3⟩:=h.st.2 hn;exact⟨SB,cap',q1,q3⟩
end Go.Proofs.YtmfijackgekioabGreatDoor
