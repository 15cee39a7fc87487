import Derived.Test.YtmfijackgekioaaGreatDoorQ09
import Derived.Test.YtmfijackgekioaaGreatDoorQ10
import Derived.Lib.Strings
import Derived.Lib.Small
import Derived.Lib.Walk
import Derived.Lib.BitFns
import Derived.Laws.EntriesVeiled
set_option maxHeartbeats 4000000
set_option maxRecDepth 100000
namespace Go.Proofs.YtmfijackgekioaaGreatDoor
open Go.RowKit
theorem qI (x:Nat)(h:x<2^64):Lib.bitLen x=Rf.k7 x:=by
 induction x using Nat.strongRecOn with
 | _ x ih =>
  by_cases h0:x=0
  ·subst h0;decide
  ·rw[Lib.bitLen_half x h0 h,ih (x/2) (by omega) (by omega)];unfold Rf.k7;rw[aae h0];by_cases h1:x=1
   ·subst h1;decide
   ·rw[aae (by omega)];have:x.log2=(x/2).log2+1:=by rw[Nat.log2_def,aaf (by omega)]
    omega
theorem oW (n:Nat)(h:n<256):Lib.bitLen n<=8:=Lib.bitLen_le8 ⟨n,h⟩
theorem OQ (x:Int)(w:World)(h0:0<=x)(h1:x<=32767): Calls Tryz.prog 254 #[.int .u64 x] w fun e w'=>e=.returned (.int .i64 (Rf.k7 x.toNat))/\w'=w:=by
 have g1:¬(x≥4294967296):=by omega
 have g2:¬(x≥65536):=by omega
 by_cases g3:x≥256
 ·have q1:(0:Int)<=x/256:=by omega
  have q2:x/256<=255:=by omega
  go_enter Tryz.func254,Tryz.ntmps254
  go_wp2
  go_ret
  refine⟨abq Ending.returned (abq (Value.int IntKind.i64) ?_),rfl⟩;have hb:=qI x.toNat (by omega);have s:=Lib.bitLen_shift8 x.toNat (by omega) (by omega);have lt:=oW (x.toNat/256) (by omega);have e:(x/256).toNat=x.toNat/256:=by omega
  rw[Lib.len8_of (x/256) q1 q2,e];unfold wrap64;omega
 ·have q2:x<=255:=by omega
  go_enter Tryz.func254,Tryz.ntmps254
  go_wp2
  go_ret
  refine⟨abq Ending.returned (abq (Value.int IntKind.i64) ?_),rfl⟩;have hb:=qI x.toNat (by omega);have lt:=oW x.toNat (by omega);rw[Lib.len8_of x h0 q2];unfold wrap64;omega
theorem Ij (x:Int)(w:World)(h0:0<=x)(h1:x<=32767): Calls Tryz.prog 241 #[.int .u64 x] w fun e w'=>e=.returned (.int .i64 (Rf.k7 x.toNat))/\w'=w:=by
 go_enter Tryz.func241,Tryz.ntmps241
 go_wp2_with (go_at_call 254;refine (OQ x _ h0 h1).mono ?_;rintro e w' ⟨rfl,rfl⟩)
 go_ret
 exact⟨rfl,rfl⟩
theorem De (x k:Nat)(h:x<2^k):Rf.k7 x<=k:=by
 unfold Rf.k7;split
 ·omega
 ·next h0 =>
  have:=(Nat.log2_lt h0 (k:=k)).2 h;omega
theorem Ly (l:Nat)(w:World)(h1:3<=l)(h2:l<=258): Calls Tryz.prog 228 #[.int .i64 l] w fun e w'=>e=.returned (.int .i64 ((257+Rf.fG l:Nat):Int))/\w'=w:=by
 by_cases h:l=258
 ·subst h
  go_enter Tryz.func228,Tryz.ntmps228
  go_wp2
  go_ret
  exact⟨rfl,rfl⟩
 ·have hb:=De (l-3) 8 (by omega);have e0:((l:Int)-3).toNat=l-3:=by omega
  have hl:(l:Int)≠258:=by omega
  have hlen:=fun w=>Ij ((l:Int)-3) w (by omega) (by omega);rw[e0]at hlen;have HX:Hid (Rf.fG l=4*(Rf.k7 (l-3)-3)+(l-3)/2^(Rf.k7 (l-3)-3)):=by show _=_;rw[Rf.fG,aae h]
  generalize Rf.k7 (l-3)=b at *;by_cases hb3:b<3
  ·have m1:max ((b:Int)-3) 0=0:=by omega
   go_enter Tryz.func228,Tryz.ntmps228
   go_wp2_with (go_at_call 241;refine (hlen _).mono ?_;rintro e w' ⟨rfl,rfl⟩)
   go_ret
   refine⟨aC ?_,rfl⟩;rw[HX.out,show b-3=0 by omega];simp only[Nat.pow_zero,Nat.div_one];omega
  ·have m1:max ((b:Int)-3) 0=(b:Int)-3:=by omega
   have m2:((b:Int)-3).toNat=b-3:=by omega
   have m3:(0:Int)<=(b:Int)-3:=by omega
   have hq:((l:Int)-3)/2^(b-3)=(((l-3)/2^(b-3):Nat):Int):=by
    rw[show (l:Int)-3=((l-3:Nat):Int) by omega];simp
   have hq2:(l-3)/2^(b-3)<=258:=by have:=Nat.div_le_self (l-3) (2^(b-3));omega
   generalize (l-3)/2^(b-3)=q at *
   go_enter Tryz.func228,Tryz.ntmps228
   go_wp2_with (go_at_call 241;refine (hlen _).mono ?_;rintro e w' ⟨rfl,rfl⟩)
   go_ret
   refine⟨aC ?_,rfl⟩;rw[HX.out];omega
theorem Lz (d:Nat)(w:World)(h1:1<=d)(h2:d<=32768): Calls Tryz.prog 229 #[.int .i64 d] w fun e w'=>e=.returned (.int .i64 (Rf.gJ d:Nat))/\w'=w:=by
 have hb:=De (d-1) 15 (by omega);have e0:((d:Int)-1).toNat=d-1:=by omega
 have hlen:=fun w=>Ij ((d:Int)-1) w (by omega) (by omega);rw[e0]at hlen;have HX:Hid (Rf.gJ d=2*(Rf.k7 (d-1)-2)+(d-1)/2^(Rf.k7 (d-1)-2)):=rfl;generalize Rf.k7 (d-1)=b at *;by_cases hb3:b<2
 ·have m1:max ((b:Int)-2) 0=0:=by omega
  go_enter Tryz.func229,Tryz.ntmps229
  go_wp2_with (go_at_call 241;refine (hlen _).mono ?_;rintro e w' ⟨rfl,rfl⟩)
  go_ret
  refine⟨aC ?_,rfl⟩;rw[HX.out,show b-2=0 by omega];simp only[Nat.pow_zero,Nat.div_one];omega
 ·have m1:max ((b:Int)-2) 0=(b:Int)-2:=by omega
  have m2:((b:Int)-2).toNat=b-2:=by omega
  have m3:(0:Int)<=(b:Int)-2:=by omega
  have hq:((d:Int)-1)/2^(b-2)=(((d-1)/2^(b-2):Nat):Int):=by
   rw[show (d:Int)-1=((d-1:Nat):Int) by omega];simp
  have hq2:(d-1)/2^(b-2)<=32768:=by have:=Nat.div_le_self (d-1) (2^(b-2));omega
  generalize (d-1)/2^(b-2)=q at *
  go_enter Tryz.func229,Tryz.ntmps229
  go_wp2_with (go_at_call 241;refine (hlen _).mono ?_;rintro e w' ⟨rfl,rfl⟩)
  go_ret
  refine⟨aC ?_,rfl⟩;rw[HX.out];omega
theorem LA:∀i:Fin 29,lb ((257+i.val:Nat):Int)=(Rf.dj i.val:Int)/\WL ((257+i.val:Nat):Int)=Rf.lb i.val:=by decide +kernel
theorem LC:∀i:Fin 30,db ((i.val:Nat):Int)=(Rf.cR i.val:Int)/\de ((i.val:Nat):Int)=Rf.db i.val:=by decide +kernel
theorem NA (i:Nat)(h:i<=28):lb ((257+i:Nat):Int)=(Rf.dj i:Int)/\WL ((257+i:Nat):Int)=Rf.lb i:=LA ⟨i,by omega⟩
theorem NB (i:Nat)(h:i<=29):db ((i:Nat):Int)=(Rf.cR i:Int)/\de ((i:Nat):Int)=Rf.db i:=LC ⟨i,by omega⟩
theorem Bh (i:Nat)(h:i<=28):Rf.lb i<=5:=by
 have:∀i:Fin 29,Rf.lb i.val<=5:=by decide +kernel
 exact this ⟨i,by omega⟩
theorem Bi (i:Nat)(h:i<=29):Rf.db i<=13:=by
 have:∀i:Fin 30,Rf.db i.val<=13:=by decide +kernel
 exact this ⟨i,by omega⟩
abbrev Tok:=Bool×Nat×Nat×Nat
def cZ (T:List UInt8)(p:Nat)(s:Nat×Nat):List Tok :=
 if s.2=0 then [(false,(T.getD p 0).toNat,0,0)]
 else [(false,257+Rf.fG s.1,s.1-Rf.dj (Rf.fG s.1),Rf.lb (Rf.fG s.1)),(true,Rf.gJ s.2,s.2-Rf.cR (Rf.gJ s.2),Rf.db (Rf.gJ s.2))]
def ax (T:List UInt8):Nat->List (Nat×Nat)->List Tok
 | _,[]=>[(false,256,0,0)]
 | p,s::r=>cZ T p s++ax T (p+s.1) r
def c8 (n:Nat):Nat->List (Nat×Nat)->Prop
 | p,[]=>p<=n
 | p,s::r=>((s.2=0/\s.1=1/\p<n)\/(3<=s.1/\s.1<=258/\1<=s.2/\s.2<=32768/\p+s.1<=n))/\c8 n (p+s.1) r
theorem c8.length {n:Nat}:∀{p:Nat} {steps:List (Nat×Nat)},c8 n p steps->p+steps.length<=n
 | _,[],h=>h
 | p,s::r,⟨h1,h2⟩=>by
  have:=c8.length h2;rw[aao];omega
theorem jt (T:List UInt8):∀(steps:List (Nat×Nat)) (p:Nat),(ax T p steps).length<=2*steps.length+1
 | [],_=>aad _
 | s::r,p=>by
  have:=jt T r (p+s.1);rw[ax,aac,aao];have:(cZ T p s).length<=2:=by unfold cZ;split<;>simp
  omega
structure Kh (H:Nat) (w w':World):Prop where
 size:w.heap.size<=w'.heap.size
 block:∀k,H<=k->k<w.heap.size->(∀c fr,w.heap[k]?≠some (.cells c 5 fr))->w'.heap[k]?=w.heap[k]?
theorem Kh.cells {H:Nat}{w w':World}(h:Kh H w w'){k:Nat}(hk:H<=k){cs:Array Value}{t:TypeId}(hb:w.heap[k]?=some (.cells cs t (0,0)))(ht:t≠5):w'.heap[k]?=some (.cells cs t (0,0)):=by
 refine (h.block k hk (aab hb) (fun c fr e=>?_)).trans hb;rw[hb]at e;simp at e;exact ht e.2.1
def lY (t:Tok):Prop:=t.2.1<=(if t.1 then 29 else 285)/\t.2.2.1<2^t.2.2.2/\t.2.2.2<=13
structure xh (k1 k2:Nat) (dY jc:Array Value) (H:Nat) (sv:Value) (steps:List (Nat×Nat)) (I:World->List Tok->Prop):Prop where
 sym:∀w ts n x k,I w ts->ts.length<200000->lY (false,n,x,k)->Calls Tryz.prog k1 (#[.int .i64 n,.int .i64 x,.int .i64 k]++dY) w fun e w'=>e=.returned (.tuple #[])/\I w' (ts++[(false,n,x,k)])/\Kh H w w'
 dist:∀w ts n x k,I w ts->ts.length<200000->lY (true,n,x,k)->Calls Tryz.prog k2 (#[.int .i64 n,.int .i64 x,.int .i64 k]++jc) w fun e w'=>e=.returned (.tuple #[])/\I w' (ts++[(true,n,x,k)])/\Kh H w w'
 Sg:∀args w,(callFunc k1 args).run Tryz.prog w=.ok (.enter k1 args) w
 Sh:∀args w,(callFunc k2 args).run Tryz.prog w=.ok (.enter k2 args) w
 alloc:∀w ts cs t,I w ts->t≠5->I (w.alloc (.cells cs t)) ts
 drew:∀w ts n,I w ts->I (w.drewN n) ts
 rows:∀w ts,I w ts->steps≠[]->∃SB cap,sv=.slice (some ⟨SB,0,none⟩) steps.length cap/\jr w SB 216 steps.length (fun j=>(.int .i64 (steps.getD j (0,0)).1,.int .i64 (steps.getD j (0,0)).2))
 small:∀w ts,I w ts->H<=w.heap.size
theorem zj (k1 k2:Nat)(dY jc:Array Value)(H:Nat)(ao:Option Addr)(cap:Nat)(s:ByteArray)(steps:List (Nat×Nat))(I:World->List Tok->Prop)(w:World)(hd:xh k1 k2 dY jc H (.slice ao steps.length cap) steps I)(hI:I w [])(hs:s.size<=65535)(hok:c8 s.size 0 steps): Calls Tryz.prog 211 #[.string s,.slice ao steps.length cap,.agg #[.func (.func k1) #[] dY,.func (.func k2) #[] jc]] w fun e w'=>e=.returned (.tuple #[])/\I w' (ax s.data.toList 0 steps):=by
 have hsl:=hok.length;have hc1:=hd.Sg;have hc2:=hd.Sh;have hI0:=hd.alloc w [] #[.func (.func k1) #[] dY,.func (.func k2) #[] jc] 243 hI (by decide);have hH:=hd.small w [] hI
 go_enter Tryz.func211,Tryz.ntmps211
 go_wp2
 go_loopw [6,17] (fun pl ix wr=>∃(i p:Nat) (ts:List Tok),i<=steps.length/\ix=.int .i64 i/\pl=.int .i64 p/\p<=s.size/\Hid (c8 s.size p (steps.drop i))/\Hid (ts++ax s.data.toList p (steps.drop i)=ax s.data.toList 0 steps)/\Hid (I wr ts) /\
   Hid (wr.heap[w.heap.size]?=some (.cells #[.func (.func k1) #[] dY,.func (.func k2) #[] jc] 243 (0,0)))) (fun _ ix _=>steps.length-(intOf ix).toNat)
 case atStart=>exact⟨0,0,[],aaj _,rfl,rfl,aaj _,hok,rfl,hI0,ak _ _⟩
 case round =>
  clear hI hI0;obtain⟨i,p,ts,hi,rfl,rfl,hp,HO,HT,HI,HB⟩:=hrel
  have OT:Hid (ts.length+(ax s.data.toList p (steps.drop i)).length<=131071):=by
   show _<=_;have a:=abq List.length HT.out;rw[aac]at a;have b:=jt s.data.toList steps 0;omega
  by_cases hlt:i<steps.length
  ·obtain⟨SB,cap',hsv,hrow⟩:=hd.rows wr ts HI.out (ne_of_lt hlt);simp only[abd,abG]at hsv;obtain⟨rfl,rfl⟩:=hsv;obtain⟨x0,x1⟩:=hrow.cell i hlt;have Si:=hrow.lt;obtain⟨c0,c1,fz,Sj⟩:=fq HB.out;have WN:=hd.small wr ts HI.out
   have hdr:steps.drop i=steps.getD i (0,0)::steps.drop (i+1):=by
    rw[abB hlt,aaa,aai hlt];rfl
   rw[hdr]at HO HT OT;generalize steps.getD i (0,0)=st at *;obtain⟨l,d⟩:=st;have HOk:=HO.out;obtain⟨hst,hrest⟩:=HOk;have HR:Hid (c8 _ _ _):=hrest;have aco:Hid (jr _ _ _ _ _):=hrow;simp only at x0 x1 hst HR;clear hdr hrow hrest HO;rcases hst with⟨rfl,rfl,hpn⟩|⟨g1,g2,g3,g4,g5⟩
   ·have hbyte:(s[p]).toNat<=255:=by have:=UInt8.toNat_lt s[p];omega
    have hcall:=fun u (h:I u ts)=>hd.sym u ts s[p].toNat 0 0 h (by have:=OT.out;omega) ⟨by show s[p].toNat<=285;omega,Nat.one_pos,aaj _⟩;have hwr:IntKind.i64.wrap (s[p].toNat:Int)=(s[p].toNat:Int):=aah _ (by omega);have hI1:=hd.alloc wr ts #[.int .i64 1,.int .i64 0] 216 HI.out (by decide);have hI2:=fun n=>hd.drew _ ts n hI1
    have HT2:Hid ((ts++[(false,s[p].toNat,0,0)])++ax s.data.toList (p+1) (steps.drop (i+1))=ax s.data.toList 0 steps):=by
     show _=_;rw[<-HT.out,ax,cZ,aaf rfl,aaq]
     congr 4
     have:s.data.toList.getD p 0=s[p]:=by
      have WO:p<s.data.toList.length:=by simpa using hpn
      rw[aaa,aai WO];rfl
     rw[this]
    have ol:(wr.alloc (.cells #[.int .i64 ((1:Nat):Int),.int .i64 ((0:Nat):Int)] 216)).heap[w.heap.size]?=some (.cells #[.func (.func k1) #[] dY,.func (.func k2) #[] jc] 243 (0,0)):=aw HB.out _;have hsb:(wr.alloc (.cells #[.int .i64 ((1:Nat):Int),.int .i64 ((0:Nat):Int)] 216)).heap[wr.heap.size]?=some (.cells #[.int .i64 ((1:Nat):Int),.int .i64 ((0:Nat):Int)] 216 (0,0)):=ak _ _;have Rd:Hid (_/\_):=⟨ol,hsb⟩
    have HI1:Hid (_/\_):=⟨hI1,hI2⟩
    clear ol hsb HI HB HT hI1 hI2;go_wp2
    go_region_with ((refine (hcall _ ?_).mono ?_;exact HI1.out.2 1;rintro e w1 ⟨rfl,OU,hk3⟩))
    all_goals
     have hs1:=hk3.cells (k:=wr.heap.size) WN Rd.out.2 (by decide);have hb1:=hk3.cells (k:=w.heap.size) hH Rd.out.1 (by decide);obtain⟨y0,y1,fy,hlty⟩:=fq hs1;have HB1:Hid (w1.heap[w.heap.size]?=_):=hb1;have HI3:Hid (I _ _):=OU;clear hs1 hb1 hk3 OU Rd HI1 hcall;go_wp2
     go_roundw
     case rel=>exact⟨i+1,p+1,_,by omega,by go_num,by go_num,by omega,HR,HT2,HI3,HB1⟩
     case measure=>simp[intOf];omega
   ·obtain⟨l1,l2,l3⟩:=Rf.rZ l g1 g2;obtain⟨d1,d2,d3⟩:=Rf.sx d g3 g4;have hq1:=fun u=>Ly l u g1 g2;have hq2:=fun u=>Lz d u g3 g4
    have hq3:∀u,Calls Tryz.prog 164 #[.int .i64 ((257+Rf.fG l:Nat):Int)] u fun e w'=>e=.returned (.tuple #[.int .i64 (Rf.dj (Rf.fG l):Nat),.int .i64 (Rf.lb (Rf.fG l):Nat)])/\w'=u:=fun u=>by
     have:=OM ((257+Rf.fG l:Nat):Int) u (by omega) (by omega);rw[(NA _ l1).1,(NA _ l1).2]at this;exact this
    have hq4:∀u,Calls Tryz.prog 165 #[.int .i64 (Rf.gJ d:Nat)] u fun e w'=>e=.returned (.tuple #[.int .i64 (Rf.cR (Rf.gJ d):Nat),.int .i64 (Rf.db (Rf.gJ d):Nat)])/\w'=u:=fun u=>by
     have:=Lu ((Rf.gJ d:Nat):Int) u (by omega) (by omega);rw[(NB _ d1).1,(NB _ d1).2]at this;exact this
    have hlb:=Bh _ l1;have hdb:=Bi _ d1;have ht1:lY (false,257+Rf.fG l,l-Rf.dj (Rf.fG l),Rf.lb (Rf.fG l)):=⟨by show 257+Rf.fG l<=285;omega,l3,by show Rf.lb (Rf.fG l)<=13;omega⟩
    have ht2:lY (true,Rf.gJ d,d-Rf.cR (Rf.gJ d),Rf.db (Rf.gJ d)):=⟨d1,d3,hdb⟩
    have HT2:Hid (((ts++[(false,257+Rf.fG l,l-Rf.dj (Rf.fG l),Rf.lb (Rf.fG l))])++[(true,Rf.gJ d,d-Rf.cR (Rf.gJ d),Rf.db (Rf.gJ d))])++ax s.data.toList (p+l) (steps.drop (i+1))=ax s.data.toList 0 steps):=by
     show _=_;rw[<-HT.out,ax,cZ,aae (by show ¬d=0;omega)];simp
    have hI1:=hd.alloc wr ts #[.int .i64 l,.int .i64 d] 216 HI.out (by decide);have hI2:=fun n=>hd.drew _ ts n hI1;have Ik:=fun u (h:I u ts)=>hd.sym u ts _ _ _ h (by have:=OT.out;omega) ht1
    have Il:=fun u (h:I u (ts++[(false,257+Rf.fG l,l-Rf.dj (Rf.fG l),Rf.lb (Rf.fG l))]))=>hd.dist u _ _ _ _ h (by
     have:=OT.out;rw[aac,abb]
     omega) ht2
    have e1:(l:Int)-(Rf.dj (Rf.fG l):Nat)=((l-Rf.dj (Rf.fG l):Nat):Int):=by omega
    have e2:(d:Int)-(Rf.cR (Rf.gJ d):Nat)=((d-Rf.cR (Rf.gJ d):Nat):Int):=by omega
    generalize l-Rf.dj (Rf.fG l)=X1 at *;generalize d-Rf.cR (Rf.gJ d)=X2 at *;generalize Rf.dj (Rf.fG l)=LB at *;generalize Rf.cR (Rf.gJ d)=DB at *;generalize Rf.lb (Rf.fG l)=LN at *;generalize Rf.db (Rf.gJ d)=DN at *;obtain⟨SY,Zt⟩:∃SY:Nat,SY=257+Rf.fG l:=⟨_,rfl⟩
    rw[<-Zt]at hq1 hq3 Ik Il HT2;generalize Rf.gJ d=DX at *;have Rd:Hid (_/\_):=⟨aw HB.out (.cells #[.int .i64 (l:Int),.int .i64 (d:Int)] 216),ak wr (.cells #[.int .i64 (l:Int),.int .i64 (d:Int)] 216)⟩
    have HI1:Hid (_/\_):=⟨hI1,hI2⟩
    have acp:¬d=0:=by omega
    have Zu:((d:Int)==0)=false:=by simp;omega
    clear l1 l2 l3 d1 d2 d3 ht1 ht2 Zt hlb hdb HI HB HT hI1 hI2;go_wp2
    go_quiet ((first|(go_at_call 228;exact abr (hq1 _))|(go_at_call 229;exact abr (hq2 _))))
    have OU:=HI1.out.2 nq;have OV:Hid (_/\_):=Rd.out;clear HI1 Rd;generalize hw0:((wr.alloc (.cells #[.int .i64 (l:Int),.int .i64 (d:Int)] 216)).drewN nq)=w0 at OU ⊢;have hbx:w0.heap[w.heap.size]?=some (.cells #[.func (.func k1) #[] dY,.func (.func k2) #[] jc] 243 (0,0)):=by rw[<-hw0];exact OV.out.1
    have hsx:w0.heap[wr.heap.size]?=some (.cells #[.int .i64 (l:Int),.int .i64 (d:Int)] 216 (0,0)):=by rw[<-hw0];exact OV.out.2
    obtain⟨y0,y1,fy,Sk⟩:=fq hsx;obtain⟨z0,z1,WP,hlz⟩:=fq hbx;clear OV hw0 c0 c1 fz Sj x0 x1 hq1 hq2;go_wp2_with fail;refine (hq3 _).mono ?_;rintro e w' ⟨rfl,rfl⟩;go_wp2_with fail;refine (hq4 _).mono ?_;rintro e w'' ⟨rfl,rfl⟩;go_wp2_with fail;refine (Ik _ OU).mono ?_;rintro e w1 ⟨rfl,VG,hk4⟩;have hs1:=hk4.cells (k:=wr.heap.size) WN hsx (by decide);have hb1:=hk4.cells (k:=w.heap.size) hH hbx (by decide);clear y0 y1 fy Sk z0 z1 WP hlz hsx hbx hk4 OU hq3 hq4;obtain⟨y0,y1,fy,Sk⟩:=fq hs1;obtain⟨z0,z1,WP,hlz⟩:=fq hb1;go_wp2_with fail;refine (Il _ VG).mono ?_;rintro e w2 ⟨rfl,Zv,hk5⟩;have hs2:=hk5.cells (k:=wr.heap.size) WN hs1 (by decide);have hb2:=hk5.cells (k:=w.heap.size) hH hb1 (by decide);clear y0 y1 fy Sk z0 z1 WP hlz hs1 hb1 hk5 VG;obtain⟨y0,y1,fy,Sk⟩:=fq hs2;have HB2:Hid (w2.heap[w.heap.size]?=_):=hb2;have HI5:Hid (I _ _):=Zv;clear hb2 hs2 Zv;go_wp2
    go_roundw
    case rel=>exact⟨i+1,p+l,_,by omega,by go_num,by go_num,by omega,HR,HT2,HI5,HB2⟩
    case measure=>simp[intOf];omega
  ·obtain⟨c0,c1,fz,Sj⟩:=fq HB.out;have e:i=steps.length:=by omega
   subst e;have HT2:=HT.out;rw[List.drop_length,ax]at HT2;have HT3:Hid (_=_):=HT2;have hcall:=hd.sym wr ts 256 0 0 HI.out (by have:=OT.out;omega) ⟨by decide,Nat.one_pos,aaj _⟩;clear HT HT2 HO;go_wp2_with fail;refine hcall.mono ?_;rintro e w1 ⟨rfl,VG,hk4⟩;go_wp2
   go_end0
   exact⟨rfl,by rw[<-HT3.out];exact VG⟩
def aA (ls ds:List Int)(ts:List Tok):List Int:=ts.flatMap (fun t=>Rf.a8 (if t.1 then ds else ls) t.2.1++Rf.nb t.2.2.1 t.2.2.2)
theorem oX (ls ds:List Int)(ts:List Tok)(t:Tok):aA ls ds (ts++[t])=aA ls ds ts++(Rf.a8 (if t.1 then ds else ls) t.2.1++Rf.nb t.2.2.1 t.2.2.2):=by simp[aA]
def Steps (w:World)(sv:Value)(steps:List (Nat×Nat))(B:Nat):Prop :=
 (∃ao cap,sv=.slice ao steps.length cap)/\(steps≠[]->∃SB cap,sv=.slice (some ⟨SB,0,none⟩) steps.length cap/\SB≠B/\jr w SB 216 steps.length (fun j=>(.int .i64 (steps.getD j (0,0)).1,.int .i64 (steps.getD j (0,0)).2)))
theorem Steps.fr {w w':World}{sv:Value}{steps:List (Nat×Nat)}{B:Nat}(h:Steps w sv steps B)(k:Fr B w w'):Steps w' sv steps B :=
 ⟨h.1,fun hn=>by
  obtain⟨SB,cap,h1,h2,h3⟩:=h.2 hn;refine⟨SB,cap,h1,h2,?_⟩;obtain⟨cs,c1,c2⟩:=h3
  exact⟨cs,(k.kept h2 c1 (by decide)).trans c1,c2⟩⟩
theorem Steps.below {w w':World}{sv:Value}{steps:List (Nat×Nat)}{B:Nat}(h:Steps w sv steps B)(k:Below w.heap.size w w'):Steps w' sv steps B :=
 ⟨h.1,fun hn=>by
  obtain⟨SB,cap,h1,h2,h3⟩:=h.2 hn
  exact⟨SB,cap,h1,h2,h3.kept (k.block _ h3.lt)⟩⟩
theorem aB.alloc {w:World}{B:Nat}{W:List Int}(h:aB w B W)(o:Obj):aB (w.alloc o) B W:=by obtain⟨pv,P,h⟩:=h;exact⟨pv,P,h.alloc o⟩
theorem aB.drewN {w:World}{B:Nat}{W:List Int}(h:aB w B W)(n:Nat):aB (w.drewN n) B W:=by obtain⟨pv,P,h⟩:=h;exact⟨pv,P,h.drewN n⟩
theorem aB.lt {w:World}{B:Nat}{W:List Int}(h:aB w B W):B<w.heap.size:=by obtain⟨pv,P,h⟩:=h;exact h.lt
theorem aB.below {w w':World}{B:Nat}{W:List Int}(h:aB w B W)(k:Below w.heap.size w w'):aB w' B W:=by obtain⟨pv,P,h⟩:=h;exact⟨pv,P,h.kept (fun j _ hj=>k.block j hj)⟩
theorem Fr.alloc {B:Nat}{a w:World}(h:Fr B a w)(hB:B<a.heap.size)(o:Obj):Fr B a (w.alloc o) :=
 h.trans ⟨(aak _ _).alloc (by have:=h.below.size;omega) _,fun k _ hk _=>aaM _ _ _ hk⟩
theorem Fr.kh {B H:Nat}{w w':World}(h:Fr B w w')(hB:B<H):Kh H w w':=⟨h.below.size,fun k h1 h2 h3=>h.other k (by omega) h2 h3⟩
structure E3 (B:Nat) (W:List Int) (ls ds:List Int) (uE uF sv:Value) (steps:List (Nat×Nat)) (w0:World) (w:World) (ts:List Tok):Prop where
 wr:aB w B (W++aA ls ds ts)
 c1:eV w uE B ls 0
 c2:eV w uF B ds 0
 fr:Fr B w0 w
 st:Steps w sv steps B
 len:(aA ls ds ts).length<=28*ts.length
theorem E3.step {B:Nat}{W ls ds:List Int}{uE uF sv:Value}{steps:List (Nat×Nat)}{w0 w w':World}{ts:List Tok}{t:Tok}(h:E3 B W ls ds uE uF sv steps w0 w ts)(hk:t.2.2.2<=13)(hw:aB w' B ((W++aA ls ds ts)++(Rf.a8 (if t.1 then ds else ls) t.2.1++xb t.2.2.1 t.2.2.2)))(hf:Fr B w w'):E3 B W ls ds uE uF sv steps w0 w' (ts++[t]):=by
 refine⟨by rw[oX,<-aaq,<-fj];exact hw,h.c1.fr hf,h.c2.fr hf,h.fr.trans hf,h.st.fr hf,?_⟩;rw[oX,aac,aac,aac,Rf.bV,Rf.aF,abb];have a:=h.len
 have b:(((if t.1 then ds else ls):List Int).getD t.2.1 0).toNat<=15:=by
  split
  ·have:=(h.c2.Nz t.2.1).2;omega
  ·have:=(h.c1.Nz t.2.1).2;omega
 omega
theorem E4 (B:Nat)(W ls ds:List Int)(uE uF:Value)(ao:Option Addr)(cap:Nat)(steps:List (Nat×Nat))(w0:World)(hW:W.length<=100000000)(hl:286<=ls.length)(hd:30<=ds.length)(h0:E3 B W ls ds uE uF (.slice ao steps.length cap) steps w0 w0 []): ∃c1 c2,uE=.func (.func 243) #[] c1/\uF=.func (.func 243) #[] c2 /\ xh 243 243 c1 c2 w0.heap.size (.slice ao steps.length cap) steps (E3 B W ls ds uE uF (.slice ao steps.length cap) steps w0):=by
 obtain⟨WB1,Lb1,C1,e1,_⟩:=h0.c1.val;obtain⟨WB2,Lb2,C2,e2,_⟩:=h0.c2.val;have hB:=h0.wr.lt;refine⟨_,_,e1,e2,⟨?_,?_,xd,xd,?_,?_,?_,?_⟩⟩
 ·intro w ts n x k h hts hok;obtain⟨WB,Lb,C,e,b1,b2,n1,_⟩:=h.c1.val;rw[e1]at e;simp at e;obtain⟨rfl,rfl⟩:=e;have hlen:=h.len;have hn:n<=285:=hok.1;refine (sG n x k WB1 Lb1 C ls B (W++aA ls ds ts) w b1 b2 n1 h.c1.Nz h.wr (by omega) (by have:=hok.2.2;simp only at this;omega) (by rw[aac];omega)).mono ?_;rintro e w' ⟨rfl,hw',hf'⟩;exact⟨rfl,h.step (t:=(false,n,x,k)) hok.2.2 hw' hf',hf'.kh hB⟩
 ·intro w ts n x k h hts hok;obtain⟨WB,Lb,C,e,b1,b2,n1,_⟩:=h.c2.val;rw[e2]at e;simp at e;obtain⟨rfl,rfl⟩:=e;have hlen:=h.len;have hn:n<=29:=hok.1;refine (sG n x k WB2 Lb2 C ds B (W++aA ls ds ts) w b1 b2 n1 h.c2.Nz h.wr (by omega) (by have:=hok.2.2;simp only at this;omega) (by rw[aac];omega)).mono ?_;rintro e w' ⟨rfl,hw',hf'⟩;exact⟨rfl,h.step (t:=(true,n,x,k)) hok.2.2 hw' hf',hf'.kh hB⟩
 ·intro w ts cs t h _;exact⟨h.wr.alloc _,h.c1.below (ag _ _),h.c2.below (ag _ _),h.fr.alloc hB _,h.st.below (ag _ _),h.len⟩
 ·intro w ts n h;have hb:Below w.heap.size w (w.drewN n):=aap (aak _ _) n;exact⟨h.wr.drewN n,h.c1.below hb,h.c2.below hb,h.fr.drewN n,h.st.below hb,h.len⟩
 ·intro w ts h hn;obtain⟨SB,cap',q1,_,q3⟩:=h.st.2 hn;exact⟨SB,cap',q1,q3⟩
 ·intro w ts h;exact h.fr.below.size
theorem LD (w:World)(T:Nat)(a b:Value):Kp (·=T) w ((w.setCell ⟨T,0,none⟩ a).setCell ⟨T,1,none⟩ b) :=
 ((Kp.refl (·=T) w).setCell (p:=⟨T,0,none⟩) (.inl rfl) a).setCell (p:=⟨T,1,none⟩) (.inl rfl) b
theorem zk (B:Nat)(ls ds:List Int)(a1 a2:Option Addr)(p1 p2 N1 N2:Nat)(w:World)(hN1:ls.length=N1)(WQ:ds.length=N2)(l1:N1<=320)(l2:N2<=320)(i1:Ints w a1 ls)(i2:Ints w a2 ds)(b1:∀a,a1=some a->ls≠[]->a.block<w.heap.size)(b2:∀a,a2=some a->ds≠[]->a.block<w.heap.size)(w1:∀j,0<=ls.getD j 0/\ls.getD j 0<=15)(w2:∀j,0<=ds.getD j 0/\ds.getD j 0<=15)(f1:Rf.fs ls ls.length<=32768)(f2:Rf.fs ds ds.length<=32768)(hB:B<w.heap.size): Calls Tryz.prog 216 #[.pointer (some ⟨B,0,none⟩),.slice a1 N1 p1,.slice a2 N2 p2] w fun e w'=>∃uE uF,e=.returned (.agg #[uE,uF])/\eV w' uE B ls w.heap.size/\eV w' uF B ds w.heap.size/\Below w.heap.size w w':=by
 go_enter Tryz.func216,Tryz.ntmps216
 go_wp2_with fail;have k0:=ag w (.cells #[.nilFunc,.nilFunc] 243);refine (js B a1 p1 ls N1 _ hN1 l1 (i1.below k0 b1) (fun a e h=>by have:=b1 a e h;simp;omega) w1 f1 (by simp;omega)).mono ?_;rintro e u1 ⟨uE,rfl,Re,k1⟩;have s1:=k1.size;rw[aaC]at s1;have WR:=k0.trans (k1.mono (by simp));go_wp2_with fail;refine (js B a2 p2 ds N2 _ WQ l2 (i2.below WR b2) (fun a e h=>by have:=b2 a e h;omega) w2 f2 (by omega)).mono ?_;rintro e u2 ⟨uF,rfl,OW,k2⟩;have hr:u2.heap[w.heap.size]?=some (.cells #[.nilFunc,.nilFunc] 243 (0,0)):=(k2.block _ (by omega)).trans ((k1.block _ (by simp)).trans (ak w _));obtain⟨y0,y1,fy,Sk⟩:=fq hr;have OX:=Re.below k2;obtain⟨P1,Q1,_,e1,_⟩:=OX.val;obtain⟨P2,Q2,_,e2,_⟩:=OW.val;have hkk:Below w.heap.size w u2:=WR.trans (k2.mono (by omega));have HD:Hid (_/\_/\_):=⟨OX,OW,hkk⟩
 have hu2:=hkk.size;clear Re OX OW k0 k1 k2 WR hkk;subst e1 e2;go_wp2;have HS:=LD u2 w.heap.size (.func (.func 243) #[] #[.pointer (some ⟨P1,0,none⟩),.pointer (some ⟨Q1,0,none⟩)]) (.func (.func 243) #[] #[.pointer (some ⟨P2,0,none⟩),.pointer (some ⟨Q2,0,none⟩)]);refine aal (v:=.agg #[.func (.func 243) #[] #[.pointer (some ⟨P1,0,none⟩),.pointer (some ⟨Q1,0,none⟩)],.func (.func 243) #[] #[.pointer (some ⟨P2,0,none⟩),.pointer (some ⟨Q2,0,none⟩)]]) (by simp[results,Tryz.results216,go_sem,y0,y1]) rfl ⟨_,_,rfl,?_,?_,?_⟩
 ·exact (HD.out.1.kept HS (fun j hj=>by rw[hj,aaC];omega)).weak (by rw[aaC];omega)
 ·exact (HD.out.2.1.kept HS (fun j hj=>by rw[hj];omega)).weak (by omega)
 ·exact HD.out.2.2.trans (HS.below (by omega) (fun k _ hk=>by omega))
theorem kV (B:Nat)(W ls ds:List Int)(uE uF:Value)(ao:Option Addr)(cap:Nat)(s:ByteArray)(steps:List (Nat×Nat))(w:World)(hW:W.length<=100000000)(hl:286<=ls.length)(hd:30<=ds.length)(hw:aB w B W)(c1:eV w uE B ls 0)(c2:eV w uF B ds 0)(hst:Steps w (.slice ao steps.length cap) steps B)(hs:s.size<=65535)(hok:c8 s.size 0 steps): Calls Tryz.prog 211 #[.string s,.slice ao steps.length cap,.agg #[uE,uF]] w fun e w'=>e=.returned (.tuple #[])/\aB w' B (W++aA ls ds (ax s.data.toList 0 steps))/\Fr B w w':=by
 have h0:E3 B W ls ds uE uF (.slice ao steps.length cap) steps w w []:=⟨by simpa[aA]using hw,c1,c2,Fr.refl _ _,hst,by simp[aA]⟩
 obtain⟨q1,q2,rfl,rfl,hdo⟩:=E4 B W ls ds uE uF ao cap steps w hW hl hd h0;refine (zj _ _ q1 q2 _ ao cap s steps _ w hdo h0 hs hok).mono ?_;rintro e w' ⟨rfl,h⟩;exact⟨rfl,h.wr,h.fr⟩
def eF (N:Nat)(b:Bool)(ts:List Tok):List Int:=(List.range N).map (fun j=>((ts.countP (fun t=>decide (t.1=b/\t.2.1=j)):Nat):Int))
def aV (ts:List Tok):Nat:=(ts.map (fun t=>t.2.2.2)).sum
theorem dZ (N:Nat)(b:Bool)(ts:List Tok):(eF N b ts).length=N:=by simp[eF]
theorem iH (N:Nat)(b:Bool)(ts:List Tok)(j:Nat)(h:j<N):(eF N b ts).getD j 0=((ts.countP (fun t=>decide (t.1=b/\t.2.1=j)):Nat):Int):=by
 unfold eF;rw[aaa,abk,List.getElem?_range h];rfl
theorem fZ (N:Nat)(b:Bool)(ts:List Tok)(j:Nat):0<=(eF N b ts).getD j 0/\(eF N b ts).getD j 0<=ts.length:=by
 by_cases h:j<N
 ·rw[iH N b ts j h];have:=List.countP_le_length (p:=fun t:Tok=>decide (t.1=b/\t.2.1=j)) (l:=ts);omega
 ·rw[aaa,aas (by rw[dZ];omega)];simp
theorem sI (N:Nat)(b:Bool)(ts:List Tok)(n x k:Nat):eF N b (ts++[(b,n,x,k)])=(eF N b ts).set n ((eF N b ts).getD n 0+1):=by
 apply abt
 ·simp[eF]
 ·intro j h1 h2;have hj:j<N:=by simpa[eF]using h1
  rw[List.getElem_set];by_cases e:n=j
  ·subst e;rw[aaf rfl,iH N b ts n hj];simp only[eF,abL,abP,List.countP_append,List.countP_cons,List.countP_nil];simp
  ·rw[aae e];simp only[eF,abL,abP,List.countP_append,List.countP_cons,List.countP_nil];simp[e]
theorem vC (N:Nat)(b c:Bool)(h:c≠b)(ts:List Tok)(n x k:Nat):eF N b (ts++[(c,n,x,k)])=eF N b ts:=by
 unfold eF;refine abn (fun j _=>?_);rw[List.countP_append];simp[h]
theorem iq (ts:List Tok)(t:Tok):aV (ts++[t])=aV ts+t.2.2.2:=by simp[aV]
structure ju (Tb Sy Di:Nat) (sv:Value) (steps:List (Nat×Nat)) (b0:Nat) (w0:World) (w:World) (ts:List Tok):Prop where
 box:w.heap[Tb]?=some (.cells #[.slice (some ⟨Sy,0,none⟩) 286 286,.slice (some ⟨Di,0,none⟩) 30 30,.int .i64 (aV ts:Nat)] 220 (0,0))
 sy:aR w Sy (eF 286 false ts)
 di:aR w Di (eF 30 true ts)
 be:Below b0 w0 w
 st:Steps w sv steps Tb
 ne:Sy≠Di/\Sy≠Tb/\Di≠Tb/\b0<=Sy/\b0<=Di/\b0<=Tb
 ex:aV ts<=13*ts.length
theorem cells3 {w:World}{T:Nat}{a b c:Value}{t:TypeId}(h:w.heap[T]?=some (.cells #[a,b,c] t (0,0))): w.cell? ⟨T,0,none⟩=some a/\w.cell? ⟨T,1,none⟩=some b/\w.cell? ⟨T,2,none⟩=some c/\(∀j,w.frozen? ⟨T,j,none⟩=false)/\T<w.heap.size :=
 ⟨aan _ _ _ _ _ _ h,aan _ _ _ _ _ _ h,aan _ _ _ _ _ _ h,fun j=>aaE w T j _ _ h,aab h⟩
theorem Steps.kept {w w':World}{sv:Value}{steps:List (Nat×Nat)}{B b0:Nat}(h:Steps w sv steps B)(k:∀j,j<b0->j<w.heap.size->w'.heap[j]?=w.heap[j]?)(hsv:∀SB cap,sv=.slice (some ⟨SB,0,none⟩) steps.length cap->SB<b0):Steps w' sv steps B :=
 ⟨h.1,fun hn=>by
  obtain⟨SB,cap,h1,h2,h3⟩:=h.2 hn
  exact⟨SB,cap,h1,h2,h3.kept (k _ (hsv SB cap h1) h3.lt)⟩⟩
theorem ju.kp (Tb Sy Di G n:Nat)(hG:G=Sy\/G=Di)(w:World)(u v:Value):Kp (fun j=>j=Tb\/j=Sy\/j=Di) w ((w.setCell ⟨G,n,none⟩ u).setCell ⟨Tb,2,none⟩ v) :=
 ((Kp.refl _ w).setCell (p:=⟨G,n,none⟩) (.inl (by rcases hG with rfl|rfl<;>simp)) u).setCell (p:=⟨Tb,2,none⟩) (.inl (.inl rfl)) v
theorem ju.sym {Tb Sy Di:Nat}{sv:Value}{steps:List (Nat×Nat)}{b0:Nat}{w0 w:World}{ts:List Tok}(h:ju Tb Sy Di sv steps b0 w0 w ts)(n x k:Nat)(hk:k<=13)(hsv:∀SB cap,sv=.slice (some ⟨SB,0,none⟩) steps.length cap->SB<b0): ju Tb Sy Di sv steps b0 w0 ((w.setCell ⟨Sy,n,none⟩ (.int .i64 ((eF 286 false ts).getD n 0+1))).setCell ⟨Tb,2,none⟩ (.int .i64 ((aV ts:Nat)+(k:Int)))) (ts++[(false,n,x,k)]):=by
 obtain⟨n1,n2,n3,n4,n5,n6⟩:=h.ne;have K:=ju.kp Tb Sy Di Sy n (.inl rfl) w (.int .i64 ((eF 286 false ts).getD n 0+1)) (.int .i64 ((aV ts:Nat)+(k:Int)));refine⟨?_,?_,?_,h.be.trans (K.below (by have:=aab h.box;omega) (fun j _ hj=>by omega)),h.st.kept (fun j hj hl=>K.block j hl (by omega)) hsv,h.ne,by rw[iq,aac];have:=h.ex;simp only[abb];omega⟩
 ·refine (aat _ Tb 2 _ _ _ ((aag w ⟨Sy,n,none⟩ _ Tb (Ne.symm n2)).trans h.box)).trans ?_;rw[iq];simp
 ·rw[sI];exact (aag _ ⟨Tb,2,none⟩ _ Sy n2).trans (h.sy.set n _)
 ·rw[vC 30 true false (by decide)];exact (aag _ ⟨Tb,2,none⟩ _ Di n3).trans ((aag w ⟨Sy,n,none⟩ _ Di (Ne.symm n1)).trans h.di)
theorem ju.dist {Tb Sy Di:Nat}{sv:Value}{steps:List (Nat×Nat)}{b0:Nat}{w0 w:World}{ts:List Tok}(h:ju Tb Sy Di sv steps b0 w0 w ts)(n x k:Nat)(hk:k<=13)(hsv:∀SB cap,sv=.slice (some ⟨SB,0,none⟩) steps.length cap->SB<b0): ju Tb Sy Di sv steps b0 w0 ((w.setCell ⟨Di,n,none⟩ (.int .i64 ((eF 30 true ts).getD n 0+1))).setCell ⟨Tb,2,none⟩ (.int .i64 ((aV ts:Nat)+(k:Int)))) (ts++[(true,n,x,k)]):=by
 obtain⟨n1,n2,n3,n4,n5,n6⟩:=h.ne;have K:=ju.kp Tb Sy Di Di n (.inr rfl) w (.int .i64 ((eF 30 true ts).getD n 0+1)) (.int .i64 ((aV ts:Nat)+(k:Int)));refine⟨?_,?_,?_,h.be.trans (K.below (by have:=aab h.box;omega) (fun j _ hj=>by omega)),h.st.kept (fun j hj hl=>K.block j hl (by omega)) hsv,h.ne,by rw[iq,aac];have:=h.ex;simp only[abb];omega⟩
 ·refine (aat _ Tb 2 _ _ _ ((aag w ⟨Di,n,none⟩ _ Tb (Ne.symm n3)).trans h.box)).trans ?_;rw[iq];simp
 ·rw[vC 286 false true (by decide)];exact (aag _ ⟨Tb,2,none⟩ _ Sy n2).trans ((aag w ⟨Di,n,none⟩ _ Sy n1).trans h.sy)
 ·rw[sI];exact (aag _ ⟨Tb,2,none⟩ _ Di n3).trans (h.di.set n _)
theorem aR.at_ {w:World}{g:Nat}{zs:List Int}(h:aR w g zs)(j:Nat)(hj:j<zs.length):w.cell? ⟨g,j,none⟩=some (.int .i64 (zs.getD j 0)):=by
 rw[h.cell j hj,aaa,aai hj];rfl
theorem LE (Tb Sy Di:Nat)(sv:Value)(steps:List (Nat×Nat))(b0:Nat)(w0 w:World)(ts:List Tok)(n x k:Nat)(h:ju Tb Sy Di sv steps b0 w0 w ts)(hn:n<286)(hts:ts.length<200000)(hk:k<=13)(hsv:∀SB cap,sv=.slice (some ⟨SB,0,none⟩) steps.length cap->SB<b0): Calls Tryz.prog 212 #[.int .i64 n,.int .i64 x,.int .i64 k,.pointer (some ⟨Tb,0,none⟩)] w fun e w'=>e=.returned (.tuple #[])/\ju Tb Sy Di sv steps b0 w0 w' (ts++[(false,n,x,k)])/\Kp (fun j=>j=Tb\/j=Sy\/j=Di) w w':=by
 obtain⟨c0,c1,c2,fz,hlt⟩:=cells3 h.box;obtain⟨n1,n2,n3,n4,n5,n6⟩:=h.ne;have hr:=fZ 286 false ts n;have hcell:=h.sy.at_ n (by rw[dZ];exact hn);have hfz:∀j,w.frozen? ⟨Sy,j,none⟩=false:=fun j=>aaE w Sy j _ _ h.sy;have hex:=h.ex;have Si:=aab h.sy;have H:=h.sym n x k hk hsv;have K:=ju.kp Tb Sy Di Sy n (.inl rfl) w (.int .i64 ((eF 286 false ts).getD n 0+1)) (.int .i64 ((aV ts:Nat)+(k:Int)));generalize (eF 286 false ts).getD n 0=v at *
 go_enter Tryz.func212,Tryz.ntmps212
 go_wp2
 go_end0
 exact⟨rfl,H,K⟩
theorem LF (Tb Sy Di:Nat)(sv:Value)(steps:List (Nat×Nat))(b0:Nat)(w0 w:World)(ts:List Tok)(n x k:Nat)(h:ju Tb Sy Di sv steps b0 w0 w ts)(hn:n<30)(hts:ts.length<200000)(hk:k<=13)(hsv:∀SB cap,sv=.slice (some ⟨SB,0,none⟩) steps.length cap->SB<b0): Calls Tryz.prog 213 #[.int .i64 n,.int .i64 x,.int .i64 k,.pointer (some ⟨Tb,0,none⟩)] w fun e w'=>e=.returned (.tuple #[])/\ju Tb Sy Di sv steps b0 w0 w' (ts++[(true,n,x,k)])/\Kp (fun j=>j=Tb\/j=Sy\/j=Di) w w':=by
 obtain⟨c0,c1,c2,fz,hlt⟩:=cells3 h.box;obtain⟨n1,n2,n3,n4,n5,n6⟩:=h.ne;have hr:=fZ 30 true ts n;have hcell:=h.di.at_ n (by rw[dZ];exact hn);have hfz:∀j,w.frozen? ⟨Di,j,none⟩=false:=fun j=>aaE w Di j _ _ h.di;have hex:=h.ex;have Si:=aab h.di;have H:=h.dist n x k hk hsv;have K:=ju.kp Tb Sy Di Di n (.inr rfl) w (.int .i64 ((eF 30 true ts).getD n 0+1)) (.int .i64 ((aV ts:Nat)+(k:Int)));generalize (eF 30 true ts).getD n 0=v at *
 go_enter Tryz.func213,Tryz.ntmps213
 go_wp2
 go_end0
 exact⟨rfl,H,K⟩
theorem OY (args:Array Value)(w:World):(callFunc 212 args).run Tryz.prog w=.ok (.enter 212 args) w:=by kernel_rfl
theorem OZ (args:Array Value)(w:World):(callFunc 213 args).run Tryz.prog w=.ok (.enter 213 args) w:=by kernel_rfl
theorem NC {S:Nat->Prop}{w w':World}{H:Nat}(k:Kp S w w')(hS:∀j,S j->j<H):Kh H w w':=⟨k.size,fun j h1 h2 _=>k.block j h2 (fun h=>by have:=hS j h;omega)⟩
theorem E5 (Tb Sy Di:Nat)(ao:Option Addr)(cap:Nat)(steps:List (Nat×Nat))(b0 H:Nat)(w0 w:World)(h:ju Tb Sy Di (.slice ao steps.length cap) steps b0 w0 w [])(hH:H=w.heap.size)(hsv:∀SB cap',Value.slice ao steps.length cap=.slice (some ⟨SB,0,none⟩) steps.length cap'->SB<b0): xh 212 213 #[.pointer (some ⟨Tb,0,none⟩)] #[.pointer (some ⟨Tb,0,none⟩)] H (.slice ao steps.length cap) steps (fun u ts=>ju Tb Sy Di (.slice ao steps.length cap) steps b0 w0 u ts/\H<=u.heap.size):=by
 have l1:=aab h.box;have l2:=aab h.sy;have l3:=aab h.di;refine⟨?_,?_,OY,OZ,?_,?_,?_,fun u ts h=>h.2⟩
 ·rintro u ts n x k ⟨h,hu⟩ hts hok;refine (LE Tb Sy Di _ steps b0 w0 u ts n x k h (by have:n<=285:=hok.1;omega) hts hok.2.2 hsv).mono ?_;rintro e u' ⟨rfl,h',k'⟩;exact⟨rfl,⟨h',by have:=k'.size;omega⟩,NC k' (fun j hj=>by omega)⟩
 ·rintro u ts n x k ⟨h,hu⟩ hts hok;refine (LF Tb Sy Di _ steps b0 w0 u ts n x k h (by have:n<=29:=hok.1;omega) hts hok.2.2 hsv).mono ?_;rintro e u' ⟨rfl,h',k'⟩;exact⟨rfl,⟨h',by have:=k'.size;omega⟩,NC k' (fun j hj=>by omega)⟩
 ·rintro u ts cs t ⟨h,hu⟩ _;have hb:=ag u (.cells cs t);exact⟨⟨aw h.box _,aw h.sy _,aw h.di _,h.be.trans (hb.mono (by have:=aab h.box;have:=h.ne;omega)),h.st.below hb,h.ne,h.ex⟩,by simp;omega⟩
 ·rintro u ts n ⟨h,hu⟩;have hb:Below u.heap.size u (u.drewN n):=aap (aak _ _) n;exact⟨⟨h.box,h.sy,h.di,h.be.trans (hb.mono (by have:=aab h.box;have:=h.ne;omega)),h.st.below hb,h.ne,h.ex⟩,hu⟩
 ·rintro u ts ⟨h,hu⟩ hn;obtain⟨SB,cap',q1,_,q3⟩:=h.st.2 hn;exact⟨SB,cap',q1,q3⟩
end Go.Proofs.YtmfijackgekioaaGreatDoor
