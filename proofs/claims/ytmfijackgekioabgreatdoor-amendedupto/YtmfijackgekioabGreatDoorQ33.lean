import Derived.Test.YtmfijackgekioabGreatDoorQ31
set_option maxHeartbeats 1000000
set_option maxRecDepth 100000
namespace Go.Proofs.YtmfijackgekioabGreatDoor
open Go.RowKit Go.Maps
inductive Fv (m:Pm.dA) (T:ByteArray) (on:Bool) (kd:Int) (pl:Nat) (w:World):Ending->World->Prop
 | WZ {w'}:Pm.lO m (af T) on=none->Below w.heap.size w w'->Fv m T on kd pl w (dies 15) w'
 | idx {w' l}:Pm.lO m (af T) on=some l->kd=3->Pm.eu l ((pl:Int)/3)=false->Below w.heap.size w w'->Fv m T on kd pl w (dies 16) w'
 | ok {w' l G}:Pm.lO m (af T) on=some l->(kd=3->Pm.eu l ((pl:Int)/3)=true)->aQ w' G l->w.heap.size<=G->Below w.heap.size w w'->Fv m T on kd pl w (.returned (.slice (some ⟨G,0,none⟩) (m.W*m.H*m.n) (m.W*m.H*m.n))) w'
theorem LL (W H n dp:Nat)(kd:Int)(ps:Bool)(pa:Option Addr)(pl pc:Nat)(sv:Value)(T:ByteArray)(w:World)(tt:TypeId)(fr:Nat×Nat)(jI:w.heap[0]?=some (.cells cX tt fr))(hol:Pm.raw W H ((n*dp:Nat):Int) ps=(T.size:Int))(hT:T.size<=5000000)(hpl:pl<=1000000000)(hch:Pm.chan kd dp=(n:Int))(hn:1<=n/\n<=4)(hW:1<=W/\W<=5000)(hH:1<=H/\H<=5000): Calls Tryz.prog 35 #[img W H kd dp ps (.slice pa pl pc) sv,.string T] w fun e w'=>Fv ⟨W,H,n,dp⟩ T ps kd pl w e w':=by
 have hcs:=fun u=>lZ kd dp u;rw[hch]at hcs;obtain⟨N,hN⟩:∃N,N=W*H*n:=⟨_,rfl⟩
 have hNb:N<=100000000:=by
  rw[hN];have:W*H*n<=5000*5000*4:=abh (abh hW.2 hH.2) hn.2;omega
 obtain⟨A,hA⟩:∃A,A=W*H:=⟨_,rfl⟩
 have eA:(W:Int)*(H:Int)=(A:Int):=by rw[hA];push_cast;rfl
 have YS:A<=25000000:=by
  rw[hA];have:W*H<=5000*5000:=abh hW.2 hH.2;omega
 have wA:IntKind.i64.wrap (A:Int)=(A:Int):=aao _ (by omega);have eN:(A:Int)*(n:Int)=(N:Int):=by rw[hN,hA];push_cast;rfl
 have wN:IntKind.i64.wrap (N:Int)=(N:Int):=aao _ (by omega);obtain⟨Z,hZ⟩:∃Z:List Value,Z=List.replicate N (.int .i64 0):=⟨_,rfl⟩
 have hmk:=fun u=>Lz N (by omega) Z hZ u;have HZ:Hid (Z=vals (List.replicate N 0)):=by show _=_;rw[hZ,bJ]
 have HN:Hid (N=W*H*n):=hN;have HH:Hid (_/\_):=⟨jI,hol⟩
 have q:=oG w (.cells (aD W H kd dp ps (.slice pa pl pc) sv) 24) (.cells #[.int .i64 (n:Nat)] 3) (.cells Z.toArray 3) (.cells #[.slice (some ⟨w.heap.size+1+1,0,none⟩) N N] 22);have HQ:Hid (_):=q;clear hN hA hZ jI hol q
 go_enter Tryz.func35,Tryz.ntmps35
 go_wp2_with fail;refine (hcs _).mono ?_;rintro e w' ⟨rfl,rfl⟩;go_wp2_with fail;have zv:((((w.alloc (.cells (aD W H kd dp ps (.slice pa pl pc) sv) 24)).alloc (.cells #[.int .i64 (n:Nat)] 3)).alloc (.cells Z.toArray 3)).alloc (.cells #[.slice (some ⟨w.heap.size+1+1,0,none⟩) N N] 22)).heap.size=w.heap.size+4:=by simp
 have PJ:=HQ.out;clear HQ;revert PJ zv;dsimp only[aD];generalize World.alloc _ (.cells #[.slice (some ⟨w.heap.size+1+1,0,none⟩) N N] 22)=v0;intro zv PJ;obtain⟨k0,q0,q1,q2,q3⟩:=PJ;rw[HZ.out]at q2;have S0:od v0 w.heap.size (w.heap.size+1+1+1) (w.heap.size+1) (w.heap.size+1+1) N W H n kd dp ps (.slice pa pl pc) sv:=⟨q0,q3,q1⟩
 have W0:=(k0.block _ (aaa HH.out.1)).trans HH.out.1;have hrow:=LJ W H n dp kd ps (.slice pa pl pc) sv T w.heap.size (w.heap.size+1+1+1) (w.heap.size+1) (w.heap.size+1+1) N v0 tt fr W0 S0 ⟨by omega,by omega,by omega⟩ q2 HH.out.2 hT HN.out hch hn hW hH;have HS:Hid (_/\_):=⟨S0,k0⟩
 clear S0 k0 q0 q1 q2 q3 W0;refine hrow.mono ?_;rintro e w1 ⟨bR,hbR,u,hu,he⟩;have hbel:Kp (fun k=>k=w.heap.size+1+1\/k=bR) u w1->Below w.heap.size w w1:=fun kp=>(HS.out.2.trans (hu.mono (by omega))).trans (kp.below (by have:=hu.size;omega) (fun k _ e=>by omega));have OH:Hid (_):=hbel;have HU:Hid (_):=hu;clear hbel hrow;cases he with
 | no h1 k1 =>
  have HE:Hid (_/\_):=⟨h1,OH.out k1⟩
  clear h1 k1 OH;go_wp2;exact⟨rfl,.WZ HE.out.1 HE.out.2⟩
 | @ok _ l h1 l1 k1 =>
  have hfl:=Pm.xd _ _ _ _ h1;have hll:l.length=N:=by rw[hfl.1,HN.out]
  have S1:=(HS.out.1.below hu).kept (w':=w1) (fun j hj=>k1.block j (by have:=hu.size;omega) (by omega));obtain⟨m0,m1,m2,m3,m4,m5,m6⟩:=aP S1.m;have ms:=S1.s.cell;have HE:Hid (_/\_/\_):=⟨h1,l1,OH.out k1⟩
  have hab:=fun e=>l5 (some ⟨w.heap.size+1+1,0,none⟩) N l e w1 (by rw[hll];unfold maxLen;omega) l1.ints;rw[hll]at hab;have HNN:Hid (N=W*H*n):=HN.out;clear h1 l1 k1 OH hfl S1 hll hu;by_cases h3:kd=3
  ·subst h3;have Tj:=hab ((pl:Int)/3);have YU:Hid (∃b,b=Pm.eu l ((pl:Int)/3)):=⟨_,rfl⟩
   obtain⟨b,hb⟩:=YU.out;rw[<-hb]at Tj;have HB:Hid (b=Pm.eu l ((pl:Int)/3)):=hb;clear hb hab YU;cases b
   ·go_wp2_with fail;refine Tj.mono ?_;rintro e w' ⟨rfl,rfl⟩;go_wp2;exact⟨rfl,.idx HE.out.1 rfl HB.out.symm HE.out.2.2⟩
   ·go_wp2_with fail;refine Tj.mono ?_;rintro e w' ⟨rfl,rfl⟩;go_wp2
    go_ret
    rw[HNN.out];exact .ok HE.out.1 (fun _=>HB.out.symm) HE.out.2.1 (by omega) HE.out.2.2
  ·have h3':(kd==3)=false:=aaP.2 h3;go_wp2
   go_ret
   rw[HNN.out];exact .ok HE.out.1 (fun e=>absurd e h3) HE.out.2.1 (by omega) HE.out.2.2
structure UI where
 hd:Hd
 aq:List Int
 UJ:List Int
def bY (h:Hd):Int:=Pm.raw h.wd h.ht (Pm.chan h.kd h.dp*h.dp) h.ps
def gK (h:Hd):Pm.dA:=⟨h.wd.toNat,h.ht.toNat,(Pm.chan h.kd h.dp).toNat,h.dp.toNat⟩
def jL (kd:Int)(p:Option ByteArray):List Int:=if kd=3 then yM (p.getD ⟨#[]⟩) else []
def pj (h:Hd)(p:Option ByteArray)(t:ByteArray):Except Int UI :=
 match Pm.lO (gK h) (af t) h.ps with
 | none=>.error 15
 | some l=>if h.kd=3/\Pm.eu l (((jL h.kd p).length:Int)/3)=false then .error 16 else .ok ⟨h,jL h.kd p,l⟩
def qP (h:Hd)(P:kt):Except Int UI :=
 if dx P.data (bY h)=7\/(dx P.data (bY h)=0/\((jg P.data (bY h)).size:Int)≠bY h) then .error 14
 else if dx P.data (bY h)≠0 then .error (dx P.data (bY h))
 else pj h P.aq (jg P.data (bY h))
def partOf (P:kt)(limit:Int):Except Int UI :=
 if uK P.head=false then .error 13
 else if limit<bY (jr P.head)\/4194304<bY (jr P.head) then .error 7
 else if gI (jr P.head).kd (jr P.head).dp P.aq=false then .error 3
 else qP (jr P.head) P
def dm (b:ByteArray)(limit:Int):Except Int UI :=
 match partsOf b with
 | .error c=>.error c
 | .ok P=>partOf P limit
theorem xv {b:ByteArray}{limit c:Int}(h:partsOf b=.error c):dm b limit=.error c:=by unfold dm;rw[h]
theorem yW {b:ByteArray}{P:kt}(limit:Int)(h:partsOf b=.ok P):dm b limit=partOf P limit:=by unfold dm;rw[h]
theorem DU {b:ByteArray}(h:uK b=true):b.size=13/\Pm.gb (jr b).wd=true/\Pm.gb (jr b).ht=true/\Pm.chan (jr b).kd (jr b).dp≠0:=by
 simp only[uK,aaS,Bool.not_eq_true',aaW,aaP]at h;exact⟨h.1,h.2.1.1,h.2.1.2,h.2.2.2⟩
theorem pk (nm:List UInt8):∀L:List Ch,(gF nm L).size<=iW L
 | []=>aah _
 | c::r=>by
  have ih:=pk nm r;have e:iW (c::r)=c.data.size+iW r:=by simp[iW]
  rw[gW,e];split
  ·rw[ByteArray.size_append];omega
  ·omega
theorem Bi {b:ByteArray}{P:kt}(h:partsOf b=.ok P):P.data.size<=b.size/\∀p,P.aq=some p->p.size<=b.size:=by
 unfold partsOf at h;split at h
 ·cases hc:aM (b.extract 8 b.size) with
  | none=>rw[hc]at h;cases h
  | some L =>
   rw[hc]at h;simp only at h;cases ho:cK L with
   | none=>rw[ho]at h;cases h
   | some Q =>
    rw[ho]at h;simp only[Except.ok.injEq]at h;subst h;obtain⟨a1,_,a3⟩:=DA ho;have hz:=(pX hc).1;have hs:(b.extract 8 b.size).size<=b.size:=by rw[aaL];omega
    have j1:=pk cJ L;have j2:=pk cP L;rw[a1]at j1;rw[a3]at j2;refine⟨by omega,fun p hp=>?_⟩;rw[hp]at j2;have:p.size<=iW L:=j2;omega
 ·cases h
theorem rP (p:ByteArray):(yM p).length=p.size:=by simp[yM]
def fC (w:World)(B:Nat)(v:Value)(l:List Int):Prop:=(l=[]/\v=.slice none 0 0)\/∃G,B<=G/\v=.slice (some ⟨G,0,none⟩) l.length l.length/\aQ w G l
theorem fC.below {w w':World}{B:Nat}{v:Value}{l:List Int}(h:fC w B v l)(k:Below w.heap.size w w'):fC w' B v l:=by
 rcases h with h|⟨G,a,b,c⟩
 ·exact .inl h
 ·exact .inr ⟨G,a,b,(k.block _ (aaa c)).trans c⟩
theorem fC.mono {w:World}{B B':Nat}{v:Value}{l:List Int}(h:fC w B v l)(k:B'<=B):fC w B' v l:=by
 rcases h with h|⟨G,a,b,c⟩
 ·exact .inl h
 ·exact .inr ⟨G,by omega,b,c⟩
abbrev Tk (R:UI)(pv sv:Value):Value:=.agg #[.int .i64 R.hd.wd,.int .i64 R.hd.ht,.int .i64 R.hd.kd,.int .i64 R.hd.dp,.bool R.hd.ps,pv,sv]
inductive LM (b:ByteArray) (limit:Int) (w:World):Ending->World->Prop
 | no {w' c}:dm b limit=.error c->Below w.heap.size w w'->LM b limit w (dies c) w'
 | ok {w' R pv sv}:dm b limit=.ok R->fC w' w.heap.size pv R.aq->fC w' w.heap.size sv R.UJ->(∀a n c a' n' c',pv=.slice (some a) n c->sv=.slice (some a') n' c'->a.block≠a'.block)->Below w.heap.size w w'->LM b limit w (.returned (Tk R pv sv)) w'
theorem LO (args:Array Value)(w:World):(callFunc 23 args).run Tryz.prog w=.ok (.enter 23 args) w:=by kernel_rfl
theorem Hy (h:Hd)(h1:Pm.gb h.wd=true)(h2:Pm.gb h.ht=true)(h3:Pm.chan h.kd h.dp≠0):0<=bY h/\bY h<=2000000000:=by
 have a1:=(Pm.dE _).1 h1;have a2:=(Pm.dE _).1 h2;have a3:=Pm.jo _ _ h3;unfold bY Pm.raw;split
 ·have:=rM (Pm.chan h.kd h.dp*h.dp) a1 a2 a3 7 (aah _);omega
 ·have:=Pm.j6 h.wd h.ht (Pm.chan h.kd h.dp*h.dp) (by omega) (by omega) a3;omega
theorem Bj {kd:Int}(h:kd≠3)(p:Option ByteArray):jL kd p=[]:=by unfold jL;rw[aai h]
theorem xq.both {kd dp:Int}{P:kt}{w:World}{e:Ending}{w':World}(h:xq kd dp P w e w'):(e=dies 3/\gI kd dp P.aq=false/\Below w.heap.size w w') \/ (∃pa pc,e=.returned (.slice pa (jL kd P.aq).length pc)/\gI kd dp P.aq=true/\fC w' w.heap.size (.slice pa (jL kd P.aq).length pc) (jL kd P.aq)/\Below w.heap.size w w'):=by
 cases h with
 | no h1 h2=>exact .inl ⟨rfl,h1,h2⟩
 | none h1 h3 h2 =>
  have e:=Bj h3 P.aq;exact .inr ⟨Option.none,0,by rw[e];rfl,h1,.inl ⟨e,by rw[e];rfl⟩,h2⟩
 | @ok _ p G h1 h3 h4 h5 h6 h2 =>
  have e:jL kd P.aq=yM p:=by unfold jL;rw[aaj h3,h4];rfl
  have el:(yM p).length=p.size:=rP p;exact .inr ⟨some ⟨G,0,Option.none⟩,p.size,by rw[e,el],h1,.inr ⟨G,h6,by rw[e,el],by rw[e];exact h5⟩,h2⟩
theorem LP {w w6 w7:World}{MB base G W H D:Nat}{kd:Int}{ps:Bool}{pa:Option Addr}{pc:Nat}{pl l:List Int}(B7:Below w.heap.size w w7)(z7:w7.heap[w.heap.size]?=some (.cells bk 24 (0,0)))(Qt:fC w6 base (.slice pa pl.length pc) pl)(b7:Below w6.heap.size w6 w7)(h5:aQ w7 G l)(h6:w6.heap.size<=G)(hM:w.heap.size<MB)(hb:MB<base)(hM6:MB<w6.heap.size): (l6 (w7.setCell ⟨MB,6,none⟩ (.slice (some ⟨G,0,none⟩) l.length l.length)) w.heap.size (.int .i64 (W:Nat)) (.int .i64 (H:Nat)) (.int .i64 kd) (.int .i64 (D:Nat)) (.bool ps) (.slice pa pl.length pc) (.slice (some ⟨G,0,none⟩) l.length l.length)).heap[w.heap.size]?=some (.cells #[.int .i64 (W:Nat),.int .i64 (H:Nat),.int .i64 kd,.int .i64 (D:Nat),.bool ps,.slice pa pl.length pc,.slice (some ⟨G,0,none⟩) l.length l.length] 24 (0,0)) /\ Below w.heap.size w (l6 (w7.setCell ⟨MB,6,none⟩ (.slice (some ⟨G,0,none⟩) l.length l.length)) w.heap.size (.int .i64 (W:Nat)) (.int .i64 (H:Nat)) (.int .i64 kd) (.int .i64 (D:Nat)) (.bool ps) (.slice pa pl.length pc) (.slice (some ⟨G,0,none⟩) l.length l.length)) /\ fC (l6 (w7.setCell ⟨MB,6,none⟩ (.slice (some ⟨G,0,none⟩) l.length l.length)) w.heap.size (.int .i64 (W:Nat)) (.int .i64 (H:Nat)) (.int .i64 kd) (.int .i64 (D:Nat)) (.bool ps) (.slice pa pl.length pc) (.slice (some ⟨G,0,none⟩) l.length l.length)) w.heap.size (.slice pa pl.length pc) pl /\ fC (l6 (w7.setCell ⟨MB,6,none⟩ (.slice (some ⟨G,0,none⟩) l.length l.length)) w.heap.size (.int .i64 (W:Nat)) (.int .i64 (H:Nat)) (.int .i64 kd) (.int .i64 (D:Nat)) (.bool ps) (.slice pa pl.length pc) (.slice (some ⟨G,0,none⟩) l.length l.length)) w.heap.size (.slice (some ⟨G,0,none⟩) l.length l.length) l /\ (∀a n c a' n' c',Value.slice pa pl.length pc=.slice (some a) n c->Value.slice (some ⟨G,0,none⟩) l.length l.length=.slice (some a') n' c'->a.block≠a'.block):=by
 have W4:=fun g (hg:g≠MB)=>aG w7 MB 6 (.slice (some ⟨G,0,none⟩) l.length l.length) g hg;have z8:=(W4 w.heap.size (by omega)).trans z7;have B8:Below w.heap.size w (w7.setCell ⟨MB,6,none⟩ (.slice (some ⟨G,0,none⟩) l.length l.length)):=B7.setCell (p:=⟨MB,6,none⟩) (by dsimp only;omega) _;have hfr:=fun g (hg:g≠w.heap.size) (hg2:g≠MB)=>(jt (w7.setCell ⟨MB,6,none⟩ (.slice (some ⟨G,0,none⟩) l.length l.length)) w.heap.size (.int .i64 (W:Nat)) (.int .i64 (H:Nat)) (.int .i64 kd) (.int .i64 (D:Nat)) (.bool ps) (.slice pa pl.length pc) (.slice (some ⟨G,0,none⟩) l.length l.length) g hg).trans (W4 g hg2);refine⟨js z8 _ _ _ _ _ _ _,fV B8 w.heap.size (aah _) _ _ _ _ _ _ _,?_,.inr ⟨G,by omega,rfl,(hfr G (by omega) (by omega)).trans h5⟩,?_⟩
 ·rcases Qt with h|⟨g,g1,g2,g3⟩
  ·exact .inl h
  ·exact .inr ⟨g,by omega,g2,(hfr g (by omega) (by omega)).trans ((b7.block g (aaa g3)).trans g3)⟩
 ·intro a n1 c1 a' n2 c2 e1 e2 e3;injection e1 with e1;injection e2 with e2;injection e2 with e2;subst e2;rcases Qt with h|⟨g,g1,g2,g3⟩
  ·injection h.2 with h;rw[h]at e1;cases e1
  ·injection g2 with g2;rw[g2]at e1;injection e1 with e1;subst e1;dsimp only at e3;have:=aaa g3;omega
theorem W8 (b:ByteArray)(limit:Int)(w:World)(hs:b.size<=5000000)(tt:TypeId)(fr:Nat×Nat)(jI:w.heap[0]?=some (.cells cX tt fr)): Calls Tryz.prog 22 #[.string b,.int .i64 limit,.func (.func 23) #[] #[]] w fun e w'=>LM b limit w e w':=by
 have hcall:=LO;have hrp:=fun u=>DF b u (by omega);have k0:=ae w (.cells bk 24);have q0:=ah w (.cells bk 24);have MK:Hid (_):=jI;have HZ0:Hid (_/\_):=⟨k0,q0⟩
 clear k0 q0 jI
 go_enter Tryz.func22,Tryz.ntmps22
 go_wp2_with fail;refine (hrp _).mono ?_;intro e w1 he;have yP:Below (w.heap.size+1) (w.alloc (.cells bk 24)) w1->Below w.heap.size w w1:=fun k=>HZ0.out.1.trans (k.mono (by omega));cases he with
 | @no _ c h1 k1 =>
  simp only[aas]at k1;have HD:Hid (_/\_):=⟨xv (limit:=limit) h1,yP k1⟩
  clear h1 k1 yP hrp;go_wp2;exact⟨rfl,.no HD.out.1 HD.out.2⟩
 | @ok _ P h1 k1 =>
  simp only[aas]at k1;have hps:=Bi h1;have Uz:Hid (dm b limit=partOf P limit):=yW limit h1;have B1:=yP k1;have z1:=(k1.block w.heap.size (by omega)).trans HZ0.out.2;have lz:=aaa z1;have NK:=fun u=>Hm P.head u;obtain⟨kk,p0⟩:=And.intro (ae w1 (.cells #[.string P.head,.bool P.aq.isSome,.string (P.aq.getD ⟨#[]⟩),.string P.data] 66)) (ah w1 (.cells #[.string P.head,.bool P.aq.isSome,.string (P.aq.getD ⟨#[]⟩),.string P.data] 66));have HW1:Hid (_/\_/\_/\_):=⟨B1.trans (kk.mono B1.size),(kk.block _ lz).trans z1,p0,hps⟩
  clear h1 k1 yP hrp hps B1 z1 HZ0 kk p0;go_wp2_with fail;refine (NK _).mono ?_;intro e w2 he;cases he with
  | no h2 k2 =>
   simp only[aas]at k2;have HD:Hid (_/\_):=⟨(by rw[Uz.out,partOf,aaj h2]:dm b limit=.error 13),HW1.out.1.trans (k2.mono (by have:=HW1.out.1.size;simpa using this))⟩
   clear h2 k2 NK;go_wp2;exact⟨rfl,.no HD.out.1 HD.out.2⟩
  | ok h2 k2 =>
   simp only[aas]at k2;obtain⟨_,f1,f2,f3⟩:=DU h2;have hrr:=Hy _ f1 f2 f3
   have HD2:Hid (dm b limit=if limit<bY (jr P.head)\/4194304<bY (jr P.head) then .error 7 else if gI (jr P.head).kd (jr P.head).dp P.aq=false then .error 3 else qP (jr P.head) P):=by
    show _=_;rw[Uz.out,partOf,aai (by rw[h2];decide)]
   generalize jr P.head=h at *;obtain⟨wd,ht,kd,dp,ps⟩:=h;simp only at f1 f2 f3;have a1:=(Pm.dE _).1 f1;have a2:=(Pm.dE _).1 f2;have a3:=Pm.cF _ _ f3;have a4:=Pm.cS kd dp;obtain⟨W,rfl⟩:=abz (a:=wd) (by omega);obtain⟨H,rfl⟩:=abz (a:=ht) (by omega);obtain⟨D,rfl⟩:=abz (a:=dp) (by omega);obtain⟨n,hn⟩:=abz (a:=Pm.chan kd D) (by omega)
   have hraw:bY ⟨W,H,kd,D,ps⟩=Pm.raw W H ((n*D:Nat):Int) ps:=by
    unfold bY;dsimp only;rw[hn];push_cast;rfl
   have kk:=ae w2 (.cells (iX ⟨W,H,kd,D,ps⟩) 24);have m0:=ah w2 (.cells (iX ⟨W,H,kd,D,ps⟩) 24);have zz:=k2.size;simp only[aas]at zz;have z2:=(kk.block _ (by omega)).trans ((k2.block w.heap.size (by omega)).trans HW1.out.2.1);have p2:=(kk.block _ (by omega)).trans ((k2.block w1.heap.size (by omega)).trans HW1.out.2.2.1);have B2:Below w.heap.size w (w2.alloc (.cells (iX ⟨W,H,kd,D,ps⟩) 24)):=(HW1.out.1.trans (k2.mono (by omega))).trans (kk.mono (by omega));have hrw:=fun u hu=>Lr (W:Int) H kd D ps (.slice none 0 0) (.slice none 0 0) u tt fr hu (by omega) (by omega) f3;have t2:Hid ((w2.alloc (.cells (iX ⟨W,H,kd,D,ps⟩) 24)).heap[0]?=some (.cells cX tt fr)):=(B2.block _ (aaa MK.out)).trans MK.out;have hrw2:=hrw _ t2;rw[show Pm.raw W H (Pm.chan kd D*D) ps=bY ⟨W,H,kd,D,ps⟩ from rfl]at hrw2;obtain⟨r,hr⟩:∃r,r=bY ⟨W,H,kd,D,ps⟩:=⟨_,rfl⟩
   rw[<-hr]at hrw2 HD2 hraw hrr;have hps:=HW1.out.2.2.2;have HW2:Hid (_/\_/\_/\_/\_):=⟨B2,z2,p2,m0,hps⟩
   have HF:Hid (_/\_/\_/\_):=⟨hn,hraw,hr,f3⟩
   have HT2:Hid (_):=t2;obtain⟨y0,y1,y2,y3,y4,y5,y6⟩:=aP m0;have lm:=aaa m0;clear HW1 Uz kk m0 z2 p2 B2 hrw t2 hraw hr hps h2 k2 NK f1 f2 f3 hn;go_wp2_with fail;refine hrw2.mono ?_;rintro e w3 ⟨rfl,b3⟩;simp only[aas]at b3;obtain⟨B2,z2,p2,m2,hps⟩:=HW2.out;have B3:Below w.heap.size w w3:=B2.trans (b3.mono (by omega));have z3:=(b3.block w.heap.size (by omega)).trans z2;have p3:=(b3.block w1.heap.size (by omega)).trans p2;have m3:=(b3.block w2.heap.size (by omega)).trans m2;have sz3:=b3.size;simp only[aas]at sz3;have t3:Hid (w3.heap[0]?=some (.cells cX tt fr)):=(B3.block _ (aaa MK.out)).trans MK.out;have HW3:Hid (_/\_/\_/\_/\_):=⟨B3,z3,p3,m3,hps⟩
   clear B2 z2 p2 m2 B3 z3 hps HW2 b3 hrw2 HT2 y0 y1 y2 y3 y4 y5 y6;by_cases hbig:limit<r\/4194304<r
   ·have HD:Hid (dm b limit=.error 7):=by show _=_;rw[HD2.out,aaj hbig]
    by_cases hb1:limit<r
    ·go_wp2;exact⟨rfl,.no HD.out HW3.out.1⟩
    ·have hb2:4194304<r:=by omega
     go_wp2;exact⟨rfl,.no HD.out HW3.out.1⟩
   ·have hb1:¬limit<r:=by omega
    have hb2:¬4194304<r:=by omega
    have HD3:Hid (dm b limit=if gI kd D P.aq=false then .error 3 else qP ⟨W,H,kd,D,ps⟩ P):=by show _=_;rw[HD2.out,aai hbig]
    obtain⟨y0,y1,y2,y3,y4,y5,y6⟩:=aP m3;obtain⟨x0,x1,x2,x3,xf,xl⟩:=DJ p3;have hrd:=fun u=>yN kd D P u (by omega) (fun p hp=>by have:=HW3.out.2.2.2.2.2 p hp;omega);clear HD2 hbig p3 m3;go_wp2_with fail;refine (hrd _).mono ?_;intro e w4 he;have HHE:Hid (_):=he.both;clear he;obtain⟨rfl,h4,b4⟩|⟨pa,pc,rfl,h4,hlv,b4⟩:=HHE.out
    ·have HD:Hid (_/\_):=⟨(by rw[HD3.out,aaj h4]:dm b limit=.error 3),HW3.out.1.trans (b4.mono (by have:=HW3.out.1.size;omega))⟩
     clear HHE h4 b4 hrd;go_wp2;exact⟨rfl,.no HD.out.1 HD.out.2⟩
    ·clear HHE;have HD4:Hid (dm b limit=qP ⟨W,H,kd,D,ps⟩ P):=by show _=_;rw[HD3.out,aai (by rw[h4];decide)]
     obtain⟨B3,z3,p3,m3,hps⟩:=HW3.out;have sz4:=b4.size;have B4:Below w.heap.size w w4:=B3.trans (b4.mono (by omega));have z4:=(b4.block w.heap.size (by omega)).trans z3;have p4:=(b4.block w1.heap.size (by omega)).trans p3;have m4:=(b4.block w2.heap.size (by omega)).trans m3;obtain⟨pl,hpl⟩:∃pl,pl=jL kd P.aq:=⟨_,rfl⟩
     rw[<-hpl]at hlv
     have WK:pl.length<=5000000:=by
      rw[hpl];unfold jL;split
      ·rw[rP];cases hp:P.aq with
       | none=>show (0:Nat)<=_;omega
       | some p=>show p.size<=_;have:=hps.2 p hp;omega
      ·exact aaq _
     have m5:(w4.setCell ⟨w2.heap.size,5,none⟩ (.slice pa pl.length pc)).heap[w2.heap.size]?=some (.cells #[.int .i64 (W:Nat),.int .i64 (H:Nat),.int .i64 kd,.int .i64 (D:Nat),.bool ps,.slice pa pl.length pc,.slice none 0 0] 24 (0,0)):=aau _ w2.heap.size 5 _ _ (.slice pa pl.length pc) m4;have yj:=fun g (hg:g≠w2.heap.size)=>aG w4 w2.heap.size 5 (.slice pa pl.length pc) g hg;have B5:Below w.heap.size w (w4.setCell ⟨w2.heap.size,5,none⟩ (.slice pa pl.length pc)):=B4.setCell (p:=⟨w2.heap.size,5,none⟩) (by dsimp only;omega) _;have z5:=(yj w.heap.size (by omega)).trans z4;have p5:=(yj w1.heap.size (by omega)).trans p4
     have W9:fC (w4.setCell ⟨w2.heap.size,5,none⟩ (.slice pa pl.length pc)) w3.heap.size (.slice pa pl.length pc) pl:=by
      rcases hlv with h|⟨G,g1,g2,g3⟩
      ·exact .inl h
      ·exact .inr ⟨G,g1,g2,(yj G (by omega)).trans g3⟩
     have huw:=Aa P.data r (w4.setCell ⟨w2.heap.size,5,none⟩ (.slice pa pl.length pc)) (by have:=hps.1;omega) (by omega) (by omega);have sz5:(w4.setCell ⟨w2.heap.size,5,none⟩ (.slice pa pl.length pc)).heap.size=w4.heap.size:=by simp
     obtain⟨u0,u1,u2,u3,u4,u5,u6,uf,ul⟩:=gG m4;obtain⟨v0,v1,v2,v3,vf,vl⟩:=DJ p4;have HW5:Hid (_/\_/\_/\_/\_):=⟨B5,z5,p5,m5,W9⟩
     have BQ:Hid (pl=jL kd P.aq):=hpl;rw[<-hpl];clear HW3 hlv b4 B3 z3 p3 m3 B4 z4 p4 m4 m5 yj B5 z5 p5 W9 hps h4 HD3 hpl hrd y0 y1 y2 y3 y4 y5 y6 x0 x1 x2 x3 xf;go_wp2_with fail;refine huw.mono ?_;rintro e w6 ⟨rfl,_,b6⟩;rw[sz5]at b6;obtain⟨B5,z5,p5,m5,W9⟩:=HW5.out;have sz6:=b6.size;rw[sz5]at sz6;have B6:Below w.heap.size w w6:=B5.trans (b6.mono (by omega));have z6:=(b6.block w.heap.size (by omega)).trans z5;have m6:=(b6.block w2.heap.size (by omega)).trans m5;have Qt:=W9.below (by rw[sz5];exact b6);have t6:=(B6.block _ (aaa MK.out)).trans MK.out
     have Qo:Hid (dm b limit=if dx P.data r=7\/(dx P.data r=0/\((jg P.data r).size:Int)≠r) then .error 14 else if dx P.data r≠0 then .error (dx P.data r) else pj ⟨W,H,kd,D,ps⟩ P.aq (jg P.data r)):=by
      show _=_;rw[HD4.out,qP,<-HF.out.2.2.1]
     have nY:Hid (_/\_/\_/\_/\_):=⟨B6,z6,m6,Qt,t6⟩
     generalize dx P.data r=c at *;generalize jg P.data r=t at *;clear B5 z5 p5 m5 W9 HW5 B6 z6 Qt t6 b6 huw HD4 u0 u1 u2 u3 u4 u5 u6 uf v0 v1 v2 v3 vf;by_cases c7:c=7
     ·have HD:Hid (dm b limit=.error 14):=by show _=_;rw[Qo.out,aaj (.inl c7)]
      subst c7;go_wp2;exact⟨rfl,.no HD.out nY.out.1⟩
     ·have c7':(c==7)=false:=aaP.2 c7;by_cases c0:c=0
      ·subst c0;by_cases ht:(t.size:Int)=r
       ·have ht':((t.size:Int) != r)=false:=by rw[ht];simp
        have HD7:Hid (dm b limit=pj ⟨W,H,kd,D,ps⟩ P.aq t):=by
         show _=_;rw[Qo.out,aai (by intro h;rcases h with h|h;exact c7 h;exact h.2 ht),aai (fun h=>h rfl)]
        have HTS:Hid ((t.size:Int)=r):=ht;have abx:1<=n/\n<=4:=by have h1:=HF.out.1;have h2:=HF.out.2.2.2;omega
        have hsm:=LL W H n D kd ps pa pl.length pc (.slice none 0 0) t w6 tt fr nY.out.2.2.2.2 (by rw[<-HF.out.2.1];exact ht.symm) (by omega) (by omega) HF.out.1 abx (by omega) (by omega);obtain⟨y0,y1,y2,y3,y4,y5,y6⟩:=aP m6;have HM6:Hid (_):=m6;clear Qo ht m6;go_wp2_with fail;refine hsm.mono ?_;intro e w7 he;clear hsm y0 y1 y2 y3 y4 y5 y6;cases he with
        | WZ h1 b7 =>
         have HD:Hid (_/\_):=⟨(by rw[HD7.out];unfold pj;show (match Pm.lO ⟨W,H,(Pm.chan kd D).toNat,D⟩ (af t) ps with|none=>_|some l=>_)=_;rw[show (Pm.chan kd D).toNat=n by rw[HF.out.1];rfl,h1]:dm b limit=.error 15),nY.out.1.trans (b7.mono (by have:=nY.out.1.size;omega))⟩
         clear h1 b7;go_wp2;exact⟨rfl,.no HD.out.1 HD.out.2⟩
        | @idx _ l h1 h3 h5 b7 =>
         have HD:Hid (_/\_):=⟨(by rw[HD7.out];unfold pj;show (match Pm.lO ⟨W,H,(Pm.chan kd D).toNat,D⟩ (af t) ps with|none=>_|some l=>_)=_;rw[show (Pm.chan kd D).toNat=n by rw[HF.out.1];rfl,h1];show (if _ then _ else _)=_;rw[<-BQ.out];exact aaj ⟨h3,h5⟩:dm b limit=.error 16),nY.out.1.trans (b7.mono (by have:=nY.out.1.size;omega))⟩
         clear h1 b7 h3 h5;go_wp2;exact⟨rfl,.no HD.out.1 HD.out.2⟩
        | @ok _ l G h1 h3 h5 h6 b7 =>
         have HD:Hid (dm b limit=.ok ⟨⟨W,H,kd,D,ps⟩,pl,l⟩):=by
          show _=_;rw[HD7.out];unfold pj;show (match Pm.lO ⟨W,H,(Pm.chan kd D).toNat,D⟩ (af t) ps with|none=>_|some l=>_)=_;rw[show (Pm.chan kd D).toNat=n by rw[HF.out.1];rfl,h1];show (if _ then _ else _)=_;rw[<-BQ.out];refine aai (fun h=>?_);rw[h3 h.1]at h;cases h.2
         have hll:=(Pm.xd _ _ _ _ h1).1;rw[<-hll];clear hll;obtain⟨B6,z6,m6,Qt,t6⟩:=nY.out;have sz7:=b7.size;have lw6:=B6.size;have ll6:=aaa m6;have B7:Below w.heap.size w w7:=B6.trans (b7.mono (by omega));have z7:=(b7.block w.heap.size (by omega)).trans z6;have m7:=(b7.block w2.heap.size (by omega)).trans m6;obtain⟨u0,u1,u2,u3,u4,u5,u6,uf,ul⟩:=gG m7;obtain⟨v0,v1,v2,v3,v4,v5,v6,vf,vl⟩:=gG z7;have HE:Hid (_):=LP (W:=W) (H:=H) (D:=D) (kd:=kd) (ps:=ps) (MB:=w2.heap.size) B7 z7 Qt b7 h5 h6 (by omega) (by omega) (by omega);have nw:w.heap.size≠w2.heap.size:=by omega
         clear nY B6 z6 m6 Qt t6 B7 z7 m7 HM6 HD7 h1 h3 h5 b7;go_wp2;obtain⟨hend,hbe,lp,ls,ha⟩:=HE.out;exact aaF (v:=Tk ⟨⟨W,H,kd,D,ps⟩,pl,l⟩ (.slice pa pl.length pc) (.slice (some ⟨G,0,none⟩) l.length l.length)) (results_cell_row rfl _ _ w.heap.size 24 _ (0,0) _ rfl hend Tryz.underlying24 rfl Tryz.infoImage) rfl (.ok HD.out lp ls ha hbe)
       ·have ht':((t.size:Int) != r)=true:=by simp[ht]
        have HD:Hid (dm b limit=.error 14):=by show _=_;rw[Qo.out,aaj (.inr ⟨rfl,ht⟩)]
        go_wp2;exact⟨rfl,.no HD.out nY.out.1⟩
      ·have c0':(c==0)=false:=aaP.2 c0;have c0n:(c != 0)=true:=by simp[c0]
       have HD:Hid (dm b limit=.error c):=by show _=_;rw[Qo.out,aai (by intro h;rcases h with h|h;exact c7 h;exact c0 h.1),aaj c0]
       go_wp2;exact⟨rfl,.no HD.out nY.out.1⟩
theorem qQ (p:Addr)(x c:Int)(older:List PanicEntry)(w:World)(hc:w.cell? p=some (.int .i64 x))(hz:w.frozen? p=false): CallsD Tryz.prog 20 #[.pointer (some p)] (.panicking ({ v:=.iface 63 (.int .i64 c),recovered:=false }::older)) w fun e u' w' =>
   e=.returned (.tuple #[])/\u'=.panicking ({ v:=.iface 63 (.int .i64 c),recovered:=true }::older)/\w'=w.setCell p (.int .i64 c):=by
 refine callsD_of_wpS Tryz.func20 rfl fun c₀ cs hu=>?_;apply wpS_region;simp[wpOpsS,go_sem,recoverD,hu,Tryz.ntmps20];refine (kY c 11 w).mono ?_;rintro e w' ⟨rfl,rfl⟩;simp[go_sem,hc,hz,bodyPostS,results,Tryz.results20]
theorem Bl (p:Addr)(x:Int)(w:World)(hc:w.cell? p=some (.int .i64 x))(hz:w.frozen? p=false): CallsD Tryz.prog 20 #[.pointer (some p)] .returning w fun e u' w'=>e=.returned (.tuple #[])/\u'=.returning/\w'=w.setCell p (.int .i64 0):=by
 refine callsD_of_wpS Tryz.func20 rfl fun c₀ cs hu=>?_;apply wpS_region;simp[wpOpsS,go_sem,recoverD,hu,Tryz.ntmps20];refine (oL 11 w).mono ?_;rintro e w' ⟨rfl,rfl⟩;simp[go_sem,hc,hz,bodyPostS,results,Tryz.results20];cases c₀
 simp_all
inductive LQ (b:ByteArray) (limit:Int) (w:World):Ending->World->Prop
 | no {w' c}:dm b limit=.error c->Below w.heap.size w w'->LQ b limit w (.returned (.tuple #[.agg bk,.int .i64 c])) w'
 | ok {w' R pv sv}:dm b limit=.ok R->fC w' w.heap.size pv R.aq->fC w' w.heap.size sv R.UJ->(∀a n c a' n' c',pv=.slice (some a) n c->sv=.slice (some a') n' c'->a.block≠a'.block)->Below w.heap.size w w'->LQ b limit w (.returned (.tuple #[Tk R pv sv,.int .i64 0])) w'
theorem fC.far {w w':World}{B:Nat}{v:Value}{l:List Int}(h:fC w B v l)(k:∀g,B<=g->g<w.heap.size->w'.heap[g]?=w.heap[g]?):fC w' B v l:=by
 rcases h with h|⟨G,a,b,c⟩
 ·exact .inl h
 ·exact .inr ⟨G,a,b,(k _ a (aaa c)).trans c⟩
theorem Bm {w:World}{B:Nat}{v:Value}{l:List Int}(h:fC w B v l):∃a n c,v=.slice a n c:=by
 rcases h with h|⟨G,a,b,c⟩
 ·exact⟨_,_,_,h.2⟩
 ·exact⟨_,_,_,b⟩
theorem Zd (b:ByteArray)(limit:Int)(w:World)(hs:b.size<=5000000)(tt:TypeId)(fr:Nat×Nat)(jI:w.heap[0]?=some (.cells cX tt fr)): Calls Tryz.prog 10 #[.string b,.int .i64 limit] w fun e w'=>LQ b limit w e w':=by
 have Uf:∀(fn:Fn) (first cap:Array Value) (w:World),(Instr.makeFunc fn first cap).run Tryz.prog w=.ok (.func fn first cap) w:=fun _ _ _ _=>rfl;obtain⟨k0,q0,q1⟩:=bH w (.cells bk 24) (.cells #[.int .i64 0] 31);have hr:=W8 b limit _ hs tt fr ((k0.block _ (aaa jI)).trans jI);have HK:Hid (_/\_/\_):=⟨k0,q0,q1⟩
 clear k0 q0 q1 jI
 go_enter_defers Tryz.func10,Tryz.ntmps10
 go_wp2_with fail;refine hr.mono ?_;intro e w1 he;clear hr;cases he with
 | @no _ c h1 b1 =>
  simp only[aas]at b1;obtain⟨k0,q0,q1⟩:=HK.out;have z0:=(b1.block w.heap.size (by omega)).trans q0;have hb:=(b1.block (w.heap.size+1) (by omega)).trans q1;obtain⟨c0,cz,xR⟩:=one_cell hb;have j7:=one_set hb (.int .i64 c);obtain⟨x0,xz,xlt⟩:=one_cell j7;have z1:=(aG w1 (w.heap.size+1) 0 (.int .i64 c) w.heap.size (by omega)).trans z0;obtain⟨y0,y1,y2,y3,y4,y5,y6⟩:=aP z1;have HD:Hid (_/\_):=⟨h1,(k0.trans (b1.mono (by omega))).setCell (p:=⟨w.heap.size+1,0,none⟩) (by dsimp only;omega) (.int .i64 c)⟩
  clear h1 b1 HK k0 q0 q1 z0 z1 j7;go_wp2;refine leaves_cons (f:=20) (args:=#[.pointer (some ⟨w.heap.size+1,0,none⟩)]) (by simp) (by simp[go_sem]) ?_;refine (qQ ⟨w.heap.size+1,0,none⟩ 0 c [] _ c0 cz).mono ?_;rintro e u' w'' ⟨rfl,rfl,rfl⟩;simp[Leaves,settle,results,Tryz.results10,go_sem,x0,y0,y1,y2,y3,y4,y5,y6];exact .no HD.out.1 HD.out.2
 | @ok _ R pv sv h1 lp ls ha b1 =>
  simp only[aas]at b1 lp ls;obtain⟨k0,q0,q1⟩:=HK.out;have z0:=(b1.block w.heap.size (by omega)).trans q0;have e0:=(b1.block (w.heap.size+1) (by omega)).trans q1;obtain⟨pa,pn,pc,rfl⟩:=Bm lp;obtain⟨sa,sn,sc,rfl⟩:=Bm ls;obtain⟨⟨wd,ht,kd,dp,ps⟩,pl,sl⟩:=R;dsimp only at lp ls;have r1:=js z0 (.int .i64 wd) (.int .i64 ht) (.int .i64 kd) (.int .i64 dp) (.bool ps) (.slice pa pn pc) (.slice sa sn sc);have f1:=fun g hg=>jt w1 w.heap.size (.int .i64 wd) (.int .i64 ht) (.int .i64 kd) (.int .i64 dp) (.bool ps) (.slice pa pn pc) (.slice sa sn sc) g hg;have B1:=fV (k0.trans (b1.mono (by omega))) w.heap.size (aah _) (.int .i64 wd) (.int .i64 ht) (.int .i64 kd) (.int .i64 dp) (.bool ps) (.slice pa pn pc) (.slice sa sn sc);have e1:=(f1 (w.heap.size+1) (by omega)).trans e0;obtain⟨v0,v1,v2,v3,v4,v5,v6,vf,vl⟩:=gG z0;obtain⟨i0,iz,il⟩:=one_cell e0;have LR:=one_set e1 (.int .i64 0);obtain⟨d0,dz,dl⟩:=one_cell LR;have j7:=one_set LR (.int .i64 0);obtain⟨x0,xz,xl⟩:=one_cell j7;have r2:=(aG _ (w.heap.size+1) 0 (.int .i64 0) w.heap.size (by omega)).trans ((aG _ (w.heap.size+1) 0 (.int .i64 0) w.heap.size (by omega)).trans r1);obtain⟨y0,y1,y2,y3,y4,y5,y6⟩:=aP r2;have f2:=fun g (h0:g≠w.heap.size) (h1:g≠w.heap.size+1)=>(aG _ (w.heap.size+1) 0 (.int .i64 0) g h1).trans ((aG _ (w.heap.size+1) 0 (.int .i64 0) g h1).trans (f1 g h0));have lp2:=lp.far (fun g h0 _=>f2 g (by omega) (by omega));have ls2:=ls.far (fun g h0 _=>f2 g (by omega) (by omega));have B2:=(B1.setCell (p:=⟨w.heap.size+1,0,none⟩) (by dsimp only;omega) (.int .i64 0)).setCell (p:=⟨w.heap.size+1,0,none⟩) (by dsimp only;omega) (.int .i64 0);have HD:Hid (_/\_/\_/\_/\_):=⟨h1,lp2.mono (B':=w.heap.size) (by omega),ls2.mono (B':=w.heap.size) (by omega),ha,B2⟩
  clear h1 b1 HK k0 q0 q1 z0 lp ls r1 f1 B1 LR j7 r2 f2 lp2 ls2 B2 ha e0 e1;go_wp2;refine leaves_cons (f:=20) (args:=#[.pointer (some ⟨w.heap.size+1,0,none⟩)]) (by simp) (by simp[go_sem]) ?_;refine (Bl ⟨w.heap.size+1,0,none⟩ 0 _ d0 dz).mono ?_;rintro e u' w'' ⟨rfl,rfl,rfl⟩;simp[Leaves,settle,results,Tryz.results10,go_sem,x0,y0,y1,y2,y3,y4,y5,y6];exact .ok HD.out.1 HD.out.2.1 HD.out.2.2.1 HD.out.2.2.2.1 HD.out.2.2.2.2
theorem p8 {w w':World}{m k:Nat}{o:Obj}(h:w.heap[k]?=some o)(e:w'=w.drewN m):w'.heap[k]?=some o:=by rw[e];exact h
theorem xx (ao bo:Option Addr)(c1 c2:Nat)(l:List Int)(w:World)(h1:Ints w ao l)(h2:Ints w bo l)(hl:l.length<=1000000000): Calls Tryz.prog 25 #[.slice ao l.length c1,.slice bo l.length c2] w fun e w'=>e=.returned (.bool true)/\∃m,w'=w.drewN m:=by
 have HI:Hid (_/\_):=⟨h1,h2⟩
 have hne:((l.length:Int) != (l.length:Int))=false:=by simp
 clear h1 h2
 go_enter Tryz.func25,Tryz.ntmps25
 go_wp2
 go_loopw [5] (fun ix wr=>∃k m:Nat,k<=l.length/\ix=.int .i64 k/\wr=w.drewN m) (fun ix _=>l.length-(intOf ix).toNat)
 case atStart=>exact⟨0,0,aaq _,rfl,rfl⟩
 case round =>
  obtain⟨k,m,hk,rfl,hwr⟩:=hrel;by_cases hlt:k<l.length
  ·have hlt':(k:Int)<(l.length:Int):=by omega
   obtain⟨b1,o1,e1,g1⟩:=HI.out.1 k hlt;obtain⟨b2,o2,e2,g2⟩:=HI.out.2 k hlt;obtain⟨x,hx⟩:∃x:Int,x=l[k]:=⟨_,rfl⟩
   rw[<-hx]at g1 g2;have g1':wr.cell? ⟨b1,o1+k,none⟩=some (.int .i64 x):=by rw[hwr];exact g1
   have g2':wr.cell? ⟨b2,o2+k,none⟩=some (.int .i64 x):=by rw[hwr];exact g2
   have Xa:Hid (_):=hwr;clear hx g1 g2 hwr;subst e1 e2;go_wp2;have hS:wr.drew.cell? ⟨b1,o1+k,none⟩=some (.int .i64 x)/\wr.drew.cell? ⟨b2,o2+k,none⟩=some (.int .i64 x):=⟨g1',g2'⟩
   refine ax (fun u=>u.cell? ⟨b1,o1+k,none⟩=some (.int .i64 x)/\u.cell? ⟨b2,o2+k,none⟩=some (.int .i64 x)) 99 ?_;refine ap [0,1,2,3,4,5,6,7,8] ?_
   iterate 9 refine aT hS ?_
   refine aj ?_;refine am ?_;go_wp2
   go_roundw
   case rel=>exact⟨k+1,m+1,by omega,by go_num,by rw[Xa.out];simp⟩
   case measure=>simp[intOf];omega
  ·have hnlt:¬(k:Int)<(l.length:Int):=by omega
   have Xa:Hid (_):=hwr;clear hwr;go_wp2
   go_ret
   exact⟨rfl,m,Xa.out⟩
theorem aea (wd ht kd dp:Int)(ps:Bool)(pa pb sa sb:Option Addr)(pc pd sc sd:Nat)(pl sl:List Int)(w:World)(hp1:Ints w pa pl)(hp2:Ints w pb pl)(hs1:Ints w sa sl)(hs2:Ints w sb sl)(hb1:∀a,pa=some a->pl≠[]->a.block<w.heap.size)(hb2:∀a,pb=some a->pl≠[]->a.block<w.heap.size)(hb3:∀a,sa=some a->sl≠[]->a.block<w.heap.size)(hb4:∀a,sb=some a->sl≠[]->a.block<w.heap.size)(hl1:pl.length<=1000000000)(hl2:sl.length<=1000000000): Calls Tryz.prog 14 #[img wd ht kd dp ps (.slice pa pl.length pc) (.slice sa sl.length sc),img wd ht kd dp ps (.slice pb pl.length pd) (.slice sb sl.length sd)] w fun e w'=>e=.returned (.bool true)/\Below w.heap.size w w':=by
 obtain⟨k0,q0,q1⟩:=bH w (.cells #[.int .i64 wd,.int .i64 ht,.int .i64 kd,.int .i64 dp,.bool ps,.slice pa pl.length pc,.slice sa sl.length sc] 24) (.cells #[.int .i64 wd,.int .i64 ht,.int .i64 kd,.int .i64 dp,.bool ps,.slice pb pl.length pd,.slice sb sl.length sd] 24);have hA:=xx pa pb pc pd pl _ (hp1.below k0 hb1) (hp2.below k0 hb2) hl1;have i3:=hs1.below k0 hb3;have i4:=hs2.below k0 hb4;have HQ:Hid (_/\_/\_/\_/\_):=⟨k0,q0,q1,i3,i4⟩
 clear hp1 hp2 hs1 hs2 hb1 hb2 hb3 hb4 k0 q0 q1 i3 i4
 go_enter Tryz.func14,Tryz.ntmps14
 go_wp2_with fail;refine hA.mono ?_;rintro e w1 ⟨rfl,m1,hw1⟩;obtain⟨k0,q0,q1,i3,i4⟩:=HQ.out;have PA:=p8 q0 hw1;have q1':=p8 q1 hw1;have k1:Below w.heap.size w w1:=by rw[hw1];exact aaD k0 m1
 have hB:=xx sa sb sc sd sl w1 (by rw[hw1];exact i3) (by rw[hw1];exact i4) hl2;obtain⟨y0,y1,y2,y3,y4,y5,y6⟩:=aP PA;obtain⟨z0,z1,z2,z3,z4,z5,z6⟩:=aP q1';have xT:Hid (_/\_/\_):=⟨k1,PA,q1'⟩
 clear k0 q0 q1 i3 i4 PA q1' k1 hw1 HQ hA;go_wp2_with fail;refine hB.mono ?_;rintro e w2 ⟨rfl,m2,hw2⟩;obtain⟨k1,PA,q1'⟩:=xT.out;have Xc:=p8 PA hw2;have Xd:=p8 q1' hw2;have k2:Below w.heap.size w w2:=by rw[hw2];exact aaD k1 m2
 clear y0 y1 y2 y3 y4 y5 y6 z0 z1 z2 z3 z4 z5 z6;obtain⟨y0,y1,y2,y3,y4,y5,y6⟩:=aP Xc;obtain⟨z0,z1,z2,z3,z4,z5,z6⟩:=aP Xd;have GT:Hid (_):=k2;have t1:(wd==wd)=true:=by simp
 clear k1 PA q1' Xc Xd k2 hw2 xT hB;go_wp2
 go_ret
 exact⟨rfl,GT.out⟩
end Go.Proofs.YtmfijackgekioabGreatDoor
