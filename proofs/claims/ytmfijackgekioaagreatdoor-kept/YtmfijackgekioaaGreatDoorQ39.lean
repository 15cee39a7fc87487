import Derived.Test.YtmfijackgekioaaGreatDoorQ35
set_option maxHeartbeats 1000000
set_option maxRecDepth 100000
namespace Go.Proofs.YtmfijackgekioaaGreatDoor
open Go.RowKit Go.Maps
inductive E4 (m:Pm.cZ) (T:ByteArray) (on:Bool) (kd:Int) (pl:Nat) (w:World):Ending->World->Prop
 | WP {w'}:Pm.lu m (ag T) on=none->Below w.heap.size w w'->E4 m T on kd pl w (dies 15) w'
 | idx {w' l}:Pm.lu m (ag T) on=some l->kd=3->Pm.ee l ((pl:Int)/3)=false->Below w.heap.size w w'->E4 m T on kd pl w (dies 16) w'
 | ok {w' l G}:Pm.lu m (ag T) on=some l->(kd=3->Pm.ee l ((pl:Int)/3)=true)->aP w' G l->w.heap.size<=G->Below w.heap.size w w'->E4 m T on kd pl w (.returned (.slice (some ⟨G,0,none⟩) (m.W*m.H*m.n) (m.W*m.H*m.n))) w'
theorem Li (W H n dp:Nat)(kd:Int)(ps:Bool)(pa:Option Addr)(pl pc:Nat)(sv:Value)(T:ByteArray)(w:World)(tt:TypeId)(fr:Nat×Nat)(jl:w.heap[0]?=some (.cells cA tt fr))(hol:Pm.raw W H ((n*dp:Nat):Int) ps=(T.size:Int))(hT:T.size<=5000000)(hpl:pl<=1000000000)(hch:Pm.chan kd dp=(n:Int))(hn:1<=n/\n<=4)(hW:1<=W/\W<=5000)(hH:1<=H/\H<=5000): Calls Tryz.prog 91 #[img W H kd dp ps (.slice pa pl pc) sv,.string T] w fun e w'=>E4 ⟨W,H,n,dp⟩ T ps kd pl w e w':=by
 have hcs:=fun u=>lC kd dp u;rw[hch]at hcs;obtain⟨N,hN⟩:∃N,N=W*H*n:=⟨_,rfl⟩
 have hNb:N<=100000000:=by
  rw[hN];have:W*H*n<=5000*5000*4:=Nat.mul_le_mul (Nat.mul_le_mul hW.2 hH.2) hn.2;omega
 obtain⟨A,hA⟩:∃A,A=W*H:=⟨_,rfl⟩
 have eA:(W:Int)*(H:Int)=(A:Int):=by rw[hA];push_cast;rfl
 have Yu:A<=25000000:=by
  rw[hA];have:W*H<=5000*5000:=Nat.mul_le_mul hW.2 hH.2;omega
 have wA:IntKind.i64.wrap (A:Int)=(A:Int):=IntWalk.i64_in _ (by omega);have eN:(A:Int)*(n:Int)=(N:Int):=by rw[hN,hA];push_cast;rfl
 have wN:IntKind.i64.wrap (N:Int)=(N:Int):=IntWalk.i64_in _ (by omega);obtain⟨Z,hZ⟩:∃Z:List Value,Z=List.replicate N (.int .i64 0):=⟨_,rfl⟩
 have hmk:=fun u=>KN N (by omega) Z hZ u;have HZ:Hid (Z=vals (List.replicate N 0)):=by show _=_;rw[hZ,bC]
 have HN:Hid (N=W*H*n):=hN;have HH:Hid (_/\_):=⟨jl,hol⟩
 have q:=oo w (.cells (aE W H kd dp ps (.slice pa pl pc) sv) 30) (.cells #[.int .i64 (n:Nat)] 3) (.cells Z.toArray 3) (.cells #[.slice (some ⟨w.heap.size+1+1,0,none⟩) N N] 24);have HQ:Hid (_):=q;clear hN hA hZ jl hol q
 go_enter Tryz.func91,Tryz.ntmps91
 go_wp2_with fail;refine (hcs _).mono ?_;rintro e w' ⟨rfl,rfl⟩;go_wp2_with fail;have zv:((((w.alloc (.cells (aE W H kd dp ps (.slice pa pl pc) sv) 30)).alloc (.cells #[.int .i64 (n:Nat)] 3)).alloc (.cells Z.toArray 3)).alloc (.cells #[.slice (some ⟨w.heap.size+1+1,0,none⟩) N N] 24)).heap.size=w.heap.size+4:=by simp
 have Pd:=HQ.out;clear HQ;revert Pd zv;dsimp only[aE];generalize World.alloc _ (.cells #[.slice (some ⟨w.heap.size+1+1,0,none⟩) N N] 24)=v0;intro zv Pd;obtain⟨k0,q0,q1,q2,q3⟩:=Pd;rw[HZ.out]at q2;have S0:nQ v0 w.heap.size (w.heap.size+1+1+1) (w.heap.size+1) (w.heap.size+1+1) N W H n kd dp ps (.slice pa pl pc) sv:=⟨q0,q3,q1⟩
 have WQ:=(k0.block _ (lt_of_block HH.out.1)).trans HH.out.1;have hrow:=Lc W H n dp kd ps (.slice pa pl pc) sv T w.heap.size (w.heap.size+1+1+1) (w.heap.size+1) (w.heap.size+1+1) N v0 tt fr WQ S0 ⟨by omega,by omega,by omega⟩ q2 HH.out.2 hT HN.out hch hn hW hH;have HS:Hid (_/\_):=⟨S0,k0⟩
 clear S0 k0 q0 q1 q2 q3 WQ;refine hrow.mono ?_;rintro e w1 ⟨bR,hbR,u,hu,he⟩;have hbel:Kp (fun k=>k=w.heap.size+1+1\/k=bR) u w1->Below w.heap.size w w1:=fun kp=>(HS.out.2.trans (hu.mono (by omega))).trans (kp.below (by have:=hu.size;omega) (fun k _ e=>by omega));have Ok:Hid (_):=hbel;have HU:Hid (_):=hu;clear hbel hrow;cases he with
 | no h1 k1 =>
  have HE:Hid (_/\_):=⟨h1,Ok.out k1⟩
  clear h1 k1 Ok;go_wp2;exact⟨rfl,.WP HE.out.1 HE.out.2⟩
 | @ok _ l h1 l1 k1 =>
  have hfl:=Pm.wE _ _ _ _ h1;have hll:l.length=N:=by rw[hfl.1,HN.out]
  have S1:=(HS.out.1.below hu).kept (w':=w1) (fun j hj=>k1.block j (by have:=hu.size;omega) (by omega));obtain⟨m0,m1,m2,m3,m4,m5,m6⟩:=aJ S1.m;have ms:=S1.s.cell;have HE:Hid (_/\_/\_):=⟨h1,l1,Ok.out k1⟩
  have hab:=fun e=>lE (some ⟨w.heap.size+1+1,0,none⟩) N l e w1 (by rw[hll];unfold maxLen;omega) l1.ints;rw[hll]at hab;have HNN:Hid (N=W*H*n):=HN.out;clear h1 l1 k1 Ok hfl S1 hll hu;by_cases h3:kd=3
  ·subst h3;have SM:=hab ((pl:Int)/3);have Yw:Hid (∃b,b=Pm.ee l ((pl:Int)/3)):=⟨_,rfl⟩
   obtain⟨b,hb⟩:=Yw.out;rw[<-hb]at SM;have HB:Hid (b=Pm.ee l ((pl:Int)/3)):=hb;clear hb hab Yw;cases b
   ·go_wp2_with fail;refine SM.mono ?_;rintro e w' ⟨rfl,rfl⟩;go_wp2;exact⟨rfl,.idx HE.out.1 rfl HB.out.symm HE.out.2.2⟩
   ·go_wp2_with fail;refine SM.mono ?_;rintro e w' ⟨rfl,rfl⟩;go_wp2
    go_ret
    rw[HNN.out];exact .ok HE.out.1 (fun _=>HB.out.symm) HE.out.2.1 (by omega) HE.out.2.2
  ·have h3':(kd==3)=false:=beq_eq_false_iff_ne.2 h3;go_wp2
   go_ret
   rw[HNN.out];exact .ok HE.out.1 (fun e=>absurd e h3) HE.out.2.1 (by omega) HE.out.2.2
structure WR where
 hd:Hd
 aD:List Int
 Uj:List Int
def ct (h:Hd):Int:=Pm.raw h.wd h.ht (Pm.chan h.kd h.dp*h.dp) h.ps
def gG (h:Hd):Pm.cZ:=⟨h.wd.toNat,h.ht.toNat,(Pm.chan h.kd h.dp).toNat,h.dp.toNat⟩
def jD (kd:Int)(p:Option ByteArray):List Int:=if kd=3 then ym (p.getD ⟨#[]⟩) else []
def oU (h:Hd)(p:Option ByteArray)(t:ByteArray):Except Int WR :=
 match Pm.lu (gG h) (ag t) h.ps with
 | none=>.error 15
 | some l=>if h.kd=3/\Pm.ee l (((jD h.kd p).length:Int)/3)=false then .error 16 else .ok ⟨h,jD h.kd p,l⟩
def qL (h:Hd)(P:j0):Except Int WR :=
 if cX P.data (ct h)=7\/(cX P.data (ct h)=0/\((i7 P.data (ct h)).size:Int)≠ct h) then .error 14
 else if cX P.data (ct h)≠0 then .error (cX P.data (ct h))
 else oU h P.aD (i7 P.data (ct h))
def partOf (P:j0)(limit:Int):Except Int WR :=
 if ux P.head=false then .error 13
 else if limit<ct (ji P.head)\/4194304<ct (ji P.head) then .error 7
 else if gD (ji P.head).kd (ji P.head).dp P.aD=false then .error 3
 else qL (ji P.head) P
def dR (b:ByteArray)(limit:Int):Except Int WR :=
 match partsOf b with
 | .error c=>.error c
 | .ok P=>partOf P limit
theorem Hb {b:ByteArray}{limit c:Int}(h:partsOf b=.error c):dR b limit=.error c:=by unfold dR;rw[h]
theorem Lj {b:ByteArray}{P:j0}(limit:Int)(h:partsOf b=.ok P):dR b limit=partOf P limit:=by unfold dR;rw[h]
theorem Dk {b:ByteArray}(h:ux b=true):b.size=13/\Pm.fU (ji b).wd=true/\Pm.fU (ji b).ht=true/\Pm.chan (ji b).kd (ji b).dp≠0:=by
 simp only[ux,Bool.and_eq_true,Bool.not_eq_true',decide_eq_true_eq,beq_eq_false_iff_ne]at h;exact⟨h.1,h.2.1.1,h.2.1.2,h.2.2.2⟩
theorem oV (nm:List UInt8):∀L:List Ch,(gy nm L).size<=iN L
 | []=>Nat.le_refl _
 | c::r=>by
  have ih:=oV nm r;have e:iN (c::r)=c.data.size+iN r:=by simp[iN]
  rw[gO,e];split
  ·rw[ByteArray.size_append];omega
  ·omega
theorem AR {b:ByteArray}{P:j0}(h:partsOf b=.ok P):P.data.size<=b.size/\∀p,P.aD=some p->p.size<=b.size:=by
 unfold partsOf at h;split at h
 ·cases hc:aO (b.extract 8 b.size) with
  | none=>rw[hc]at h;cases h
  | some L =>
   rw[hc]at h;simp only at h;cases ho:cQ L with
   | none=>rw[ho]at h;cases h
   | some Q =>
    rw[ho]at h;simp only[Except.ok.injEq]at h;subst h;obtain⟨a1,_,a3⟩:=CX ho;have hz:=(pL hc).1;have hs:(b.extract 8 b.size).size<=b.size:=by rw[ByteArray.size_extract];omega
    have j1:=oV cV L;have j2:=oV dP L;rw[a1]at j1;rw[a3]at j2;refine⟨by omega,fun p hp=>?_⟩;rw[hp]at j2;have:p.size<=iN L:=j2;omega
 ·cases h
theorem rH (p:ByteArray):(ym p).length=p.size:=by simp[ym]
def fw (w:World)(B:Nat)(v:Value)(l:List Int):Prop:=(l=[]/\v=.slice none 0 0)\/∃G,B<=G/\v=.slice (some ⟨G,0,none⟩) l.length l.length/\aP w G l
theorem fw.below {w w':World}{B:Nat}{v:Value}{l:List Int}(h:fw w B v l)(k:Below w.heap.size w w'):fw w' B v l:=by
 rcases h with h|⟨G,a,b,c⟩
 ·exact .inl h
 ·exact .inr ⟨G,a,b,(k.block _ (lt_of_block c)).trans c⟩
theorem fw.mono {w:World}{B B':Nat}{v:Value}{l:List Int}(h:fw w B v l)(k:B'<=B):fw w B' v l:=by
 rcases h with h|⟨G,a,b,c⟩
 ·exact .inl h
 ·exact .inr ⟨G,by omega,b,c⟩
abbrev SN (R:WR)(pv sv:Value):Value:=.agg #[.int .i64 R.hd.wd,.int .i64 R.hd.ht,.int .i64 R.hd.kd,.int .i64 R.hd.dp,.bool R.hd.ps,pv,sv]
inductive Lk (b:ByteArray) (limit:Int) (w:World):Ending->World->Prop
 | no {w' c}:dR b limit=.error c->Below w.heap.size w w'->Lk b limit w (dies c) w'
 | ok {w' R pv sv}:dR b limit=.ok R->fw w' w.heap.size pv R.aD->fw w' w.heap.size sv R.Uj->(∀a n c a' n' c',pv=.slice (some a) n c->sv=.slice (some a') n' c'->a.block≠a'.block)->Below w.heap.size w w'->Lk b limit w (.returned (SN R pv sv)) w'
theorem Ll (args:Array Value)(w:World):(callFunc 46 args).run Tryz.prog w=.ok (.enter 46 args) w:=by kernel_rfl
theorem Hc (h:Hd)(h1:Pm.fU h.wd=true)(h2:Pm.fU h.ht=true)(h3:Pm.chan h.kd h.dp≠0):0<=ct h/\ct h<=2000000000:=by
 have a1:=(Pm.dj _).1 h1;have a2:=(Pm.dj _).1 h2;have a3:=Pm.jh _ _ h3;unfold ct Pm.raw;split
 ·have:=rE (Pm.chan h.kd h.dp*h.dp) a1 a2 a3 7 (Nat.le_refl _);omega
 ·have:=Pm.jU h.wd h.ht (Pm.chan h.kd h.dp*h.dp) (by omega) (by omega) a3;omega
theorem AU {kd:Int}(h:kd≠3)(p:Option ByteArray):jD kd p=[]:=by unfold jD;rw[if_neg h]
theorem wJ.both {kd dp:Int}{P:j0}{w:World}{e:Ending}{w':World}(h:wJ kd dp P w e w'):(e=dies 3/\gD kd dp P.aD=false/\Below w.heap.size w w') \/ (∃pa pc,e=.returned (.slice pa (jD kd P.aD).length pc)/\gD kd dp P.aD=true/\fw w' w.heap.size (.slice pa (jD kd P.aD).length pc) (jD kd P.aD)/\Below w.heap.size w w'):=by
 cases h with
 | no h1 h2=>exact .inl ⟨rfl,h1,h2⟩
 | none h1 h3 h2 =>
  have e:=AU h3 P.aD;exact .inr ⟨Option.none,0,by rw[e];rfl,h1,.inl ⟨e,by rw[e];rfl⟩,h2⟩
 | @ok _ p G h1 h3 h4 h5 h6 h2 =>
  have e:jD kd P.aD=ym p:=by unfold jD;rw[if_pos h3,h4];rfl
  have el:(ym p).length=p.size:=rH p;exact .inr ⟨some ⟨G,0,Option.none⟩,p.size,by rw[e,el],h1,.inr ⟨G,h6,by rw[e,el],by rw[e];exact h5⟩,h2⟩
theorem Lm {w w6 w7:World}{MB base G W H D:Nat}{kd:Int}{ps:Bool}{pa:Option Addr}{pc:Nat}{pl l:List Int}(B7:Below w.heap.size w w7)(z7:w7.heap[w.heap.size]?=some (.cells bj 30 (0,0)))(Qc:fw w6 base (.slice pa pl.length pc) pl)(b7:Below w6.heap.size w6 w7)(h5:aP w7 G l)(h6:w6.heap.size<=G)(hM:w.heap.size<MB)(hb:MB<base)(hM6:MB<w6.heap.size): (lH (w7.setCell ⟨MB,6,none⟩ (.slice (some ⟨G,0,none⟩) l.length l.length)) w.heap.size (.int .i64 (W:Nat)) (.int .i64 (H:Nat)) (.int .i64 kd) (.int .i64 (D:Nat)) (.bool ps) (.slice pa pl.length pc) (.slice (some ⟨G,0,none⟩) l.length l.length)).heap[w.heap.size]?=some (.cells #[.int .i64 (W:Nat),.int .i64 (H:Nat),.int .i64 kd,.int .i64 (D:Nat),.bool ps,.slice pa pl.length pc,.slice (some ⟨G,0,none⟩) l.length l.length] 30 (0,0)) /\ Below w.heap.size w (lH (w7.setCell ⟨MB,6,none⟩ (.slice (some ⟨G,0,none⟩) l.length l.length)) w.heap.size (.int .i64 (W:Nat)) (.int .i64 (H:Nat)) (.int .i64 kd) (.int .i64 (D:Nat)) (.bool ps) (.slice pa pl.length pc) (.slice (some ⟨G,0,none⟩) l.length l.length)) /\ fw (lH (w7.setCell ⟨MB,6,none⟩ (.slice (some ⟨G,0,none⟩) l.length l.length)) w.heap.size (.int .i64 (W:Nat)) (.int .i64 (H:Nat)) (.int .i64 kd) (.int .i64 (D:Nat)) (.bool ps) (.slice pa pl.length pc) (.slice (some ⟨G,0,none⟩) l.length l.length)) w.heap.size (.slice pa pl.length pc) pl /\ fw (lH (w7.setCell ⟨MB,6,none⟩ (.slice (some ⟨G,0,none⟩) l.length l.length)) w.heap.size (.int .i64 (W:Nat)) (.int .i64 (H:Nat)) (.int .i64 kd) (.int .i64 (D:Nat)) (.bool ps) (.slice pa pl.length pc) (.slice (some ⟨G,0,none⟩) l.length l.length)) w.heap.size (.slice (some ⟨G,0,none⟩) l.length l.length) l /\ (∀a n c a' n' c',Value.slice pa pl.length pc=.slice (some a) n c->Value.slice (some ⟨G,0,none⟩) l.length l.length=.slice (some a') n' c'->a.block≠a'.block):=by
 have WS:=fun g (hg:g≠MB)=>aF w7 MB 6 (.slice (some ⟨G,0,none⟩) l.length l.length) g hg;have z8:=(WS w.heap.size (by omega)).trans z7;have B8:Below w.heap.size w (w7.setCell ⟨MB,6,none⟩ (.slice (some ⟨G,0,none⟩) l.length l.length)):=B7.setCell (p:=⟨MB,6,none⟩) (by dsimp only;omega) _;have hfr:=fun g (hg:g≠w.heap.size) (hg2:g≠MB)=>(jk (w7.setCell ⟨MB,6,none⟩ (.slice (some ⟨G,0,none⟩) l.length l.length)) w.heap.size (.int .i64 (W:Nat)) (.int .i64 (H:Nat)) (.int .i64 kd) (.int .i64 (D:Nat)) (.bool ps) (.slice pa pl.length pc) (.slice (some ⟨G,0,none⟩) l.length l.length) g hg).trans (WS g hg2);refine⟨jj z8 _ _ _ _ _ _ _,fN B8 w.heap.size (Nat.le_refl _) _ _ _ _ _ _ _,?_,.inr ⟨G,by omega,rfl,(hfr G (by omega) (by omega)).trans h5⟩,?_⟩
 ·rcases Qc with h|⟨g,g1,g2,g3⟩
  ·exact .inl h
  ·exact .inr ⟨g,by omega,g2,(hfr g (by omega) (by omega)).trans ((b7.block g (lt_of_block g3)).trans g3)⟩
 ·intro a n1 c1 a' n2 c2 e1 e2 e3;injection e1 with e1;injection e2 with e2;injection e2 with e2;subst e2;rcases Qc with h|⟨g,g1,g2,g3⟩
  ·injection h.2 with h;rw[h]at e1;cases e1
  ·injection g2 with g2;rw[g2]at e1;injection e1 with e1;subst e1;dsimp only at e3;have:=lt_of_block g3;omega
theorem WT (b:ByteArray)(limit:Int)(w:World)(hs:b.size<=5000000)(tt:TypeId)(fr:Nat×Nat)(jl:w.heap[0]?=some (.cells cA tt fr)): Calls Tryz.prog 52 #[.string b,.int .i64 limit,.func (.func 46) #[] #[]] w fun e w'=>Lk b limit w e w':=by
 have hcall:=Ll;have hrp:=fun u=>CZ b u (by omega);have k0:=ae w (.cells bj 30);have q0:=ah w (.cells bj 30);have Mi:Hid (_):=jl;have HZ0:Hid (_/\_):=⟨k0,q0⟩
 clear k0 q0 jl
 go_enter Tryz.func52,Tryz.ntmps52
 go_wp2_with fail;refine (hrp _).mono ?_;intro e w1 he;have yr:Below (w.heap.size+1) (w.alloc (.cells bj 30)) w1->Below w.heap.size w w1:=fun k=>HZ0.out.1.trans (k.mono (by omega));cases he with
 | @no _ c h1 k1 =>
  simp only[World.size_alloc]at k1;have HD:Hid (_/\_):=⟨Hb (limit:=limit) h1,yr k1⟩
  clear h1 k1 yr hrp;go_wp2;exact⟨rfl,.no HD.out.1 HD.out.2⟩
 | @ok _ P h1 k1 =>
  simp only[World.size_alloc]at k1;have hps:=AR h1;have NT:Hid (dR b limit=partOf P limit):=Lj limit h1;have B1:=yr k1;have z1:=(k1.block w.heap.size (by omega)).trans HZ0.out.2;have lz:=lt_of_block z1;have Nh:=fun u=>GM P.head u;obtain⟨kk,p0⟩:=And.intro (ae w1 (.cells #[.string P.head,.bool P.aD.isSome,.string (P.aD.getD ⟨#[]⟩),.string P.data] 116)) (ah w1 (.cells #[.string P.head,.bool P.aD.isSome,.string (P.aD.getD ⟨#[]⟩),.string P.data] 116));have HW1:Hid (_/\_/\_/\_):=⟨B1.trans (kk.mono B1.size),(kk.block _ lz).trans z1,p0,hps⟩
  clear h1 k1 yr hrp hps B1 z1 HZ0 kk p0;go_wp2_with fail;refine (Nh _).mono ?_;intro e w2 he;cases he with
  | no h2 k2 =>
   simp only[World.size_alloc]at k2;have HD:Hid (_/\_):=⟨(by rw[NT.out,partOf,if_pos h2]:dR b limit=.error 13),HW1.out.1.trans (k2.mono (by have:=HW1.out.1.size;simpa using this))⟩
   clear h2 k2 Nh;go_wp2;exact⟨rfl,.no HD.out.1 HD.out.2⟩
  | ok h2 k2 =>
   simp only[World.size_alloc]at k2;obtain⟨_,f1,f2,f3⟩:=Dk h2;have hrr:=Hc _ f1 f2 f3
   have HD2:Hid (dR b limit=if limit<ct (ji P.head)\/4194304<ct (ji P.head) then .error 7 else if gD (ji P.head).kd (ji P.head).dp P.aD=false then .error 3 else qL (ji P.head) P):=by
    show _=_;rw[NT.out,partOf,if_neg (by rw[h2];decide)]
   generalize ji P.head=h at *;obtain⟨wd,ht,kd,dp,ps⟩:=h;simp only at f1 f2 f3;have a1:=(Pm.dj _).1 f1;have a2:=(Pm.dj _).1 f2;have a3:=Pm.cm _ _ f3;have a4:=Pm.cE kd dp;obtain⟨W,rfl⟩:=Int.eq_ofNat_of_zero_le (a:=wd) (by omega);obtain⟨H,rfl⟩:=Int.eq_ofNat_of_zero_le (a:=ht) (by omega);obtain⟨D,rfl⟩:=Int.eq_ofNat_of_zero_le (a:=dp) (by omega);obtain⟨n,hn⟩:=Int.eq_ofNat_of_zero_le (a:=Pm.chan kd D) (by omega)
   have hraw:ct ⟨W,H,kd,D,ps⟩=Pm.raw W H ((n*D:Nat):Int) ps:=by
    unfold ct;dsimp only;rw[hn];push_cast;rfl
   have kk:=ae w2 (.cells (iO ⟨W,H,kd,D,ps⟩) 30);have m0:=ah w2 (.cells (iO ⟨W,H,kd,D,ps⟩) 30);have zz:=k2.size;simp only[World.size_alloc]at zz;have z2:=(kk.block _ (by omega)).trans ((k2.block w.heap.size (by omega)).trans HW1.out.2.1);have p2:=(kk.block _ (by omega)).trans ((k2.block w1.heap.size (by omega)).trans HW1.out.2.2.1);have B2:Below w.heap.size w (w2.alloc (.cells (iO ⟨W,H,kd,D,ps⟩) 30)):=(HW1.out.1.trans (k2.mono (by omega))).trans (kk.mono (by omega));have hrw:=fun u hu=>KO (W:Int) H kd D ps (.slice none 0 0) (.slice none 0 0) u tt fr hu (by omega) (by omega) f3;have t2:Hid ((w2.alloc (.cells (iO ⟨W,H,kd,D,ps⟩) 30)).heap[0]?=some (.cells cA tt fr)):=(B2.block _ (lt_of_block Mi.out)).trans Mi.out;have hrw2:=hrw _ t2;rw[show Pm.raw W H (Pm.chan kd D*D) ps=ct ⟨W,H,kd,D,ps⟩ from rfl]at hrw2;obtain⟨r,hr⟩:∃r,r=ct ⟨W,H,kd,D,ps⟩:=⟨_,rfl⟩
   rw[<-hr]at hrw2 HD2 hraw hrr;have hps:=HW1.out.2.2.2;have HW2:Hid (_/\_/\_/\_/\_):=⟨B2,z2,p2,m0,hps⟩
   have HF:Hid (_/\_/\_/\_):=⟨hn,hraw,hr,f3⟩
   have HT2:Hid (_):=t2;obtain⟨y0,y1,y2,y3,y4,y5,y6⟩:=aJ m0;have lm:=lt_of_block m0;clear HW1 NT kk m0 z2 p2 B2 hrw t2 hraw hr hps h2 k2 Nh f1 f2 f3 hn;go_wp2_with fail;refine hrw2.mono ?_;rintro e w3 ⟨rfl,b3⟩;simp only[World.size_alloc]at b3;obtain⟨B2,z2,p2,m2,hps⟩:=HW2.out;have B3:Below w.heap.size w w3:=B2.trans (b3.mono (by omega));have z3:=(b3.block w.heap.size (by omega)).trans z2;have p3:=(b3.block w1.heap.size (by omega)).trans p2;have m3:=(b3.block w2.heap.size (by omega)).trans m2;have sz3:=b3.size;simp only[World.size_alloc]at sz3;have t3:Hid (w3.heap[0]?=some (.cells cA tt fr)):=(B3.block _ (lt_of_block Mi.out)).trans Mi.out;have HW3:Hid (_/\_/\_/\_/\_):=⟨B3,z3,p3,m3,hps⟩
   clear B2 z2 p2 m2 B3 z3 hps HW2 b3 hrw2 HT2 y0 y1 y2 y3 y4 y5 y6;by_cases hbig:limit<r\/4194304<r
   ·have HD:Hid (dR b limit=.error 7):=by show _=_;rw[HD2.out,if_pos hbig]
    by_cases hb1:limit<r
    ·go_wp2;exact⟨rfl,.no HD.out HW3.out.1⟩
    ·have hb2:4194304<r:=by omega
     go_wp2;exact⟨rfl,.no HD.out HW3.out.1⟩
   ·have hb1:¬limit<r:=by omega
    have hb2:¬4194304<r:=by omega
    have HD3:Hid (dR b limit=if gD kd D P.aD=false then .error 3 else qL ⟨W,H,kd,D,ps⟩ P):=by show _=_;rw[HD2.out,if_neg hbig]
    obtain⟨y0,y1,y2,y3,y4,y5,y6⟩:=aJ m3;obtain⟨x0,x1,x2,x3,xf,xl⟩:=C6 p3;have hrd:=fun u=>yo kd D P u (by omega) (fun p hp=>by have:=HW3.out.2.2.2.2.2 p hp;omega);clear HD2 hbig p3 m3;go_wp2_with fail;refine (hrd _).mono ?_;intro e w4 he;have HHE:Hid (_):=he.both;clear he;obtain⟨rfl,h4,b4⟩|⟨pa,pc,rfl,h4,hlv,b4⟩:=HHE.out
    ·have HD:Hid (_/\_):=⟨(by rw[HD3.out,if_pos h4]:dR b limit=.error 3),HW3.out.1.trans (b4.mono (by have:=HW3.out.1.size;omega))⟩
     clear HHE h4 b4 hrd;go_wp2;exact⟨rfl,.no HD.out.1 HD.out.2⟩
    ·clear HHE;have HD4:Hid (dR b limit=qL ⟨W,H,kd,D,ps⟩ P):=by show _=_;rw[HD3.out,if_neg (by rw[h4];decide)]
     obtain⟨B3,z3,p3,m3,hps⟩:=HW3.out;have sz4:=b4.size;have B4:Below w.heap.size w w4:=B3.trans (b4.mono (by omega));have z4:=(b4.block w.heap.size (by omega)).trans z3;have p4:=(b4.block w1.heap.size (by omega)).trans p3;have m4:=(b4.block w2.heap.size (by omega)).trans m3;obtain⟨pl,hpl⟩:∃pl,pl=jD kd P.aD:=⟨_,rfl⟩
     rw[<-hpl]at hlv
     have Wj:pl.length<=5000000:=by
      rw[hpl];unfold jD;split
      ·rw[rH];cases hp:P.aD with
       | none=>show (0:Nat)<=_;omega
       | some p=>show p.size<=_;have:=hps.2 p hp;omega
      ·exact Nat.zero_le _
     have m5:(w4.setCell ⟨w2.heap.size,5,none⟩ (.slice pa pl.length pc)).heap[w2.heap.size]?=some (.cells #[.int .i64 (W:Nat),.int .i64 (H:Nat),.int .i64 kd,.int .i64 (D:Nat),.bool ps,.slice pa pl.length pc,.slice none 0 0] 30 (0,0)):=heap_setCell_same _ w2.heap.size 5 _ _ (.slice pa pl.length pc) m4;have xM:=fun g (hg:g≠w2.heap.size)=>aF w4 w2.heap.size 5 (.slice pa pl.length pc) g hg;have B5:Below w.heap.size w (w4.setCell ⟨w2.heap.size,5,none⟩ (.slice pa pl.length pc)):=B4.setCell (p:=⟨w2.heap.size,5,none⟩) (by dsimp only;omega) _;have z5:=(xM w.heap.size (by omega)).trans z4;have p5:=(xM w1.heap.size (by omega)).trans p4
     have WW:fw (w4.setCell ⟨w2.heap.size,5,none⟩ (.slice pa pl.length pc)) w3.heap.size (.slice pa pl.length pc) pl:=by
      rcases hlv with h|⟨G,g1,g2,g3⟩
      ·exact .inl h
      ·exact .inr ⟨G,g1,g2,(xM G (by omega)).trans g3⟩
     have huw:=zB P.data r (w4.setCell ⟨w2.heap.size,5,none⟩ (.slice pa pl.length pc)) (by have:=hps.1;omega) (by omega) (by omega);have sz5:(w4.setCell ⟨w2.heap.size,5,none⟩ (.slice pa pl.length pc)).heap.size=w4.heap.size:=by simp
     obtain⟨u0,u1,u2,u3,u4,u5,u6,uf,ul⟩:=gC m4;obtain⟨v0,v1,v2,v3,vf,vl⟩:=C6 p4;have HW5:Hid (_/\_/\_/\_/\_):=⟨B5,z5,p5,m5,WW⟩
     have Bl:Hid (pl=jD kd P.aD):=hpl;rw[<-hpl];clear HW3 hlv b4 B3 z3 p3 m3 B4 z4 p4 m4 m5 xM B5 z5 p5 WW hps h4 HD3 hpl hrd y0 y1 y2 y3 y4 y5 y6 x0 x1 x2 x3 xf;go_wp2_with fail;refine huw.mono ?_;rintro e w6 ⟨rfl,_,b6⟩;rw[sz5]at b6;obtain⟨B5,z5,p5,m5,WW⟩:=HW5.out;have sz6:=b6.size;rw[sz5]at sz6;have B6:Below w.heap.size w w6:=B5.trans (b6.mono (by omega));have z6:=(b6.block w.heap.size (by omega)).trans z5;have m6:=(b6.block w2.heap.size (by omega)).trans m5;have Qc:=WW.below (by rw[sz5];exact b6);have t6:=(B6.block _ (lt_of_block Mi.out)).trans Mi.out
     have PS:Hid (dR b limit=if cX P.data r=7\/(cX P.data r=0/\((i7 P.data r).size:Int)≠r) then .error 14 else if cX P.data r≠0 then .error (cX P.data r) else oU ⟨W,H,kd,D,ps⟩ P.aD (i7 P.data r)):=by
      show _=_;rw[HD4.out,qL,<-HF.out.2.2.1]
     have nO:Hid (_/\_/\_/\_/\_):=⟨B6,z6,m6,Qc,t6⟩
     generalize cX P.data r=c at *;generalize i7 P.data r=t at *;clear B5 z5 p5 m5 WW HW5 B6 z6 Qc t6 b6 huw HD4 u0 u1 u2 u3 u4 u5 u6 uf v0 v1 v2 v3 vf;by_cases c7:c=7
     ·have HD:Hid (dR b limit=.error 14):=by show _=_;rw[PS.out,if_pos (.inl c7)]
      subst c7;go_wp2;exact⟨rfl,.no HD.out nO.out.1⟩
     ·have c7':(c==7)=false:=beq_eq_false_iff_ne.2 c7;by_cases c0:c=0
      ·subst c0;by_cases ht:(t.size:Int)=r
       ·have ht':((t.size:Int) != r)=false:=by rw[ht];simp
        have HD7:Hid (dR b limit=oU ⟨W,H,kd,D,ps⟩ P.aD t):=by
         show _=_;rw[PS.out,if_neg (by intro h;rcases h with h|h;exact c7 h;exact h.2 ht),if_neg (fun h=>h rfl)]
        have HTS:Hid ((t.size:Int)=r):=ht;have aa8:1<=n/\n<=4:=by have h1:=HF.out.1;have h2:=HF.out.2.2.2;omega
        have hsm:=Li W H n D kd ps pa pl.length pc (.slice none 0 0) t w6 tt fr nO.out.2.2.2.2 (by rw[<-HF.out.2.1];exact ht.symm) (by omega) (by omega) HF.out.1 aa8 (by omega) (by omega);obtain⟨y0,y1,y2,y3,y4,y5,y6⟩:=aJ m6;have HM6:Hid (_):=m6;clear PS ht m6;go_wp2_with fail;refine hsm.mono ?_;intro e w7 he;clear hsm y0 y1 y2 y3 y4 y5 y6;cases he with
        | WP h1 b7 =>
         have HD:Hid (_/\_):=⟨(by rw[HD7.out];unfold oU;show (match Pm.lu ⟨W,H,(Pm.chan kd D).toNat,D⟩ (ag t) ps with|none=>_|some l=>_)=_;rw[show (Pm.chan kd D).toNat=n by rw[HF.out.1];rfl,h1]:dR b limit=.error 15),nO.out.1.trans (b7.mono (by have:=nO.out.1.size;omega))⟩
         clear h1 b7;go_wp2;exact⟨rfl,.no HD.out.1 HD.out.2⟩
        | @idx _ l h1 h3 h5 b7 =>
         have HD:Hid (_/\_):=⟨(by rw[HD7.out];unfold oU;show (match Pm.lu ⟨W,H,(Pm.chan kd D).toNat,D⟩ (ag t) ps with|none=>_|some l=>_)=_;rw[show (Pm.chan kd D).toNat=n by rw[HF.out.1];rfl,h1];show (if _ then _ else _)=_;rw[<-Bl.out];exact if_pos ⟨h3,h5⟩:dR b limit=.error 16),nO.out.1.trans (b7.mono (by have:=nO.out.1.size;omega))⟩
         clear h1 b7 h3 h5;go_wp2;exact⟨rfl,.no HD.out.1 HD.out.2⟩
        | @ok _ l G h1 h3 h5 h6 b7 =>
         have HD:Hid (dR b limit=.ok ⟨⟨W,H,kd,D,ps⟩,pl,l⟩):=by
          show _=_;rw[HD7.out];unfold oU;show (match Pm.lu ⟨W,H,(Pm.chan kd D).toNat,D⟩ (ag t) ps with|none=>_|some l=>_)=_;rw[show (Pm.chan kd D).toNat=n by rw[HF.out.1];rfl,h1];show (if _ then _ else _)=_;rw[<-Bl.out];refine if_neg (fun h=>?_);rw[h3 h.1]at h;cases h.2
         have hll:=(Pm.wE _ _ _ _ h1).1;rw[<-hll];clear hll;obtain⟨B6,z6,m6,Qc,t6⟩:=nO.out;have sz7:=b7.size;have lw6:=B6.size;have ll6:=lt_of_block m6;have B7:Below w.heap.size w w7:=B6.trans (b7.mono (by omega));have z7:=(b7.block w.heap.size (by omega)).trans z6;have m7:=(b7.block w2.heap.size (by omega)).trans m6;obtain⟨u0,u1,u2,u3,u4,u5,u6,uf,ul⟩:=gC m7;obtain⟨v0,v1,v2,v3,v4,v5,v6,vf,vl⟩:=gC z7;have HE:Hid (_):=Lm (W:=W) (H:=H) (D:=D) (kd:=kd) (ps:=ps) (MB:=w2.heap.size) B7 z7 Qc b7 h5 h6 (by omega) (by omega) (by omega);have nw:w.heap.size≠w2.heap.size:=by omega
         clear nO B6 z6 m6 Qc t6 B7 z7 m7 HM6 HD7 h1 h3 h5 b7;go_wp2;obtain⟨hend,hbe,lp,ls,ha⟩:=HE.out;exact bodyPost_ret (v:=SN ⟨⟨W,H,kd,D,ps⟩,pl,l⟩ (.slice pa pl.length pc) (.slice (some ⟨G,0,none⟩) l.length l.length)) (results_cell_row rfl _ _ w.heap.size 30 _ (0,0) _ rfl hend Tryz.underlying30 rfl Tryz.infoImage) rfl (.ok HD.out lp ls ha hbe)
       ·have ht':((t.size:Int) != r)=true:=by simp[ht]
        have HD:Hid (dR b limit=.error 14):=by show _=_;rw[PS.out,if_pos (.inr ⟨rfl,ht⟩)]
        go_wp2;exact⟨rfl,.no HD.out nO.out.1⟩
      ·have c0':(c==0)=false:=beq_eq_false_iff_ne.2 c0;have c0n:(c != 0)=true:=by simp[c0]
       have HD:Hid (dR b limit=.error c):=by show _=_;rw[PS.out,if_neg (by intro h;rcases h with h|h;exact c7 h;exact c0 h.1),if_pos c0]
       go_wp2;exact⟨rfl,.no HD.out nO.out.1⟩
theorem qM (p:Addr)(x c:Int)(older:List PanicEntry)(w:World)(hc:w.cell? p=some (.int .i64 x))(hz:w.frozen? p=false): CallsD Tryz.prog 50 #[.pointer (some p)] (.panicking ({ v:=.iface 113 (.int .i64 c),recovered:=false }::older)) w fun e u' w' =>
   e=.returned (.tuple #[])/\u'=.panicking ({ v:=.iface 113 (.int .i64 c),recovered:=true }::older)/\w'=w.setCell p (.int .i64 c):=by
 refine callsD_of_wpS Tryz.func50 rfl fun c₀ cs hu=>?_;apply wpS_region;simp[wpOpsS,go_sem,recoverD,hu,Tryz.ntmps50];refine (kJ c 11 w).mono ?_;rintro e w' ⟨rfl,rfl⟩;simp[go_sem,hc,hz,bodyPostS,results,Tryz.results50]
theorem AV (p:Addr)(x:Int)(w:World)(hc:w.cell? p=some (.int .i64 x))(hz:w.frozen? p=false): CallsD Tryz.prog 50 #[.pointer (some p)] .returning w fun e u' w'=>e=.returned (.tuple #[])/\u'=.returning/\w'=w.setCell p (.int .i64 0):=by
 refine callsD_of_wpS Tryz.func50 rfl fun c₀ cs hu=>?_;apply wpS_region;simp[wpOpsS,go_sem,recoverD,hu,Tryz.ntmps50];refine (oy 11 w).mono ?_;rintro e w' ⟨rfl,rfl⟩;simp[go_sem,hc,hz,bodyPostS,results,Tryz.results50];cases c₀
 simp_all
inductive Ln (b:ByteArray) (limit:Int) (w:World):Ending->World->Prop
 | no {w' c}:dR b limit=.error c->Below w.heap.size w w'->Ln b limit w (.returned (.tuple #[.agg bj,.int .i64 c])) w'
 | ok {w' R pv sv}:dR b limit=.ok R->fw w' w.heap.size pv R.aD->fw w' w.heap.size sv R.Uj->(∀a n c a' n' c',pv=.slice (some a) n c->sv=.slice (some a') n' c'->a.block≠a'.block)->Below w.heap.size w w'->Ln b limit w (.returned (.tuple #[SN R pv sv,.int .i64 0])) w'
theorem fw.far {w w':World}{B:Nat}{v:Value}{l:List Int}(h:fw w B v l)(k:∀g,B<=g->g<w.heap.size->w'.heap[g]?=w.heap[g]?):fw w' B v l:=by
 rcases h with h|⟨G,a,b,c⟩
 ·exact .inl h
 ·exact .inr ⟨G,a,b,(k _ a (lt_of_block c)).trans c⟩
theorem AW {w:World}{B:Nat}{v:Value}{l:List Int}(h:fw w B v l):∃a n c,v=.slice a n c:=by
 rcases h with h|⟨G,a,b,c⟩
 ·exact⟨_,_,_,h.2⟩
 ·exact⟨_,_,_,b⟩
theorem Ol (b:ByteArray)(limit:Int)(w:World)(hs:b.size<=5000000)(tt:TypeId)(fr:Nat×Nat)(jl:w.heap[0]?=some (.cells cA tt fr)): Calls Tryz.prog 21 #[.string b,.int .i64 limit] w fun e w'=>Ln b limit w e w':=by
 have TC:∀(fn:Fn) (first cap:Array Value) (w:World),(Instr.makeFunc fn first cap).run Tryz.prog w=.ok (.func fn first cap) w:=fun _ _ _ _=>rfl;obtain⟨k0,q0,q1⟩:=bJ w (.cells bj 30) (.cells #[.int .i64 0] 34);have hr:=WT b limit _ hs tt fr ((k0.block _ (lt_of_block jl)).trans jl);have HK:Hid (_/\_/\_):=⟨k0,q0,q1⟩
 clear k0 q0 q1 jl
 go_enter_defers Tryz.func21,Tryz.ntmps21
 go_wp2_with fail;refine hr.mono ?_;intro e w1 he;clear hr;cases he with
 | @no _ c h1 b1 =>
  simp only[World.size_alloc]at b1;obtain⟨k0,q0,q1⟩:=HK.out;have z0:=(b1.block w.heap.size (by omega)).trans q0;have hb:=(b1.block (w.heap.size+1) (by omega)).trans q1;obtain⟨c0,cz,xu⟩:=one_cell hb;have jV:=one_set hb (.int .i64 c);obtain⟨x0,xz,xlt⟩:=one_cell jV;have z1:=(aF w1 (w.heap.size+1) 0 (.int .i64 c) w.heap.size (by omega)).trans z0;obtain⟨y0,y1,y2,y3,y4,y5,y6⟩:=aJ z1;have HD:Hid (_/\_):=⟨h1,(k0.trans (b1.mono (by omega))).setCell (p:=⟨w.heap.size+1,0,none⟩) (by dsimp only;omega) (.int .i64 c)⟩
  clear h1 b1 HK k0 q0 q1 z0 z1 jV;go_wp2;refine leaves_cons (f:=50) (args:=#[.pointer (some ⟨w.heap.size+1,0,none⟩)]) (by simp) (by simp[go_sem]) ?_;refine (qM ⟨w.heap.size+1,0,none⟩ 0 c [] _ c0 cz).mono ?_;rintro e u' w'' ⟨rfl,rfl,rfl⟩;simp[Leaves,settle,results,Tryz.results21,go_sem,x0,y0,y1,y2,y3,y4,y5,y6];exact .no HD.out.1 HD.out.2
 | @ok _ R pv sv h1 lp ls ha b1 =>
  simp only[World.size_alloc]at b1 lp ls;obtain⟨k0,q0,q1⟩:=HK.out;have z0:=(b1.block w.heap.size (by omega)).trans q0;have e0:=(b1.block (w.heap.size+1) (by omega)).trans q1;obtain⟨pa,pn,pc,rfl⟩:=AW lp;obtain⟨sa,sn,sc,rfl⟩:=AW ls;obtain⟨⟨wd,ht,kd,dp,ps⟩,pl,sl⟩:=R;dsimp only at lp ls;have r1:=jj z0 (.int .i64 wd) (.int .i64 ht) (.int .i64 kd) (.int .i64 dp) (.bool ps) (.slice pa pn pc) (.slice sa sn sc);have f1:=fun g hg=>jk w1 w.heap.size (.int .i64 wd) (.int .i64 ht) (.int .i64 kd) (.int .i64 dp) (.bool ps) (.slice pa pn pc) (.slice sa sn sc) g hg;have B1:=fN (k0.trans (b1.mono (by omega))) w.heap.size (Nat.le_refl _) (.int .i64 wd) (.int .i64 ht) (.int .i64 kd) (.int .i64 dp) (.bool ps) (.slice pa pn pc) (.slice sa sn sc);have e1:=(f1 (w.heap.size+1) (by omega)).trans e0;obtain⟨v0,v1,v2,v3,v4,v5,v6,vf,vl⟩:=gC z0;obtain⟨i0,iz,il⟩:=one_cell e0;have Lp:=one_set e1 (.int .i64 0);obtain⟨d0,dz,dl⟩:=one_cell Lp;have jV:=one_set Lp (.int .i64 0);obtain⟨x0,xz,xl⟩:=one_cell jV;have r2:=(aF _ (w.heap.size+1) 0 (.int .i64 0) w.heap.size (by omega)).trans ((aF _ (w.heap.size+1) 0 (.int .i64 0) w.heap.size (by omega)).trans r1);obtain⟨y0,y1,y2,y3,y4,y5,y6⟩:=aJ r2;have f2:=fun g (h0:g≠w.heap.size) (h1:g≠w.heap.size+1)=>(aF _ (w.heap.size+1) 0 (.int .i64 0) g h1).trans ((aF _ (w.heap.size+1) 0 (.int .i64 0) g h1).trans (f1 g h0));have lp2:=lp.far (fun g h0 _=>f2 g (by omega) (by omega));have ls2:=ls.far (fun g h0 _=>f2 g (by omega) (by omega));have B2:=(B1.setCell (p:=⟨w.heap.size+1,0,none⟩) (by dsimp only;omega) (.int .i64 0)).setCell (p:=⟨w.heap.size+1,0,none⟩) (by dsimp only;omega) (.int .i64 0);have HD:Hid (_/\_/\_/\_/\_):=⟨h1,lp2.mono (B':=w.heap.size) (by omega),ls2.mono (B':=w.heap.size) (by omega),ha,B2⟩
  clear h1 b1 HK k0 q0 q1 z0 lp ls r1 f1 B1 Lp jV r2 f2 lp2 ls2 B2 ha e0 e1;go_wp2;refine leaves_cons (f:=50) (args:=#[.pointer (some ⟨w.heap.size+1,0,none⟩)]) (by simp) (by simp[go_sem]) ?_;refine (AV ⟨w.heap.size+1,0,none⟩ 0 _ d0 dz).mono ?_;rintro e u' w'' ⟨rfl,rfl,rfl⟩;simp[Leaves,settle,results,Tryz.results21,go_sem,x0,y0,y1,y2,y3,y4,y5,y6];exact .ok HD.out.1 HD.out.2.1 HD.out.2.2.1 HD.out.2.2.2.1 HD.out.2.2.2.2
end Go.Proofs.YtmfijackgekioaaGreatDoor
