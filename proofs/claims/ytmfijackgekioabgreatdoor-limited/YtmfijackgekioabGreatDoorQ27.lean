import Derived.Test.YtmfijackgekioabGreatDoorQA
namespace Go.Proofs.YtmfijackgekioabGreatDoor.Pm
def chan (k d:Int):Int :=
 if k=0/\(d=1\/d=2\/d=4\/d=8\/d=16) then 1
 else if k=2/\(d=8\/d=16) then 3
 else if k=3/\(d=1\/d=2\/d=4\/d=8) then 1
 else if k=4/\(d=8\/d=16) then 2
 else if k=6/\(d=8\/d=16) then 4
 else 0
theorem cU (k d:Int):0<=chan k d/\chan k d<=4:=by
 unfold chan;repeat' split
 all_goals omega
theorem cK (k d:Int)(h:chan k d≠0):1<=d/\d<=16:=by
 unfold chan at h;repeat' split at h
 all_goals omega
def gj (n:Int):Bool:=decide (1<=n)&&decide (n<=5000)
theorem dE (n:Int):gj n=true↔1<=n/\n<=5000:=by simp[gj]
def pass (c r:Int):Int :=
 if r%2=1 then 7 else if c%2=1 then 6 else if r%4=2 then 5 else if c%4=2 then 4 else if r%8=4 then 3 else if c%8=4 then 2 else 1
def eD (zs:List Int)(e:Int):Bool:=zs.all fun n=>decide (0<=n)&&decide (n<e)
theorem Hw (zs:List Int)(k:Nat)(h:k<zs.length)(e:Int):eD (zs.take (k+1)) e=(eD (zs.take k) e&&(decide (0<=zs[k])&&decide (zs[k]<e))):=by
 rw[aa7 h,eD,List.all_append];simp[eD]
theorem Fu (zs:List Int)(k:Nat)(h:k<zs.length)(e:Int)(hx:¬(0<=zs[k]/\zs[k]<e)):eD zs e=false:=by
 unfold eD;rw[List.all_eq_false];exact⟨zs[k],abl h,by simpa using hx⟩
def qe (kd D:Int)(pz:List Int):Bool :=
 if kd=3 then decide ((pz.length:Int)%3=0)&&decide (1<=(pz.length:Int)/3)&&decide ((pz.length:Int)/3<=D)&&eD pz 256
 else decide ((pz.length:Int)=0)
def two (d:Int):Int:=2^d.toNat
theorem ia (d:Int)(h:1<=d/\d<=16):2<=two d/\two d<=65536:=by
 obtain⟨n,rfl⟩:=abD (a:=d) (by omega);unfold two;simp only[ada];have h1:(2:Nat)^1<=2^n:=abp (by omega) (by omega);have h2:(2:Nat)^n<=2^16:=abp (by omega) (by omega);have e:((2:Int)^n)=((2^n:Nat):Int):=by simp
 rw[e];omega
def uN (wd ht kd c D:Int)(pl:Nat)(sz:List Int):Bool :=
 decide ((sz.length:Int)=wd*ht*c)&&(if kd=3 then eD sz ((pl:Int)/3) else eD sz D)
theorem abE (wd ht:Int)(h1:1<=wd/\wd<=5000)(h2:1<=ht/\ht<=5000):1<=wd*ht/\wd*ht<=25000000:=by
 constructor
 ·have:1*1<=wd*ht:=acK h1.1 h2.1 (by omega) (by omega);omega
 ·have:wd*ht<=5000*5000:=acK h1.2 h2.2 (by omega) (by omega);omega
theorem W9 (a c:Int)(h1:0<=a/\a<=25000000)(h2:0<=c/\c<=4):0<=a*c/\a*c<=100000000:=by
 constructor
 ·exact acu h1.1 h2.1
 ·have:a*c<=25000000*4:=acK h1.2 h2.2 (by omega) (by omega);omega
def ad (c r b:Int):Int:=r*(1+(c*b+7)/8)
theorem uO (c b:Int)(hc:0<=c/\c<=5000)(hb:0<=b/\b<=64):0<=c*b/\c*b<=320000:=by
 constructor
 ·exact acu hc.1 hb.1
 ·have:c*b<=5000*64:=acK hc.2 hb.2 (by omega) (by omega);omega
theorem kH (c r b:Int)(hc:0<=c/\c<=5000)(hr:0<=r/\r<=5000)(hb:0<=b/\b<=64):0<=ad c r b/\ad c r b<=200010000:=by
 have:=uO c b hc hb;unfold ad;constructor
 ·exact acu hr.1 (by omega)
 ·have:r*(1+(c*b+7)/8)<=5000*40002:=acK hr.2 (by omega) (by omega) (by omega);omega
def cnt (s t e:Int):Int:=(e-s+t-1)/t
def one (wd ht b c0 r0 cs rs:Int):Int:=if 0<cnt c0 cs wd/\0<cnt r0 rs ht then ad (cnt c0 cs wd) (cnt r0 rs ht) b else 0
def Lp (wd ht b:Int):Nat->Int
 | 0=>one wd ht b 0 0 8 8
 | 1=>one wd ht b 4 0 8 8
 | 2=>one wd ht b 0 4 4 8
 | 3=>one wd ht b 2 0 4 4
 | 4=>one wd ht b 0 2 2 4
 | 5=>one wd ht b 1 0 2 2
 | _=>one wd ht b 0 1 1 2
def iM (wd ht b:Int):Nat->Int
 | 0=>0
 | k+1=>iM wd ht b k+Lp wd ht b k
def raw (wd ht b:Int)(ps:Bool):Int:=if ps then iM wd ht b 7 else ad wd ht b
theorem xC (wd ht b c0 r0 cs rs:Int)(h1:0<=cnt c0 cs wd/\cnt c0 cs wd<=5000)(h2:0<=cnt r0 rs ht/\cnt r0 rs ht<=5000)(hb:0<=b/\b<=64): 0<=one wd ht b c0 r0 cs rs/\one wd ht b c0 r0 cs rs<=200010000:=by
 unfold one;split
 ·exact kH _ _ _ h1 h2 hb
 ·omega
structure QK (wd ht b:Int) (k:Nat) (c0 r0 cs rs:Int):Prop where
 hc0:0<=c0/\c0<=8
 hr0:0<=r0/\r0<=8
 hcs:1<=cs/\cs<=8
 hrs:1<=rs/\rs<=8
 pc:0<=wd-c0+cs-1
 pr:0<=ht-r0+rs-1
 bc:0<=cnt c0 cs wd/\cnt c0 cs wd<=5000
 br:0<=cnt r0 rs ht/\cnt r0 rs ht<=5000
 next:iM wd ht b (k+1)=iM wd ht b k+one wd ht b c0 r0 cs rs
theorem abF {wd ht:Int}(b:Int)(hw:1<=wd/\wd<=5000)(hh:1<=ht/\ht<=5000):QK wd ht b 0 0 0 8 8:=by
 constructor<;>(try unfold cnt)<;>first|omega|rfl
theorem abG {wd ht:Int}(b:Int)(hw:1<=wd/\wd<=5000)(hh:1<=ht/\ht<=5000):QK wd ht b 1 4 0 8 8:=by
 constructor<;>(try unfold cnt)<;>first|omega|rfl
theorem abH {wd ht:Int}(b:Int)(hw:1<=wd/\wd<=5000)(hh:1<=ht/\ht<=5000):QK wd ht b 2 0 4 4 8:=by
 constructor<;>(try unfold cnt)<;>first|omega|rfl
theorem abI {wd ht:Int}(b:Int)(hw:1<=wd/\wd<=5000)(hh:1<=ht/\ht<=5000):QK wd ht b 3 2 0 4 4:=by
 constructor<;>(try unfold cnt)<;>first|omega|rfl
theorem abJ {wd ht:Int}(b:Int)(hw:1<=wd/\wd<=5000)(hh:1<=ht/\ht<=5000):QK wd ht b 4 0 2 2 4:=by
 constructor<;>(try unfold cnt)<;>first|omega|rfl
theorem abK {wd ht:Int}(b:Int)(hw:1<=wd/\wd<=5000)(hh:1<=ht/\ht<=5000):QK wd ht b 5 1 0 2 2:=by
 constructor<;>(try unfold cnt)<;>first|omega|rfl
theorem abL {wd ht:Int}(b:Int)(hw:1<=wd/\wd<=5000)(hh:1<=ht/\ht<=5000):QK wd ht b 6 0 1 1 2:=by
 constructor<;>(try unfold cnt)<;>first|omega|rfl
theorem jB (kd dp:Int)(h:chan kd dp≠0):0<=chan kd dp*dp/\chan kd dp*dp<=64:=by
 have h1:=cU kd dp;have h2:=cK kd dp h;constructor
 ·exact acu h1.1 (by omega)
 ·have:chan kd dp*dp<=4*16:=acK h1.2 h2.2 (by omega) (by omega);omega
def rk (p:Int)(c:Nat):Nat->Bool
 | 0=>p==0
 | r+1=>rk p c r||(pass c r==p)
def Lq (p:Int)(r:Nat):Nat->Bool
 | 0=>p==0
 | c+1=>Lq p r c||(pass c r==p)
def nR (p:Int)(m:Nat):Nat->Nat
 | 0=>0
 | r+1=>nR p m r+if Lq p r m then 1 else 0
def pn (on:Bool):Nat:=if on then 7 else 1
theorem Bm (c r:Nat):pass c r=pass ((c%8:Nat):Int) ((r%8:Nat):Int):=by
 unfold pass;have a1:((c%8:Nat):Int)%2=(c:Int)%2:=by omega
 have a2:((c%8:Nat):Int)%4=(c:Int)%4:=by omega
 have a3:((c%8:Nat):Int)%8=(c:Int)%8:=by omega
 have b1:((r%8:Nat):Int)%2=(r:Int)%2:=by omega
 have b2:((r%8:Nat):Int)%4=(r:Int)%4:=by omega
 have b3:((r%8:Nat):Int)%8=(r:Int)%8:=by omega
 rw[a1,a2,a3,b1,b2,b3]
theorem DY (p:Int)(c m:Nat):rk p c m=rk p (c%8) m:=by
 induction m with
 | zero=>rfl
 | succ m ih=>simp only[rk];rw[ih,Bm c m,Bm (c%8) m,Nat.mod_mod]
def oM:Nat->Nat|1=>4|3=>2|5=>1|_=>0
def kG:Nat->Nat|0=>8|1=>8|2=>4|3=>4|4=>2|5=>2|_=>1
def px:Nat->Nat|2=>4|4=>2|6=>1|_=>0
def mM:Nat->Nat|0=>8|1=>8|2=>8|3=>4|4=>4|5=>2|_=>2
theorem yY:∀k:Nat,k<7->∀c:Nat,c<8->∀m:Nat,m<=8->rk ((k:Int)+1) c m=(decide (px k<m)&&decide (c%kG k=oM k)):=by decide
theorem Tn (k:Nat)(hk:k<7)(c m:Nat)(hm:m<=8):rk ((k:Int)+1) c m=(decide (px k<m)&&decide (c%kG k=oM k)):=by
 rw[DY,yY k hk (c%8) (acV _ (by omega)) m hm]
 have e:c%8%kG k=c%kG k:=by
  match k,hk with
  | 0,_|1,_|2,_|3,_|4,_|5,_|6,_=>simp only[kG];omega
 rw[e]
theorem xD:∀k:Nat,oM k<kG k
 | 0|1|2|3|4|5|6=>by decide
 | n+7=>by show 0<1;omega
theorem xF:∀k:Nat,px k<mM k
 | 0|1|2|3|4|5|6=>by decide
 | n+7=>by show 0<2;omega
theorem rp (s t e:Nat)(h:s<t):cnt s t e=(((e+(t-1-s))/t:Nat):Int):=by
 unfold cnt;rw[show (e:Int)-s+t-1=((e+(t-1-s):Nat):Int) by omega];simp
theorem Lr (wd ht b:Int)(k:Nat)(hk:k<7):Lp wd ht b k=one wd ht b (oM k) (px k) (kG k) (mM k):=by
 match k,hk with
 | 0,_|1,_|2,_|3,_|4,_|5,_|6,_=>rfl
def sJ (p q:Int):Int:=if q<p then p-q else q-p
def xG (a b c:Int):Int :=
 if sJ (a+b-c) a<=sJ (a+b-c) b/\sJ (a+b-c) a<=sJ (a+b-c) c then a
 else if sJ (a+b-c) b<=sJ (a+b-c) c then b else c
def gK (f:Nat)(a b c:Int):Int :=
 match f with
 | 0=>0
 | 1=>a
 | 2=>b
 | 3=>(a+b)/2
 | _=>xG a b c
theorem DZ {a b c m:Int}(ha:0<=a/\a<m)(hb:0<=b/\b<m)(hc:0<=c/\c<m):0<=xG a b c/\xG a b c<m:=by
 unfold xG;split
 ·exact ha
 ·split
  ·exact hb
  ·exact hc
theorem rZ (f:Nat){a b c:Int}(ha:0<=a/\a<256)(hb:0<=b/\b<256)(hc:0<=c/\c<256):0<=gK f a b c/\gK f a b c<256:=by
 unfold gK;split
 ·omega
 ·exact ha
 ·exact hb
 ·omega
 ·exact DZ ha hb hc
def cX (g:Nat->Int)(i lead:Nat):Int:=if lead<=i then g (i-lead) else 0
abbrev ai (l:List Int)(i:Nat):Int:=l.getD i 0
def nG (f lead:Nat)(above x:Nat->Int):Nat->List Int
 | 0=>[]
 | i+1=>nG f lead above x i++[(x i+gK f (cX (ai (nG f lead above x i)) i lead) (above i) (cX above i lead))%256]
theorem qf (f lead:Nat)(above x:Nat->Int):∀i,(nG f lead above x i).length=i
 | 0=>rfl
 | i+1=>by rw[nG,aae,qf f lead above x i];rfl
theorem uP {l:List Int}(h:∀y∈l,0<=y/\y<256)(i:Nat):0<=ai l i/\ai l i<256:=by
 unfold ai;rw[aad];rcases aaY i l.length with hi|hi
 ·rw[aaj hi];exact h _ (abl hi)
 ·rw[aaz hi];exact⟨ab2 _,by decide⟩
theorem Fv (f lead:Nat)(above x:Nat->Int):∀i,∀y∈nG f lead above x i,0<=y/\y<256
 | 0=>fun y hy=>by cases hy
 | i+1=>fun y hy=>by
  rw[nG]at hy;rcases abw.mp hy with hy|hy
  ·exact Fv f lead above x i y hy
  ·rw[abR]at hy;subst hy;omega
theorem nH (f lead:Nat)(above x:Nat->Int)(i j:Nat):0<=ai (nG f lead above x i) j/\ai (nG f lead above x i) j<256:=uP (Fv f lead above x i) j
theorem mc {g:Nat->Int}(h:∀i,0<=g i/\g i<256)(i lead:Nat):0<=cX g i lead/\cX g i lead<256:=by
 unfold cX;split
 ·exact h _
 ·omega
def dk (r:Nat->Int)(dp k:Nat):Int:=if dp=16 then 256*r (2*k)+r (2*k+1) else r (k*dp/8)/2^(8-k*dp%8-dp)%2^dp
theorem iN (n:Nat):(0:Int)<2^n:=Int.pow_pos (by decide)
theorem Bn {r:Nat->Int}(h:∀i,0<=r i/\r i<256)(dp k:Nat):0<=dk r dp k:=by
 unfold dk;split
 ·have:=h (2*k);have:=h (2*k+1);omega
 ·exact Int.emod_nonneg _ (by have:=iN dp;omega)
structure Ps where
 c0:Nat
 r0:Nat
 cs:Nat
 rs:Nat
 C:Nat
 R:Nat
def Ps.idx (p:Ps)(W n j k:Nat):Nat:=((p.r0+j*p.rs)*W+(p.c0+k/n*p.cs))*n+k%n
structure Ps.In (p:Ps) (W H:Nat):Prop where
 col:∀i,i<p.C->p.c0+i*p.cs<W
 row:∀j,j<p.R->p.r0+j*p.rs<H
theorem Ps.D2 {p:Ps}{W H n j k:Nat}(h:p.In W H)(hj:j<p.R)(hk:k<p.C*n):p.idx W n j k<W*H*n:=by
 have hn:0<n:=by
  rcases Nat.eq_zero_or_pos n with h0|h0
  ·subst h0;omega
  ·exact h0
 have h1:=h.row j hj;have h2:=h.col (k/n) (by rw[Nat.div_lt_iff_lt_mul hn];exact hk);have h3:=acV k hn;unfold Ps.idx;generalize p.r0+j*p.rs=y at *;generalize p.c0+k/n*p.cs=x at *
 have a1:y*W+x+1<=W*H:=by
  calc y*W+x+1<=y*W+W:=by omega
   _=(y+1)*W:=by rw[acr]
   _<=H*W:=abs _ (by omega)
   _=W*H:=abj _ _
 calc (y*W+x)*n+k%n<(y*W+x)*n+n:=by omega
  _=(y*W+x+1)*n:=by rw[acr]
  _<=W*H*n:=abs _ a1
def py (p:Ps)(W n j:Nat)(v:Nat->Int)(out:List Int):Nat->List Int
 | 0=>out
 | k+1=>(py p W n j v out k).set (p.idx W n j k) (v k)
theorem Bo (p:Ps)(W n j:Nat)(v:Nat->Int)(out:List Int):∀k,(py p W n j v out k).length=out.length
 | 0=>rfl
 | k+1=>by rw[py,aaW,Bo p W n j v out k]
theorem r8 (p:Ps)(W n j:Nat)(v:Nat->Int)(out:List Int)(hv:∀k,0<=v k)(ho:∀y∈out,0<=y):∀k,∀y∈py p W n j v out k,0<=y
 | 0=>ho
 | k+1=>fun y hy=>by
  rw[py]at hy;rcases List.mem_or_eq_of_mem_set hy with h|h
  ·exact r8 p W n j v out hv ho k y h
  ·subst h;exact hv k
abbrev rowLen (C bits:Nat):Nat:=(C*bits+7)/8
structure RS where
 above:Nat->Int
 out:List Int
structure dA where
 W:Nat
 H:Nat
 n:Nat
 dp:Nat
def dA.bits (m:dA):Nat:=m.n*m.dp
def dA.lead (m:dA):Nat:=(m.bits+7)/8
def jT (m:dA)(T:Nat->Nat)(p:Ps)(o j:Nat)(s:RS):Option RS :=
 if 4<T (o+j*(1+rowLen p.C m.bits)) then none
 else some ⟨ai (nG (T (o+j*(1+rowLen p.C m.bits))) m.lead s.above (fun i=>T (o+j*(1+rowLen p.C m.bits)+1+i)) (rowLen p.C m.bits)),
  py p m.W m.n j (dk (ai (nG (T (o+j*(1+rowLen p.C m.bits))) m.lead s.above (fun i=>T (o+j*(1+rowLen p.C m.bits)+1+i)) (rowLen p.C m.bits))) m.dp) s.out (p.C*m.n)⟩
def fE (m:dA)(T:Nat->Nat)(p:Ps)(o:Nat)(out:List Int):Nat->Option RS
 | 0=>some ⟨fun _=>0,out⟩
 | j+1=>(fE m T p o out j).bind (jT m T p o j)
theorem me (m:dA)(T:Nat->Nat)(p:Ps)(o:Nat)(out:List Int)(ho:∀y∈out,0<=y):∀j s,fE m T p o out j=some s->s.out.length=out.length/\(∀y∈s.out,0<=y)/\∀i,0<=s.above i/\s.above i<256
 | 0,s,h=>by
  injection h with h;subst h;exact⟨rfl,ho,fun _=>⟨ab2 _,show (0:Int)<256 by decide⟩⟩
 | j+1,s,h=>by
  rw[fE]at h;obtain⟨s0,h0,h1⟩:=Option.bind_eq_some_iff.mp h;obtain⟨a1,a2,a3⟩:=me m T p o out ho j s0 h0;unfold jT at h1;split at h1
  ·cases h1
  ·injection h1 with h1;subst h1;refine⟨(Bo _ _ _ _ _ _ _).trans a1,r8 _ _ _ _ _ _ (fun k=>Bn (fun i=>nH _ _ _ _ _ i) _ _) a2 _,fun i=>nH _ _ _ _ _ i⟩
theorem uQ (m:dA)(T:Nat->Nat)(p:Ps)(o:Nat)(out:List Int)(j:Nat)(h:fE m T p o out j=none):∀d,fE m T p o out (j+d)=none
 | 0=>h
 | d+1=>by show (fE m T p o out (j+d)).bind _=none;rw[uQ m T p o out j h d];rfl
def cD (m:dA)(k:Nat):Ps:=⟨oM k,px k,kG k,mM k,(m.W+(kG k-1-oM k))/kG k,(m.H+(mM k-1-px k))/mM k⟩
def kO (m:dA):Ps:=⟨0,0,1,1,m.W,m.H⟩
theorem uR (s t e i:Nat)(h:s<t)(hi:i<(e+(t-1-s))/t):s+i*t<e:=by
 have h1:i+1<=(e+(t-1-s))/t:=hi;rw[Nat.le_div_iff_mul_le (by omega)]at h1;rw[acr]at h1;omega
theorem yZ (m:dA)(k:Nat):(cD m k).In m.W m.H:=⟨fun _ hi=>uR _ _ _ _ (xD k) hi,fun _ hi=>uR _ _ _ _ (xF k) hi⟩
theorem uS (m:dA):(kO m).In m.W m.H:=⟨fun i hi=>by show 0+i*1<m.W;have:i<m.W:=hi;omega,fun i hi=>by show 0+i*1<m.H;have:i<m.H:=hi;omega⟩
def cI (m:dA)(k:Nat):Nat:=(iM m.W m.H m.bits k).toNat
def kP (m:dA)(T:Nat->Nat)(k:Nat)(out:List Int):Option (List Int) :=
 if 0<(cD m k).C/\0<(cD m k).R then (fE m T (cD m k) (cI m k) out (cD m k).R).map RS.out else some out
def fc (m:dA)(T:Nat->Nat):Nat->Option (List Int)
 | 0=>some (List.replicate (m.W*m.H*m.n) 0)
 | k+1=>(fc m T k).bind (kP m T k)
def mf (m:dA)(T:Nat->Nat)(on:Bool):Option (List Int) :=
 if on=true then fc m T 7 else (fE m T (kO m) 0 (List.replicate (m.W*m.H*m.n) 0) m.H).map RS.out
theorem mg (n:Nat):∀y∈List.replicate n (0:Int),0<=y:=fun y hy=>by rw[List.mem_replicate]at hy;omega
theorem nI (m:dA)(T:Nat->Nat):∀k l,fc m T k=some l->l.length=m.W*m.H*m.n/\∀y∈l,0<=y
 | 0,l,h=>by
  injection h with h;subst h;exact⟨by simp,mg _⟩
 | k+1,l,h=>by
  rw[fc]at h;obtain⟨l0,h0,h1⟩:=Option.bind_eq_some_iff.mp h;obtain⟨a1,a2⟩:=nI m T k l0 h0;unfold kP at h1;split at h1
  ·obtain⟨s,hs,rfl⟩:=Option.map_eq_some_iff.mp h1;obtain⟨b1,b2,_⟩:=me m T _ _ _ a2 _ _ hs;exact⟨b1.trans a1,b2⟩
  ·injection h1 with h1;subst h1;exact⟨a1,a2⟩
theorem se (m:dA)(T:Nat->Nat)(k:Nat)(h:fc m T k=none):∀d,fc m T (k+d)=none
 | 0=>h
 | d+1=>by show (fc m T (k+d)).bind _=none;rw[se m T k h d];rfl
theorem xH (m:dA)(T:Nat->Nat)(on:Bool)(l:List Int)(h:mf m T on=some l):l.length=m.W*m.H*m.n/\∀y∈l,0<=y:=by
 unfold mf at h;split at h
 ·exact nI m T 7 l h
 ·obtain⟨s,hs,rfl⟩:=Option.map_eq_some_iff.mp h;obtain⟨b1,b2,_⟩:=me m T _ _ _ (mg _) _ _ hs;exact⟨b1.trans (by simp),b2⟩
def c9 (m:dA)(p:Ps):Nat:=p.R*(1+rowLen p.C m.bits)
theorem Fw (m:dA)(k:Nat)(hk:k<7):Lp m.W m.H m.bits k=((if 0<(cD m k).C/\0<(cD m k).R then c9 m (cD m k) else 0:Nat):Int):=by
 rw[Lr _ _ _ k hk,one,rp _ _ _ (xD k),rp _ _ _ (xF k)];unfold c9 cD;dsimp only;generalize (m.W+(kG k-1-oM k))/kG k=C;generalize (m.H+(mM k-1-px k))/mM k=R;by_cases h:0<C/\0<R
 ·rw[aai (by omega),aai h,ad];push_cast;rfl
 ·rw[aag (by omega),aag h];rfl
theorem oo (m:dA):∀k,k<=7->iM m.W m.H m.bits k=(cI m k:Int)
 | 0,_=>rfl
 | k+1,h=>by
  unfold cI;have h1:=oo m k (by omega);rw[iM,h1,Fw m k (by omega)];omega
theorem kQ (m:dA)(k:Nat)(hk:k<7):cI m (k+1)=cI m k+if 0<(cD m k).C/\0<(cD m k).R then c9 m (cD m k) else 0:=by
 have h1:=oo m (k+1) (by omega);rw[iM,oo m k (by omega),Fw m k hk]at h1;omega
theorem uT (m:dA)(k:Nat):∀d,k+d<=7->cI m k<=cI m (k+d)
 | 0,_=>aaf _
 | d+1,h=>by
  have h1:=uT m k d (by omega);have h2:=kQ m (k+d) (by omega);have e:k+(d+1)=k+d+1:=by omega
  rw[e,h2];omega
theorem oq (m:dA)(on:Bool):raw m.W m.H m.bits on=((if on=true then cI m 7 else c9 m (kO m):Nat):Int):=by
 cases on with
 | true=>exact oo m 7 (aaf _)
 | false =>
  show ad m.W m.H m.bits=_;unfold ad c9 kO;dsimp only;push_cast;rfl
theorem row_in (m:dA)(p:Ps)(o j:Nat)(hj:j<p.R){N:Nat}(h:o+c9 m p<=N):o+j*(1+rowLen p.C m.bits)+1+rowLen p.C m.bits<=N:=by
 unfold c9 at h;have:(j+1)*(1+rowLen p.C m.bits)<=p.R*(1+rowLen p.C m.bits):=abs _ hj;rw[acr]at this;omega
theorem Fx (m:dA)(k:Nat)(hk:k<7)(h:0<(cD m k).C/\0<(cD m k).R):cI m k+c9 m (cD m k)<=cI m 7:=by
 have h1:=kQ m k hk;rw[aai h]at h1;have h2:=uT m (k+1) (7-(k+1)) (by omega);rw[show k+1+(7-(k+1))=7 by omega]at h2;omega
def d9 (x y:Int):Int:=max (x-y) (y-x)
theorem Hx (a b c:Int):xG a b c=if d9 b c<=d9 a c/\d9 b c<=d9 (a+b) (c+c) then a else if d9 a c<=d9 (a+b) (c+c) then b else c:=by
 have e1:sJ (a+b-c) a=d9 b c:=by unfold sJ d9;split<;>omega
 have e2:sJ (a+b-c) b=d9 a c:=by unfold sJ d9;split<;>omega
 have e3:sJ (a+b-c) c=d9 (a+b) (c+c):=by unfold sJ d9;split<;>omega
 unfold xG;rw[e1,e2,e3]
def oN (n st k:Nat):Nat:=k/n*(st*n)+k%n
theorem qg {n k:Nat}(hn:0<n)(h:k%n+1=n):(k+1)/n=k/n+1/\(k+1)%n=0:=by
 have h0:=adl k n;generalize k/n=q at *;generalize k%n=t at *;subst h0;rw[show n*q+t+1=n*(q+1) by rw[Nat.mul_succ];omega];exact⟨Nat.mul_div_cancel_left _ hn,Nat.mul_mod_right _ _⟩
theorem qh {n k:Nat}(hn:0<n)(h:k%n+1<n):(k+1)/n=k/n/\(k+1)%n=k%n+1:=by
 have h0:=adl k n;generalize k/n=q at *;generalize k%n=t at *;subst h0;rw[show n*q+t+1=(t+1)+n*q by omega];exact⟨by rw[Nat.add_mul_div_left _ _ hn,Nat.div_eq_of_lt h,aaR],by rw[Nat.add_mul_mod_self_left,abt h]⟩
theorem Ls {n k:Nat}(st:Nat)(hn:0<n)(h:k%n+1=n)(hs:1<=st):oN n st (k+1)=oN n st k+1+(st-1)*n:=by
 obtain⟨h1,h2⟩:=qg hn h;unfold oN;rw[h1,h2,acr];obtain⟨s,rfl⟩:∃s,st=s+1:=⟨st-1,by omega⟩
 rw[Nat.add_sub_cancel,acr s n];omega
theorem Lt {n k:Nat}(st:Nat)(hn:0<n)(h:k%n+1<n):oN n st (k+1)=oN n st k+1:=by
 obtain⟨h1,h2⟩:=qh hn h;unfold oN;rw[h1,h2];omega
def sK (off n st:Nat)(v:Nat->Int)(out:List Int):Nat->List Int
 | 0=>out
 | k+1=>(sK off n st v out k).set (off+oN n st k) (v k)
theorem nJ (off n st:Nat)(v:Nat->Int)(out:List Int):∀k,(sK off n st v out k).length=out.length
 | 0=>rfl
 | k+1=>by rw[sK,aaW,nJ off n st v out k]
def dP (p:Ps)(W n j:Nat):Nat:=((p.r0+j*p.rs)*W+p.c0)*n
theorem tr (p:Ps)(W n j k:Nat):p.idx W n j k=dP p W n j+oN n p.cs k:=by
 unfold Ps.idx dP oN;rw[<-acy,Nat.add_mul _ (k/n*p.cs) n,abz (k/n),acy]
theorem Lu (p:Ps)(W n j:Nat)(v:Nat->Int)(out:List Int):∀k,py p W n j v out k=sK (dP p W n j) n p.cs v out k
 | 0=>rfl
 | k+1=>by rw[py,sK,Lu p W n j v out k,tr]
theorem y9 (C n dp k:Nat)(h:dp=1\/dp=2\/dp=4\/dp=8\/dp=16)(hk:k<C*n):(dp=16->2*k+1<rowLen C (n*dp))/\(dp≠16->k*dp/8<rowLen C (n*dp)):=by
 unfold rowLen;rw[<-abz];generalize C*n=N at *;constructor
 ·intro e;subst e;omega
 ·intro e;have h1:(k+1)*dp<=N*dp:=abs _ hk;rw[acr]at h1;generalize k*dp=A at *;generalize N*dp=B at *;omega
def leftV (f lead:Nat)(above r:Nat->Int)(i:Nat):Int:=(r i-gK f (cX r i lead) (above i) (cX above i lead))%256
theorem sg (f lead:Nat)(above r:Nat->Int)(i:Nat):0<=leftV f lead above r i/\leftV f lead above r i<256:=by unfold leftV;omega
theorem Hy (L:List Int)(i j:Nat)(h:j<i):ai (L.take i) j=ai L j:=by
 unfold ai;rw[aad,aad,List.getElem?_take_of_lt h]
theorem Fy (f lead:Nat)(above x:Nat->Int)(L:List Int)(hL:∀y∈L,0<=y/\y<256)(hl:1<=lead)(hx:∀i,i<L.length->x i=leftV f lead above (ai L) i):∀i,i<=L.length->nG f lead above x i=L.take i
 | 0,_=>by rw[nG,List.take_zero]
 | i+1,h=>by
  have ih:=Fy f lead above x L hL hl hx i (by omega);rw[nG,ih,hx i (by omega),List.take_add_one,aaj (by omega),Option.toList_some]
  congr 2
  have hp:cX (ai (L.take i)) i lead=cX (ai L) i lead:=by
   unfold cX;split
   ·exact Hy L i _ (by omega)
   ·rfl
  rw[hp];unfold leftV;have hr:=hL _ (abl (show i<L.length by omega))
  have hg:ai L i=L[i]'(by omega):=by
   unfold ai;rw[aad,aaj (by omega)];rfl
  rw[hg];generalize gK f _ _ _=t;omega
def bG (v:Nat->Int)(dp size:Nat):Nat->List Int
 | 0=>List.replicate size 0
 | k+1=>if dp=16 then ((bG v dp size k).set (2*k) (v k/256)).set (2*k+1) (v k%256)
  else (bG v dp size k).set (k*dp/8) (ai (bG v dp size k) (k*dp/8)+v k*2^(8-k*dp%8-dp))
theorem jj (v:Nat->Int)(dp size:Nat):∀k,(bG v dp size k).length=size
 | 0=>by rw[bG,aaB]
 | k+1=>by
  rw[bG];split
  ·rw[aaW,aaW,jj v dp size k]
  ·rw[aaW,jj v dp size k]
theorem kR (l:List Int)(i j:Nat)(x:Int)(h:i<l.length):ai (l.set i x) j=if i=j then x else ai l j:=by
 unfold ai;rw[aad,aad,List.getElem?_set];by_cases e:i=j
 ·subst e;rw[aai rfl,aai rfl,aai h];rfl
 ·rw[aag e,aag e]
theorem xI (n j:Nat):ai (List.replicate n 0) j=0:=by
 unfold ai;rw[aad,aci];split<;>rfl
theorem OU (B v:Int)(b d:Nat)(h:B%2^(b+d)=0)(hv:0<=v/\v<2^d):(B+v*2^b)/2^b%2^d=v:=by
 have hb:=iN b;rw[Int.add_mul_ediv_right _ _ (by omega)]
 have e:B/2^b%2^d=0:=by
  have h1:=Int.emod_add_mul_ediv B (2^(b+d));rw[h,Int.zero_add,Int.pow_add,Int.mul_assoc]at h1;rw[<-h1,Int.mul_ediv_cancel_left _ (by omega),Int.mul_emod_right]
 rw[Int.add_emod,e,Int.zero_add,Int.emod_emod_of_dvd _ (Int.dvd_refl _)];exact Int.emod_eq_of_lt hv.1 hv.2
theorem Bp (B v:Int)(b d e:Nat)(h:B%2^(b+d)=0)(hv:0<=v/\v<2^d)(he:b+d<=e):(B+v*2^b)/2^e=B/2^e:=by
 obtain⟨c,rfl⟩:∃c,e=b+d+c:=⟨e-(b+d),by omega⟩
 have hb:=iN b;have hbd:=iN (b+d);have h1:=Int.emod_add_mul_ediv B (2^(b+d));rw[h,Int.zero_add]at h1
 have h2:0<=v*2^b/\v*2^b<2^(b+d):=by
  refine⟨acu hv.1 (by omega),?_⟩;rw[Nat.add_comm b d,Int.pow_add];exact Int.mul_lt_mul_of_pos_right hv.2 hb
 rw[Int.pow_add,<-Int.ediv_ediv_of_nonneg (by omega),<-Int.ediv_ediv_of_nonneg (by omega)]
 congr 1
 generalize v*2^b=x at *;generalize (2:Int)^(b+d)=P at *;rw[<-h1];rw[Int.add_comm,Int.add_mul_ediv_left _ _ (by omega),Int.ediv_eq_zero_of_lt h2.1 h2.2,Int.mul_ediv_cancel_left _ (by omega),Int.zero_add]
theorem Bq (B v:Int)(b d:Nat)(h:B%2^(b+d)=0)(hv:0<=v/\v<2^d)(hbd:b+d<=8)(hB:0<=B/\B<256):0<=B+v*2^b/\B+v*2^b<256:=by
 have hb:=iN b;have h2:0<=v*2^b:=acu hv.1 (by omega);refine⟨by omega,?_⟩;have h3:=Bp B v b d 8 h hv hbd;have e:(2:Int)^8=256:=by decide
 rw[e]at h3;omega
theorem Lw (B v:Int)(b d:Nat)(h:B%2^(b+d)=0):(B+v*2^b)%2^b=0:=by
 have h1:=Int.emod_add_mul_ediv B (2^(b+d));rw[h,Int.zero_add,Int.pow_add,Int.mul_assoc]at h1;rw[<-h1,<-Int.mul_comm (2^b) v,<-Int.mul_add];exact Int.mul_emod_right _ _
abbrev sj (dp:Nat):Prop:=dp=1\/dp=2\/dp=4\/dp=8\/dp=16
structure Packed (v:Nat->Int) (dp size k:Nat):Prop where
 byte:∀i,0<=ai (bG v dp size k) i/\ai (bG v dp size k) i<256
 low:dp≠16->ai (bG v dp size k) (k*dp/8)%2^(8-k*dp%8)=0
 zero:dp≠16->∀i,k*dp/8<i->ai (bG v dp size k) i=0
 Tp:∀j,j<k->dk (ai (bG v dp size k)) dp j=v j
theorem packed (v:Nat->Int)(dp size:Nat)(hd:sj dp)(K:Nat)(hv:∀k,k<K->0<=v k/\v k<2^dp)(hs:∀k,k<K->(dp=16->2*k+1<size)/\(dp≠16->k*dp/8<size)):∀k,k<=K->Packed v dp size k
 | 0,_=>by
  have e:∀i,ai (bG v dp size 0) i=0:=fun i=>by rw[bG];exact xI _ _
  exact⟨fun i=>by rw[e];omega,fun _=>by rw[e];exact Int.zero_emod _,fun _ i _=>e i,fun j hj=>absurd hj (by omega)⟩
 | k+1,hk=>by
  have ih:=packed v dp size hd K hv hs k (by omega);have hv:=hv k (by omega);obtain⟨s1,s2⟩:=hs k (by omega);have hlen:=jj v dp size k;by_cases h16:dp=16
  ·subst h16;have s1:=s1 rfl
   have e:∀i,ai (bG v 16 size (k+1)) i=if 2*k+1=i then v k%256 else if 2*k=i then v k/256 else ai (bG v 16 size k) i:=by
    intro i;rw[bG,aai rfl,kR _ _ _ _ (by rw[aaW,hlen];exact s1),kR _ _ _ _ (by rw[hlen];omega)]
   have hv2:v k<65536:=by
    have:(2:Int)^16=65536:=by decide
    omega
   refine⟨fun i=>?_,fun h=>absurd rfl h,fun h=>absurd rfl h,fun j hj=>?_⟩
   ·rw[e];have:=ih.byte i;split
    ·omega
    ·split<;>omega
   ·have i2:=ih.Tp j;unfold dk at i2 ⊢;rw[aai rfl]at i2 ⊢;rw[e,e];rcases aaY j k with h|h
    ·rw[aag (by omega),aag (by omega),aag (by omega),aag (by omega)];exact i2 h
    ·obtain rfl:j=k:=by omega
     rw[aag (by omega),aai rfl,aai rfl];omega
  ·have s2:=s2 h16;have low:=ih.low h16;have zero:=ih.zero h16;have hdp:dp=1\/dp=2\/dp=4\/dp=8:=by unfold sj at hd;omega
   have hfit:k*dp%8+dp<=8:=by rcases hdp with rfl|rfl|rfl|rfl<;>omega
   have e:∀i,ai (bG v dp size (k+1)) i=if k*dp/8=i then ai (bG v dp size k) (k*dp/8)+v k*2^(8-k*dp%8-dp) else ai (bG v dp size k) i:=by
    intro i;rw[bG,aag h16,kR _ _ _ _ (by rw[hlen];exact s2)]
   have lw:ai (bG v dp size k) (k*dp/8)%2^(8-k*dp%8-dp+dp)=0:=by
    rw[show 8-k*dp%8-dp+dp=8-k*dp%8 by omega];exact low
   have bB:=ih.byte (k*dp/8);have nx:(k+1)*dp=k*dp+dp:=acr k dp;refine⟨fun i=>?_,fun _=>?_,fun _ i hi=>?_,fun j hj=>?_⟩
   ·rw[e];split
    ·exact Bq _ _ _ _ lw hv (by omega) bB
    ·exact ih.byte i
   ·rw[e,nx];by_cases hb:k*dp%8+dp=8
    ·rw[aag (by omega),zero _ (by omega)];exact Int.zero_emod _
    ·rw[aai (by omega),show 8-(k*dp+dp)%8=8-k*dp%8-dp by omega];exact Lw _ _ _ _ lw
   ·rw[nx]at hi;rw[e,aag (by omega)];exact zero i (by omega)
   ·have i2:=ih.Tp j;unfold dk at i2 ⊢;rw[aag h16]at i2 ⊢;rw[e];rcases aaY j k with h|h
    ·by_cases hb:k*dp/8=j*dp/8
     ·rw[aai hb,Bp _ _ _ _ _ lw hv (by
       have:(j+1)*dp<=k*dp:=abs _ h;rw[acr]at this;have:j*dp%8+dp<=8:=by rcases hdp with rfl|rfl|rfl|rfl<;>omega
       omega),hb]
      exact i2 h
     ·rw[aag hb];exact i2 h
    ·obtain rfl:j=k:=by omega
     rw[aai rfl];exact OU _ _ _ _ lw hv
structure Hz (D:Nat->Prop) (out S:List Int):Prop where
 len:out.length=S.length
 at_:∀i,D i->out[i]?=S[i]?
theorem Hz.put {D:Nat->Prop}{out S:List Int}(h:Hz D out S)(p:Ps)(W n j:Nat)(v:Nat->Int):∀K,(∀k,k<K->S[p.idx W n j k]?=some (v k))->Hz (fun i=>D i\/∃k,k<K/\i=p.idx W n j k) (py p W n j v out K) S
 | 0,_=>⟨h.len,fun i hi=>by
   rcases hi with hi|⟨k,hk,_⟩
   ·exact h.at_ i hi
   ·omega⟩
 | K+1,hv=>by
  have ih:=Hz.put h p W n j v K (fun k hk=>hv k (by omega));refine⟨by rw[py,aaW];exact ih.len,fun i hi=>?_⟩;have hK:=hv K (by omega);rw[py,List.getElem?_set];by_cases e:p.idx W n j K=i
  ·rw[aai e];subst e
   have hlt:p.idx W n j K<S.length:=by
    rw[List.getElem?_eq_some_iff]at hK;exact hK.1
   rw[ih.len,aai hlt,hK]
  ·rw[aag e];refine ih.at_ i ?_;rcases hi with hi|⟨k,hk,he⟩
   ·exact .inl hi
   ·rcases aaY k K with h1|h1
    ·exact .inr ⟨k,h1,he⟩
    ·obtain rfl:k=K:=by omega
     exact absurd he.symm e
theorem Hz.mono {D E:Nat->Prop}{out S:List Int}(h:Hz D out S)(k:∀i,E i->D i):Hz E out S:=⟨h.len,fun i hi=>h.at_ i (k i hi)⟩
theorem Hz.all {D:Nat->Prop}{out S:List Int}(h:Hz D out S)(k:∀i,i<S.length->D i):out=S:=by
 refine List.ext_getElem? fun i=>?_;rcases aaY i S.length with hi|hi
 ·exact h.at_ i (k i hi)
 ·rw[aaz hi,aaz (by rw[h.len];exact hi)]
abbrev sL (l:List Int)(i:Nat):Nat:=(ai l i).toNat
def zd (S:List Int)(p:Ps)(W n j k:Nat):Int:=ai S (p.idx W n j k)
def iU (m:dA)(S:List Int)(p:Ps)(j:Nat):List Int:=bG (zd S p m.W m.n j) m.dp (rowLen p.C m.bits) (p.C*m.n)
def cV (m:dA)(S:List Int)(p:Ps):Nat->List Int
 | 0=>List.replicate (rowLen p.C m.bits) 0
 | j+1=>iU m S p j
theorem nK (m:dA)(S:List Int)(p:Ps)(j:Nat):(iU m S p j).length=rowLen p.C m.bits:=jj _ _ _ _
theorem uU (m:dA)(S:List Int)(p:Ps):∀j,(cV m S p j).length=rowLen p.C m.bits
 | 0=>aaB
 | j+1=>nK m S p j
structure Fits (m:dA) (S:List Int):Prop where
 len:S.length=m.W*m.H*m.n
 dep:sj m.dp
 val:∀y∈S,0<=y/\y<2^m.dp
theorem Fits.get {m:dA}{S:List Int}(h:Fits m S)(i:Nat):0<=ai S i/\ai S i<2^m.dp:=by
 unfold ai;rw[aad];rcases aaY i S.length with hi|hi
 ·rw[aaj hi];exact h.val _ (abl hi)
 ·rw[aaz hi];exact⟨ab2 _,iN _⟩
theorem uV {m:dA}{S:List Int}(h:Fits m S)(p:Ps)(j:Nat){k:Nat}(hk:k<=p.C*m.n):Packed (zd S p m.W m.n j) m.dp (rowLen p.C m.bits) k :=
 packed _ _ _ h.dep (p.C*m.n) (fun _ _=>h.get _) (fun k hk=>y9 p.C m.n m.dp k h.dep hk) k hk
theorem uW {m:dA}{S:List Int}(h:Fits m S)(p:Ps)(j:Nat):∀y∈iU m S p j,0<=y/\y<256:=by
 intro y hy;obtain⟨i,hi,rfl⟩:=List.mem_iff_getElem.1 hy;have:=(uV h p j (aaf _)).byte i;unfold ai at this;rw[aad]at this;have e:(bG (zd S p m.W m.n j) m.dp (rowLen p.C m.bits) (p.C*m.n))[i]?=some ((iU m S p j)[i]):=aaj hi;rw[e]at this;exact this
theorem D4 {m:dA}{S:List Int}(h:Fits m S)(p:Ps):∀j,∀y∈cV m S p j,0<=y/\y<256
 | 0=>fun y hy=>by
  have:y=0:=(List.mem_replicate.1 hy).2;omega
 | j+1=>uW h p j
structure nL (m:dA) (S:List Int) (p:Ps) (T:Nat->Nat) (o fl j:Nat):Prop where
 few:T (o+j*(1+rowLen p.C m.bits))<=4
 said:fl≠5->T (o+j*(1+rowLen p.C m.bits))=fl
 left:∀i,i<rowLen p.C m.bits->(T (o+j*(1+rowLen p.C m.bits)+1+i):Int)=leftV (T (o+j*(1+rowLen p.C m.bits))) m.lead (ai (cV m S p j)) (ai (iU m S p j)) i
theorem Lx {m:dA}(h:0<m.bits):1<=m.lead:=by unfold dA.lead;omega
theorem sM {m:dA}{S:List Int}(hf:Fits m S)(hb:0<m.bits){p:Ps}{T:Nat->Nat}{o fl j:Nat}(h:nL m S p T o fl j)(out:List Int): jT m T p o j ⟨ai (cV m S p j),out⟩=some ⟨ai (iU m S p j),py p m.W m.n j (dk (ai (iU m S p j)) m.dp) out (p.C*m.n)⟩:=by
 have hu:nG (T (o+j*(1+rowLen p.C m.bits))) m.lead (ai (cV m S p j)) (fun i=>(T (o+j*(1+rowLen p.C m.bits)+1+i):Int)) (rowLen p.C m.bits)=iU m S p j:=by
  have e:=Fy (T (o+j*(1+rowLen p.C m.bits))) m.lead (ai (cV m S p j)) (fun i=>(T (o+j*(1+rowLen p.C m.bits)+1+i):Int)) (iU m S p j) (uW hf p j) (Lx hb)
   (fun i hi=>h.left i (by rw[nK]at hi;exact hi)) (rowLen p.C m.bits) (by rw[nK];exact aaf _)
  rw[e,<-nK m S p j,List.take_length]
 unfold jT;have h4:=h.few;rw[aag (by omega)];simp only[hu]
theorem abM {m:dA}{S:List Int}(hf:Fits m S){p:Ps}(hp:p.In m.W m.H){j k:Nat}(hj:j<p.R)(hk:k<p.C*m.n):S[p.idx m.W m.n j k]?=some (zd S p m.W m.n j k):=by
 have hlt:=Ps.D2 (n:=m.n) hp hj hk;rw[<-hf.len]at hlt;unfold zd ai;rw[aad,aaj hlt];rfl
abbrev D5 (p:Ps)(W n J:Nat)(i:Nat):Prop:=∃j k,j<J/\k<p.C*n/\i=p.idx W n j k
theorem kt {m:dA}{S:List Int}(hf:Fits m S)(hb:0<m.bits){p:Ps}(hp:p.In m.W m.H){T:Nat->Nat}{o fl:Nat}{D:Nat->Prop}{out:List Int}(ho:Hz D out S):∀J,J<=p.R->(∀j,j<J->nL m S p T o fl j) -> ∃out',fE m T p o out J=some ⟨ai (cV m S p J),out'⟩/\Hz (fun i=>D i\/D5 p m.W m.n J i) out' S
 | 0,_,_=>by
  refine⟨out,?_,ho.len,fun i hi=>?_⟩
  ·rw[fE]
   congr 2
   funext i
   exact (xI _ _).symm
  ·rcases hi with hi|⟨j,k,hj,_⟩
   ·exact ho.at_ i hi
   ·omega
 | J+1,hJ,h=>by
  obtain⟨o1,e1,c1⟩:=kt hf hb hp ho J (by omega) (fun j hj=>h j (by omega));refine⟨_,by rw[fE,e1,Option.bind_some,sM hf hb (h J (by omega))];rfl,?_⟩
  have hv:∀k,k<p.C*m.n->S[p.idx m.W m.n J k]?=some (dk (ai (iU m S p J)) m.dp k):=by
   intro k hk;rw[abM hf hp (by omega) hk]
   congr 1
   exact ((uV hf p J (aaf _)).Tp k hk).symm
  refine (c1.put p m.W m.n J _ _ hv).mono fun i hi=>?_;rcases hi with hi|⟨j,k,hj,hk,he⟩
  ·exact .inl (.inl hi)
  ·rcases aaY j J with h1|h1
   ·exact .inl (.inr ⟨j,k,h1,hk,he⟩)
   ·obtain rfl:j=J:=by omega
    exact .inr ⟨k,hk,he⟩
abbrev nM (m:dA)(S:List Int)(T:Nat->Nat)(fl k:Nat):Prop:=0<(cD m k).C->0<(cD m k).R->∀j,j<(cD m k).R->nL m S (cD m k) T (cI m k) fl j
abbrev Br (m:dA)(K:Nat)(i:Nat):Prop:=∃k,k<K/\0<(cD m k).C/\0<(cD m k).R/\D5 (cD m k) m.W m.n (cD m k).R i
theorem xJ {m:dA}{S:List Int}(hf:Fits m S):Hz (fun _=>False) (List.replicate (m.W*m.H*m.n) 0) S:=⟨by rw[aaB,hf.len],fun _ h=>h.elim⟩
theorem nN {m:dA}{S:List Int}(hf:Fits m S)(hb:0<m.bits){T:Nat->Nat}{fl:Nat}:∀K,K<=7->(∀k,k<K->nM m S T fl k)->∃out,fc m T K=some out/\Hz (Br m K) out S
 | 0,_,_=>⟨_,rfl,(xJ hf).mono fun i ⟨k,hk,_⟩=>absurd hk (by omega)⟩
 | K+1,hK,h=>by
  obtain⟨o1,e1,c1⟩:=nN hf hb K (by omega) (fun k hk=>h k (by omega));rw[fc,e1,Option.bind_some];unfold kP;by_cases hc:0<(cD m K).C/\0<(cD m K).R
  ·obtain⟨o2,e2,c2⟩:=kt hf hb (yZ m K) c1 _ (aaf _) (h K (by omega) hc.1 hc.2);rw[aai hc,e2];refine⟨o2,rfl,c2.mono fun i ⟨k,hk,a,b,r⟩=>?_⟩;rcases aaY k K with h1|h1
   ·exact .inl ⟨k,h1,a,b,r⟩
   ·obtain rfl:k=K:=by omega
    exact .inr r
  ·rw[aag hc];refine⟨o1,rfl,c1.mono fun i ⟨k,hk,a,b,r⟩=>?_⟩;rcases aaY k K with h1|h1
   ·exact⟨k,h1,a,b,r⟩
   ·obtain rfl:k=K:=by omega
    exact absurd ⟨a,b⟩ hc
theorem H4 (x y:Nat):∃k,k<7/\x%kG k=oM k/\y%mM k=px k:=by
 have hx:x%8<8:=acV _ (by decide);have hy:y%8<8:=acV _ (by decide);have key:∀a<8,∀b<8,∃k,k<7/\a%kG k=oM k/\b%mM k=px k:=by decide
 obtain⟨k,hk,h1,h2⟩:=key _ hx _ hy;refine⟨k,hk,?_,?_⟩
 ·have:∀k<7,8%kG k=0:=by decide
  rw[<-h1,Nat.mod_mod_of_dvd _ (Nat.dvd_of_mod_eq_zero (this k hk))]
 ·have:∀k<7,8%mM k=0:=by decide
  rw[<-h2,Nat.mod_mod_of_dvd _ (Nat.dvd_of_mod_eq_zero (this k hk))]
theorem Fz (s t e x:Nat)(h:s<t)(hx:x<e)(hm:x%t=s):x/t<(e+(t-1-s))/t:=by
 have h1:=adl x t;rw[hm]at h1;rw[Nat.lt_div_iff_mul_lt (by omega)];have:x/t*t=t*(x/t):=abj _ _;omega
theorem Ly (n i W:Nat):i=(i/n/W*W+i/n%W)*n+i%n:=by
 have h1:=adl i n;have h2:=adl (i/n) W;rw[abj (i/n/W) W,h2,abj];exact h1.symm
theorem Lz {p:Ps}{W n i:Nat}(hn:0<n)(r c:Nat)(hr:p.r0+r*p.rs=i/n/W)(hc:p.c0+c*p.cs=i/n%W):i=p.idx W n r (c*n+i%n):=by
 unfold Ps.idx;rw[abj c n,Nat.add_comm (n*c),Nat.add_mul_div_left _ _ hn,Nat.div_eq_of_lt (acV _ hn),aaR,Nat.add_mul_mod_self_left,Nat.mod_mod,hr,hc];exact Ly n i W
theorem FA {W H n i:Nat}(hi:i<W*H*n):i/n/W<H:=by
 rw[Nat.div_div_eq_div_mul];refine Nat.div_lt_of_lt_mul ?_;rw[abj n W,abz,abj n H,<-abz];exact hi
theorem LA {n C c i:Nat}(hn:0<n)(h:c<C):c*n+i%n<C*n:=by
 have h1:(c+1)*n<=C*n:=abs _ h;rw[acr]at h1;have:=acV i hn;omega
theorem xK {s t x:Nat}(hm:x%t=s):s+x/t*t=x:=by
 have h1:=adl x t;rw[hm,abj]at h1;omega
theorem all_in {m:dA}(hn:0<m.n)(hW:0<m.W){i:Nat}(hi:i<m.W*m.H*m.n):Br m 7 i:=by
 obtain⟨k,hk,h1,h2⟩:=H4 (i/m.n%m.W) (i/m.n/m.W);have hC:i/m.n%m.W/kG k<(cD m k).C:=Fz _ _ _ _ (xD k) (acV _ hW) h1;have hR:i/m.n/m.W/mM k<(cD m k).R:=Fz _ _ _ _ (xF k) (FA hi) h2;exact⟨k,hk,Nat.lt_of_le_of_lt (aao _) hC,Nat.lt_of_le_of_lt (aao _) hR,_,_,hR,LA hn hC,Lz hn _ _ (xK h2) (xK h1)⟩
theorem OV {m:dA}(hn:0<m.n)(hW:0<m.W){i:Nat}(hi:i<m.W*m.H*m.n):D5 (kO m) m.W m.n m.H i :=
 ⟨i/m.n/m.W,i/m.n%m.W*m.n+i%m.n,FA hi,LA (C:=m.W) hn (acV _ hW),Lz (p:=kO m) hn (i/m.n/m.W) (i/m.n%m.W) (by show 0+_*1=_;omega) (by show 0+_*1=_;omega)⟩
def Written (m:dA)(S:List Int)(T:Nat->Nat)(fl:Nat)(on:Bool):Prop:=if on=true then ∀k,k<7->nM m S T fl k else ∀j,j<m.H->nL m S (kO m) T 0 fl j
theorem ze {m:dA}{S:List Int}(hf:Fits m S)(hn:0<m.n)(hd:0<m.dp)(hW:0<m.W){T:Nat->Nat}{fl:Nat}{on:Bool}(h:Written m S T fl on):mf m T on=some S:=by
 have hb:0<m.bits:=Nat.mul_pos hn hd;unfold Written at h;unfold mf;split
 ·rename_i e;rw[aai e]at h;obtain⟨o,e1,c⟩:=nN hf hb 7 (aaf _) h;rw[e1,c.all fun i hi=>all_in hn hW (by rw[<-hf.len];exact hi)]
 ·rename_i e;rw[aag e]at h;obtain⟨o,e1,c⟩:=kt hf hb (uS m) (xJ hf) m.H (aaf _) h;rw[e1,Option.map_some,c.all fun i hi=>.inr (OV hn hW (by rw[<-hf.len];exact hi))]
theorem nL.congr {m:dA}{S:List Int}{p:Ps}{T U:Nat->Nat}{o fl j:Nat}(h:nL m S p T o fl j)(e:∀i,i<o+(j+1)*(1+rowLen p.C m.bits)->U i=T i):nL m S p U o fl j:=by
 rw[acr]at e;have e0:=e (o+j*(1+rowLen p.C m.bits)) (by omega);refine⟨by rw[e0];exact h.few,fun hne=>by rw[e0];exact h.said hne,fun i hi=>?_⟩;rw[e0,e _ (by omega)];exact h.left i hi
end Go.Proofs.YtmfijackgekioabGreatDoor.Pm
