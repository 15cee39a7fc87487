import Derived.Test.YtmfijackgekioabGreatDoorQA
namespace Go.Proofs.YtmfijackgekioabGreatDoor.Pm
def chan (k d:Int):Int :=
 if k=0/\(d=1\/d=2\/d=4\/d=8\/d=16) then 1
 else if k=2/\(d=8\/d=16) then 3
 else if k=3/\(d=1\/d=2\/d=4\/d=8) then 1
 else if k=4/\(d=8\/d=16) then 2
 else if k=6/\(d=8\/d=16) then 4
 else 0
theorem cS (k d:Int):0<=chan k d/\chan k d<=4:=by
 unfold chan;repeat' split
 all_goals omega
theorem cF (k d:Int)(h:chan k d≠0):1<=d/\d<=16:=by
 unfold chan at h;repeat' split at h
 all_goals omega
def gb (n:Int):Bool:=decide (1<=n)&&decide (n<=5000)
theorem dE (n:Int):gb n=true↔1<=n/\n<=5000:=by simp[gb]
def pass (c r:Int):Int :=
 if r%2=1 then 7 else if c%2=1 then 6 else if r%4=2 then 5 else if c%4=2 then 4 else if r%8=4 then 3 else if c%8=4 then 2 else 1
def eu (zs:List Int)(e:Int):Bool:=zs.all fun n=>decide (0<=n)&&decide (n<e)
theorem G4 (zs:List Int)(k:Nat)(h:k<zs.length)(e:Int):eu (zs.take (k+1)) e=(eu (zs.take k) e&&(decide (0<=zs[k])&&decide (zs[k]<e))):=by
 rw[aaT h,eu,List.all_append];simp[eu]
theorem E3 (zs:List Int)(k:Nat)(h:k<zs.length)(e:Int)(hx:¬(0<=zs[k]/\zs[k]<e)):eu zs e=false:=by
 unfold eu;rw[List.all_eq_false];exact⟨zs[k],abo h,by simpa using hx⟩
def pQ (kd D:Int)(pz:List Int):Bool :=
 if kd=3 then decide ((pz.length:Int)%3=0)&&decide (1<=(pz.length:Int)/3)&&decide ((pz.length:Int)/3<=D)&&eu pz 256
 else decide ((pz.length:Int)=0)
def two (d:Int):Int:=2^d.toNat
theorem gU (d:Int)(h:1<=d/\d<=16):2<=two d/\two d<=65536:=by
 obtain⟨n,rfl⟩:=abz (a:=d) (by omega);unfold two;simp only[acQ];have h1:(2:Nat)^1<=2^n:=abs (by omega) (by omega);have h2:(2:Nat)^n<=2^16:=abs (by omega) (by omega);have e:((2:Int)^n)=((2^n:Nat):Int):=by simp
 rw[e];omega
def uk (wd ht kd c D:Int)(pl:Nat)(sz:List Int):Bool :=
 decide ((sz.length:Int)=wd*ht*c)&&(if kd=3 then eu sz ((pl:Int)/3) else eu sz D)
theorem aaY (wd ht:Int)(h1:1<=wd/\wd<=5000)(h2:1<=ht/\ht<=5000):1<=wd*ht/\wd*ht<=25000000:=by
 constructor
 ·have:1*1<=wd*ht:=acC h1.1 h2.1 (by omega) (by omega);omega
 ·have:wd*ht<=5000*5000:=acC h1.2 h2.2 (by omega) (by omega);omega
theorem Wn (a c:Int)(h1:0<=a/\a<=25000000)(h2:0<=c/\c<=4):0<=a*c/\a*c<=100000000:=by
 constructor
 ·exact acv h1.1 h2.1
 ·have:a*c<=25000000*4:=acC h1.2 h2.2 (by omega) (by omega);omega
def ad (c r b:Int):Int:=r*(1+(c*b+7)/8)
theorem ur (c b:Int)(hc:0<=c/\c<=5000)(hb:0<=b/\b<=64):0<=c*b/\c*b<=320000:=by
 constructor
 ·exact acv hc.1 hb.1
 ·have:c*b<=5000*64:=acC hc.2 hb.2 (by omega) (by omega);omega
theorem j6 (c r b:Int)(hc:0<=c/\c<=5000)(hr:0<=r/\r<=5000)(hb:0<=b/\b<=64):0<=ad c r b/\ad c r b<=200010000:=by
 have:=ur c b hc hb;unfold ad;constructor
 ·exact acv hr.1 (by omega)
 ·have:r*(1+(c*b+7)/8)<=5000*40002:=acC hr.2 (by omega) (by omega) (by omega);omega
def cnt (s t e:Int):Int:=(e-s+t-1)/t
def one (wd ht b c0 r0 cs rs:Int):Int:=if 0<cnt c0 cs wd/\0<cnt r0 rs ht then ad (cnt c0 cs wd) (cnt r0 rs ht) b else 0
def KS (wd ht b:Int):Nat->Int
 | 0=>one wd ht b 0 0 8 8
 | 1=>one wd ht b 4 0 8 8
 | 2=>one wd ht b 0 4 4 8
 | 3=>one wd ht b 2 0 4 4
 | 4=>one wd ht b 0 2 2 4
 | 5=>one wd ht b 1 0 2 2
 | _=>one wd ht b 0 1 1 2
def iC (wd ht b:Int):Nat->Int
 | 0=>0
 | k+1=>iC wd ht b k+KS wd ht b k
def raw (wd ht b:Int)(ps:Bool):Int:=if ps then iC wd ht b 7 else ad wd ht b
theorem wW (wd ht b c0 r0 cs rs:Int)(h1:0<=cnt c0 cs wd/\cnt c0 cs wd<=5000)(h2:0<=cnt r0 rs ht/\cnt r0 rs ht<=5000)(hb:0<=b/\b<=64): 0<=one wd ht b c0 r0 cs rs/\one wd ht b c0 r0 cs rs<=200010000:=by
 unfold one;split
 ·exact j6 _ _ _ h1 h2 hb
 ·omega
structure Qk (wd ht b:Int) (k:Nat) (c0 r0 cs rs:Int):Prop where
 hc0:0<=c0/\c0<=8
 hr0:0<=r0/\r0<=8
 hcs:1<=cs/\cs<=8
 hrs:1<=rs/\rs<=8
 pc:0<=wd-c0+cs-1
 pr:0<=ht-r0+rs-1
 bc:0<=cnt c0 cs wd/\cnt c0 cs wd<=5000
 br:0<=cnt r0 rs ht/\cnt r0 rs ht<=5000
 next:iC wd ht b (k+1)=iC wd ht b k+one wd ht b c0 r0 cs rs
theorem aaZ {wd ht:Int}(b:Int)(hw:1<=wd/\wd<=5000)(hh:1<=ht/\ht<=5000):Qk wd ht b 0 0 0 8 8:=by
 constructor<;>(try unfold cnt)<;>first|omega|rfl
theorem aa0 {wd ht:Int}(b:Int)(hw:1<=wd/\wd<=5000)(hh:1<=ht/\ht<=5000):Qk wd ht b 1 4 0 8 8:=by
 constructor<;>(try unfold cnt)<;>first|omega|rfl
theorem aa1 {wd ht:Int}(b:Int)(hw:1<=wd/\wd<=5000)(hh:1<=ht/\ht<=5000):Qk wd ht b 2 0 4 4 8:=by
 constructor<;>(try unfold cnt)<;>first|omega|rfl
theorem aa2 {wd ht:Int}(b:Int)(hw:1<=wd/\wd<=5000)(hh:1<=ht/\ht<=5000):Qk wd ht b 3 2 0 4 4:=by
 constructor<;>(try unfold cnt)<;>first|omega|rfl
theorem aa3 {wd ht:Int}(b:Int)(hw:1<=wd/\wd<=5000)(hh:1<=ht/\ht<=5000):Qk wd ht b 4 0 2 2 4:=by
 constructor<;>(try unfold cnt)<;>first|omega|rfl
theorem aa4 {wd ht:Int}(b:Int)(hw:1<=wd/\wd<=5000)(hh:1<=ht/\ht<=5000):Qk wd ht b 5 1 0 2 2:=by
 constructor<;>(try unfold cnt)<;>first|omega|rfl
theorem aa5 {wd ht:Int}(b:Int)(hw:1<=wd/\wd<=5000)(hh:1<=ht/\ht<=5000):Qk wd ht b 6 0 1 1 2:=by
 constructor<;>(try unfold cnt)<;>first|omega|rfl
theorem jo (kd dp:Int)(h:chan kd dp≠0):0<=chan kd dp*dp/\chan kd dp*dp<=64:=by
 have h1:=cS kd dp;have h2:=cF kd dp h;constructor
 ·exact acv h1.1 (by omega)
 ·have:chan kd dp*dp<=4*16:=acC h1.2 h2.2 (by omega) (by omega);omega
def qL (p:Int)(c:Nat):Nat->Bool
 | 0=>p==0
 | r+1=>qL p c r||(pass c r==p)
def KT (p:Int)(r:Nat):Nat->Bool
 | 0=>p==0
 | c+1=>KT p r c||(pass c r==p)
def nR (p:Int)(m:Nat):Nat->Nat
 | 0=>0
 | r+1=>nR p m r+if KT p r m then 1 else 0
def pn (on:Bool):Nat:=if on then 7 else 1
theorem AU (c r:Nat):pass c r=pass ((c%8:Nat):Int) ((r%8:Nat):Int):=by
 unfold pass;have a1:((c%8:Nat):Int)%2=(c:Int)%2:=by omega
 have a2:((c%8:Nat):Int)%4=(c:Int)%4:=by omega
 have a3:((c%8:Nat):Int)%8=(c:Int)%8:=by omega
 have b1:((r%8:Nat):Int)%2=(r:Int)%2:=by omega
 have b2:((r%8:Nat):Int)%4=(r:Int)%4:=by omega
 have b3:((r%8:Nat):Int)%8=(r:Int)%8:=by omega
 rw[a1,a2,a3,b1,b2,b3]
theorem Dr (p:Int)(c m:Nat):qL p c m=qL p (c%8) m:=by
 induction m with
 | zero=>rfl
 | succ m ih=>simp only[qL];rw[ih,AU c m,AU (c%8) m,Nat.mod_mod]
def ox:Nat->Nat|1=>4|3=>2|5=>1|_=>0
def j5:Nat->Nat|0=>8|1=>8|2=>4|3=>4|4=>2|5=>2|_=>1
def oY:Nat->Nat|2=>4|4=>2|6=>1|_=>0
def mC:Nat->Nat|0=>8|1=>8|2=>8|3=>4|4=>4|5=>2|_=>2
theorem yB:∀k:Nat,k<7->∀c:Nat,c<8->∀m:Nat,m<=8->qL ((k:Int)+1) c m=(decide (oY k<m)&&decide (c%j5 k=ox k)):=by decide
theorem SG (k:Nat)(hk:k<7)(c m:Nat)(hm:m<=8):qL ((k:Int)+1) c m=(decide (oY k<m)&&decide (c%j5 k=ox k)):=by
 rw[Dr,yB k hk (c%8) (acL _ (by omega)) m hm]
 have e:c%8%j5 k=c%j5 k:=by
  match k,hk with
  | 0,_|1,_|2,_|3,_|4,_|5,_|6,_=>simp only[j5];omega
 rw[e]
theorem wX:∀k:Nat,ox k<j5 k
 | 0|1|2|3|4|5|6=>by decide
 | n+7=>by show 0<1;omega
theorem wY:∀k:Nat,oY k<mC k
 | 0|1|2|3|4|5|6=>by decide
 | n+7=>by show 0<2;omega
theorem qM (s t e:Nat)(h:s<t):cnt s t e=(((e+(t-1-s))/t:Nat):Int):=by
 unfold cnt;rw[show (e:Int)-s+t-1=((e+(t-1-s):Nat):Int) by omega];simp
theorem KU (wd ht b:Int)(k:Nat)(hk:k<7):KS wd ht b k=one wd ht b (ox k) (oY k) (j5 k) (mC k):=by
 match k,hk with
 | 0,_|1,_|2,_|3,_|4,_|5,_|6,_=>rfl
def rW (p q:Int):Int:=if q<p then p-q else q-p
def xb (a b c:Int):Int :=
 if rW (a+b-c) a<=rW (a+b-c) b/\rW (a+b-c) a<=rW (a+b-c) c then a
 else if rW (a+b-c) b<=rW (a+b-c) c then b else c
def gD (f:Nat)(a b c:Int):Int :=
 match f with
 | 0=>0
 | 1=>a
 | 2=>b
 | 3=>(a+b)/2
 | _=>xb a b c
theorem Ds {a b c m:Int}(ha:0<=a/\a<m)(hb:0<=b/\b<m)(hc:0<=c/\c<m):0<=xb a b c/\xb a b c<m:=by
 unfold xb;split
 ·exact ha
 ·split
  ·exact hb
  ·exact hc
theorem rE (f:Nat){a b c:Int}(ha:0<=a/\a<256)(hb:0<=b/\b<256)(hc:0<=c/\c<256):0<=gD f a b c/\gD f a b c<256:=by
 unfold gD;split
 ·omega
 ·exact ha
 ·exact hb
 ·omega
 ·exact Ds ha hb hc
def cW (g:Nat->Int)(i lead:Nat):Int:=if lead<=i then g (i-lead) else 0
abbrev ai (l:List Int)(i:Nat):Int:=l.getD i 0
def nk (f lead:Nat)(above x:Nat->Int):Nat->List Int
 | 0=>[]
 | i+1=>nk f lead above x i++[(x i+gD f (cW (ai (nk f lead above x i)) i lead) (above i) (cW above i lead))%256]
theorem pR (f lead:Nat)(above x:Nat->Int):∀i,(nk f lead above x i).length=i
 | 0=>rfl
 | i+1=>by rw[nk,aac,pR f lead above x i];rfl
theorem ut {l:List Int}(h:∀y∈l,0<=y/\y<256)(i:Nat):0<=ai l i/\ai l i<256:=by
 unfold ai;rw[aab];rcases aba i l.length with hi|hi
 ·rw[aan hi];exact h _ (abo hi)
 ·rw[aaC hi];exact⟨abU _,by decide⟩
theorem E4 (f lead:Nat)(above x:Nat->Int):∀i,∀y∈nk f lead above x i,0<=y/\y<256
 | 0=>fun y hy=>by cases hy
 | i+1=>fun y hy=>by
  rw[nk]at hy;rcases abA.mp hy with hy|hy
  ·exact E4 f lead above x i y hy
  ·rw[abK]at hy;subst hy;omega
theorem np (f lead:Nat)(above x:Nat->Int)(i j:Nat):0<=ai (nk f lead above x i) j/\ai (nk f lead above x i) j<256:=ut (E4 f lead above x i) j
theorem lH {g:Nat->Int}(h:∀i,0<=g i/\g i<256)(i lead:Nat):0<=cW g i lead/\cW g i lead<256:=by
 unfold cW;split
 ·exact h _
 ·omega
def dk (r:Nat->Int)(dp k:Nat):Int:=if dp=16 then 256*r (2*k)+r (2*k+1) else r (k*dp/8)/2^(8-k*dp%8-dp)%2^dp
theorem iD (n:Nat):(0:Int)<2^n:=Int.pow_pos (by decide)
theorem AV {r:Nat->Int}(h:∀i,0<=r i/\r i<256)(dp k:Nat):0<=dk r dp k:=by
 unfold dk;split
 ·have:=h (2*k);have:=h (2*k+1);omega
 ·exact Int.emod_nonneg _ (by have:=iD dp;omega)
structure Ps where
 c0:Nat
 r0:Nat
 cs:Nat
 rs:Nat
 C:Nat
 R:Nat
def Ps.idx (p:Ps)(W n j k:Nat):Nat:=((p.r0+j*p.rs)*W+(p.c0+k/n*p.cs))*n+k%n
structure Ps.In (p:Ps) (W H:Nat):Prop where
 col:∀i,i<p.C->p.c0+i*p.cs<W
 row:∀j,j<p.R->p.r0+j*p.rs<H
theorem Ps.Du {p:Ps}{W H n j k:Nat}(h:p.In W H)(hj:j<p.R)(hk:k<p.C*n):p.idx W n j k<W*H*n:=by
 have hn:0<n:=by
  rcases Nat.eq_zero_or_pos n with h0|h0
  ·subst h0;omega
  ·exact h0
 have h1:=h.row j hj;have h2:=h.col (k/n) (by rw[Nat.div_lt_iff_lt_mul hn];exact hk);have h3:=acL k hn;unfold Ps.idx;generalize p.r0+j*p.rs=y at *;generalize p.c0+k/n*p.cs=x at *
 have a1:y*W+x+1<=W*H:=by
  calc y*W+x+1<=y*W+W:=by omega
   _=(y+1)*W:=by rw[acr]
   _<=H*W:=abt _ (by omega)
   _=W*H:=abk _ _
 calc (y*W+x)*n+k%n<(y*W+x)*n+n:=by omega
  _=(y*W+x+1)*n:=by rw[acr]
  _<=W*H*n:=abt _ a1
def oZ (p:Ps)(W n j:Nat)(v:Nat->Int)(out:List Int):Nat->List Int
 | 0=>out
 | k+1=>(oZ p W n j v out k).set (p.idx W n j k) (v k)
theorem AW (p:Ps)(W n j:Nat)(v:Nat->Int)(out:List Int):∀k,(oZ p W n j v out k).length=out.length
 | 0=>rfl
 | k+1=>by rw[oZ,abd,AW p W n j v out k]
theorem rF (p:Ps)(W n j:Nat)(v:Nat->Int)(out:List Int)(hv:∀k,0<=v k)(ho:∀y∈out,0<=y):∀k,∀y∈oZ p W n j v out k,0<=y
 | 0=>ho
 | k+1=>fun y hy=>by
  rw[oZ]at hy;rcases List.mem_or_eq_of_mem_set hy with h|h
  ·exact rF p W n j v out hv ho k y h
  ·subst h;exact hv k
abbrev rowLen (C bits:Nat):Nat:=(C*bits+7)/8
structure RS where
 above:Nat->Int
 out:List Int
structure dA where
 W:Nat
 H:Nat
 n:Nat
 dp:Nat
def dA.bits (m:dA):Nat:=m.n*m.dp
def dA.lead (m:dA):Nat:=(m.bits+7)/8
def jG (m:dA)(T:Nat->Nat)(p:Ps)(o j:Nat)(s:RS):Option RS :=
 if 4<T (o+j*(1+rowLen p.C m.bits)) then none
 else some ⟨ai (nk (T (o+j*(1+rowLen p.C m.bits))) m.lead s.above (fun i=>T (o+j*(1+rowLen p.C m.bits)+1+i)) (rowLen p.C m.bits)),
  oZ p m.W m.n j (dk (ai (nk (T (o+j*(1+rowLen p.C m.bits))) m.lead s.above (fun i=>T (o+j*(1+rowLen p.C m.bits)+1+i)) (rowLen p.C m.bits))) m.dp) s.out (p.C*m.n)⟩
def fx (m:dA)(T:Nat->Nat)(p:Ps)(o:Nat)(out:List Int):Nat->Option RS
 | 0=>some ⟨fun _=>0,out⟩
 | j+1=>(fx m T p o out j).bind (jG m T p o j)
theorem lJ (m:dA)(T:Nat->Nat)(p:Ps)(o:Nat)(out:List Int)(ho:∀y∈out,0<=y):∀j s,fx m T p o out j=some s->s.out.length=out.length/\(∀y∈s.out,0<=y)/\∀i,0<=s.above i/\s.above i<256
 | 0,s,h=>by
  injection h with h;subst h;exact⟨rfl,ho,fun _=>⟨abU _,show (0:Int)<256 by decide⟩⟩
 | j+1,s,h=>by
  rw[fx]at h;obtain⟨s0,h0,h1⟩:=Option.bind_eq_some_iff.mp h;obtain⟨a1,a2,a3⟩:=lJ m T p o out ho j s0 h0;unfold jG at h1;split at h1
  ·cases h1
  ·injection h1 with h1;subst h1;refine⟨(AW _ _ _ _ _ _ _).trans a1,rF _ _ _ _ _ _ (fun k=>AV (fun i=>np _ _ _ _ _ i) _ _) a2 _,fun i=>np _ _ _ _ _ i⟩
theorem uu (m:dA)(T:Nat->Nat)(p:Ps)(o:Nat)(out:List Int)(j:Nat)(h:fx m T p o out j=none):∀d,fx m T p o out (j+d)=none
 | 0=>h
 | d+1=>by show (fx m T p o out (j+d)).bind _=none;rw[uu m T p o out j h d];rfl
def cx (m:dA)(k:Nat):Ps:=⟨ox k,oY k,j5 k,mC k,(m.W+(j5 k-1-ox k))/j5 k,(m.H+(mC k-1-oY k))/mC k⟩
def kj (m:dA):Ps:=⟨0,0,1,1,m.W,m.H⟩
theorem uv (s t e i:Nat)(h:s<t)(hi:i<(e+(t-1-s))/t):s+i*t<e:=by
 have h1:i+1<=(e+(t-1-s))/t:=hi;rw[Nat.le_div_iff_mul_le (by omega)]at h1;rw[acr]at h1;omega
theorem yC (m:dA)(k:Nat):(cx m k).In m.W m.H:=⟨fun _ hi=>uv _ _ _ _ (wX k) hi,fun _ hi=>uv _ _ _ _ (wY k) hi⟩
theorem uw (m:dA):(kj m).In m.W m.H:=⟨fun i hi=>by show 0+i*1<m.W;have:i<m.W:=hi;omega,fun i hi=>by show 0+i*1<m.H;have:i<m.H:=hi;omega⟩
def cC (m:dA)(k:Nat):Nat:=(iC m.W m.H m.bits k).toNat
def kn (m:dA)(T:Nat->Nat)(k:Nat)(out:List Int):Option (List Int) :=
 if 0<(cx m k).C/\0<(cx m k).R then (fx m T (cx m k) (cC m k) out (cx m k).R).map RS.out else some out
def eU (m:dA)(T:Nat->Nat):Nat->Option (List Int)
 | 0=>some (List.replicate (m.W*m.H*m.n) 0)
 | k+1=>(eU m T k).bind (kn m T k)
def lO (m:dA)(T:Nat->Nat)(on:Bool):Option (List Int) :=
 if on=true then eU m T 7 else (fx m T (kj m) 0 (List.replicate (m.W*m.H*m.n) 0) m.H).map RS.out
theorem lQ (n:Nat):∀y∈List.replicate n (0:Int),0<=y:=fun y hy=>by rw[List.mem_replicate]at hy;omega
theorem nt (m:dA)(T:Nat->Nat):∀k l,eU m T k=some l->l.length=m.W*m.H*m.n/\∀y∈l,0<=y
 | 0,l,h=>by
  injection h with h;subst h;exact⟨by simp,lQ _⟩
 | k+1,l,h=>by
  rw[eU]at h;obtain⟨l0,h0,h1⟩:=Option.bind_eq_some_iff.mp h;obtain⟨a1,a2⟩:=nt m T k l0 h0;unfold kn at h1;split at h1
  ·obtain⟨s,hs,rfl⟩:=Option.map_eq_some_iff.mp h1;obtain⟨b1,b2,_⟩:=lJ m T _ _ _ a2 _ _ hs;exact⟨b1.trans a1,b2⟩
  ·injection h1 with h1;subst h1;exact⟨a1,a2⟩
theorem rG (m:dA)(T:Nat->Nat)(k:Nat)(h:eU m T k=none):∀d,eU m T (k+d)=none
 | 0=>h
 | d+1=>by show (eU m T (k+d)).bind _=none;rw[rG m T k h d];rfl
theorem xd (m:dA)(T:Nat->Nat)(on:Bool)(l:List Int)(h:lO m T on=some l):l.length=m.W*m.H*m.n/\∀y∈l,0<=y:=by
 unfold lO at h;split at h
 ·exact nt m T 7 l h
 ·obtain⟨s,hs,rfl⟩:=Option.map_eq_some_iff.mp h;obtain⟨b1,b2,_⟩:=lJ m T _ _ _ (lQ _) _ _ hs;exact⟨b1.trans (by simp),b2⟩
def c8 (m:dA)(p:Ps):Nat:=p.R*(1+rowLen p.C m.bits)
theorem E5 (m:dA)(k:Nat)(hk:k<7):KS m.W m.H m.bits k=((if 0<(cx m k).C/\0<(cx m k).R then c8 m (cx m k) else 0:Nat):Int):=by
 rw[KU _ _ _ k hk,one,qM _ _ _ (wX k),qM _ _ _ (wY k)];unfold c8 cx;dsimp only;generalize (m.W+(j5 k-1-ox k))/j5 k=C;generalize (m.H+(mC k-1-oY k))/mC k=R;by_cases h:0<C/\0<R
 ·rw[aaj (by omega),aaj h,ad];push_cast;rfl
 ·rw[aai (by omega),aai h];rfl
theorem nT (m:dA):∀k,k<=7->iC m.W m.H m.bits k=(cC m k:Int)
 | 0,_=>rfl
 | k+1,h=>by
  unfold cC;have h1:=nT m k (by omega);rw[iC,h1,E5 m k (by omega)];omega
theorem ko (m:dA)(k:Nat)(hk:k<7):cC m (k+1)=cC m k+if 0<(cx m k).C/\0<(cx m k).R then c8 m (cx m k) else 0:=by
 have h1:=nT m (k+1) (by omega);rw[iC,nT m k (by omega),E5 m k hk]at h1;omega
theorem ux (m:dA)(k:Nat):∀d,k+d<=7->cC m k<=cC m (k+d)
 | 0,_=>aah _
 | d+1,h=>by
  have h1:=ux m k d (by omega);have h2:=ko m (k+d) (by omega);have e:k+(d+1)=k+d+1:=by omega
  rw[e,h2];omega
theorem nU (m:dA)(on:Bool):raw m.W m.H m.bits on=((if on=true then cC m 7 else c8 m (kj m):Nat):Int):=by
 cases on with
 | true=>exact nT m 7 (aah _)
 | false =>
  show ad m.W m.H m.bits=_;unfold ad c8 kj;dsimp only;push_cast;rfl
theorem row_in (m:dA)(p:Ps)(o j:Nat)(hj:j<p.R){N:Nat}(h:o+c8 m p<=N):o+j*(1+rowLen p.C m.bits)+1+rowLen p.C m.bits<=N:=by
 unfold c8 at h;have:(j+1)*(1+rowLen p.C m.bits)<=p.R*(1+rowLen p.C m.bits):=abt _ hj;rw[acr]at this;omega
theorem E6 (m:dA)(k:Nat)(hk:k<7)(h:0<(cx m k).C/\0<(cx m k).R):cC m k+c8 m (cx m k)<=cC m 7:=by
 have h1:=ko m k hk;rw[aaj h]at h1;have h2:=ux m (k+1) (7-(k+1)) (by omega);rw[show k+1+(7-(k+1))=7 by omega]at h2;omega
def dY (x y:Int):Int:=max (x-y) (y-x)
theorem G5 (a b c:Int):xb a b c=if dY b c<=dY a c/\dY b c<=dY (a+b) (c+c) then a else if dY a c<=dY (a+b) (c+c) then b else c:=by
 have e1:rW (a+b-c) a=dY b c:=by unfold rW dY;split<;>omega
 have e2:rW (a+b-c) b=dY a c:=by unfold rW dY;split<;>omega
 have e3:rW (a+b-c) c=dY (a+b) (c+c):=by unfold rW dY;split<;>omega
 unfold xb;rw[e1,e2,e3]
def oy (n st k:Nat):Nat:=k/n*(st*n)+k%n
theorem pS {n k:Nat}(hn:0<n)(h:k%n+1=n):(k+1)/n=k/n+1/\(k+1)%n=0:=by
 have h0:=ac0 k n;generalize k/n=q at *;generalize k%n=t at *;subst h0;rw[show n*q+t+1=n*(q+1) by rw[Nat.mul_succ];omega];exact⟨Nat.mul_div_cancel_left _ hn,Nat.mul_mod_right _ _⟩
theorem pT {n k:Nat}(hn:0<n)(h:k%n+1<n):(k+1)/n=k/n/\(k+1)%n=k%n+1:=by
 have h0:=ac0 k n;generalize k/n=q at *;generalize k%n=t at *;subst h0;rw[show n*q+t+1=(t+1)+n*q by omega];exact⟨by rw[Nat.add_mul_div_left _ _ hn,Nat.div_eq_of_lt h,aaO],by rw[Nat.add_mul_mod_self_left,abE h]⟩
theorem KV {n k:Nat}(st:Nat)(hn:0<n)(h:k%n+1=n)(hs:1<=st):oy n st (k+1)=oy n st k+1+(st-1)*n:=by
 obtain⟨h1,h2⟩:=pS hn h;unfold oy;rw[h1,h2,acr];obtain⟨s,rfl⟩:∃s,st=s+1:=⟨st-1,by omega⟩
 rw[Nat.add_sub_cancel,acr s n];omega
theorem KW {n k:Nat}(st:Nat)(hn:0<n)(h:k%n+1<n):oy n st (k+1)=oy n st k+1:=by
 obtain⟨h1,h2⟩:=pT hn h;unfold oy;rw[h1,h2];omega
def rX (off n st:Nat)(v:Nat->Int)(out:List Int):Nat->List Int
 | 0=>out
 | k+1=>(rX off n st v out k).set (off+oy n st k) (v k)
theorem nu (off n st:Nat)(v:Nat->Int)(out:List Int):∀k,(rX off n st v out k).length=out.length
 | 0=>rfl
 | k+1=>by rw[rX,abd,nu off n st v out k]
def dO (p:Ps)(W n j:Nat):Nat:=((p.r0+j*p.rs)*W+p.c0)*n
theorem sM (p:Ps)(W n j k:Nat):p.idx W n j k=dO p W n j+oy n p.cs k:=by
 unfold Ps.idx dO oy;rw[<-acy,Nat.add_mul _ (k/n*p.cs) n,abv (k/n),acy]
theorem KX (p:Ps)(W n j:Nat)(v:Nat->Int)(out:List Int):∀k,oZ p W n j v out k=rX (dO p W n j) n p.cs v out k
 | 0=>rfl
 | k+1=>by rw[oZ,rX,KX p W n j v out k,sM]
theorem yD (C n dp k:Nat)(h:dp=1\/dp=2\/dp=4\/dp=8\/dp=16)(hk:k<C*n):(dp=16->2*k+1<rowLen C (n*dp))/\(dp≠16->k*dp/8<rowLen C (n*dp)):=by
 unfold rowLen;rw[<-abv];generalize C*n=N at *;constructor
 ·intro e;subst e;omega
 ·intro e;have h1:(k+1)*dp<=N*dp:=abt _ hk;rw[acr]at h1;generalize k*dp=A at *;generalize N*dp=B at *;omega
def leftV (f lead:Nat)(above r:Nat->Int)(i:Nat):Int:=(r i-gD f (cW r i lead) (above i) (cW above i lead))%256
theorem rH (f lead:Nat)(above r:Nat->Int)(i:Nat):0<=leftV f lead above r i/\leftV f lead above r i<256:=by unfold leftV;omega
theorem G6 (L:List Int)(i j:Nat)(h:j<i):ai (L.take i) j=ai L j:=by
 unfold ai;rw[aab,aab,List.getElem?_take_of_lt h]
theorem E7 (f lead:Nat)(above x:Nat->Int)(L:List Int)(hL:∀y∈L,0<=y/\y<256)(hl:1<=lead)(hx:∀i,i<L.length->x i=leftV f lead above (ai L) i):∀i,i<=L.length->nk f lead above x i=L.take i
 | 0,_=>by rw[nk,List.take_zero]
 | i+1,h=>by
  have ih:=E7 f lead above x L hL hl hx i (by omega);rw[nk,ih,hx i (by omega),List.take_add_one,aan (by omega),Option.toList_some]
  congr 2
  have hp:cW (ai (L.take i)) i lead=cW (ai L) i lead:=by
   unfold cW;split
   ·exact G6 L i _ (by omega)
   ·rfl
  rw[hp];unfold leftV;have hr:=hL _ (abo (show i<L.length by omega))
  have hg:ai L i=L[i]'(by omega):=by
   unfold ai;rw[aab,aan (by omega)];rfl
  rw[hg];generalize gD f _ _ _=t;omega
def bC (v:Nat->Int)(dp size:Nat):Nat->List Int
 | 0=>List.replicate size 0
 | k+1=>if dp=16 then ((bC v dp size k).set (2*k) (v k/256)).set (2*k+1) (v k%256)
  else (bC v dp size k).set (k*dp/8) (ai (bC v dp size k) (k*dp/8)+v k*2^(8-k*dp%8-dp))
theorem i7 (v:Nat->Int)(dp size:Nat):∀k,(bC v dp size k).length=size
 | 0=>by rw[bC,aaE]
 | k+1=>by
  rw[bC];split
  ·rw[abd,abd,i7 v dp size k]
  ·rw[abd,i7 v dp size k]
theorem kr (l:List Int)(i j:Nat)(x:Int)(h:i<l.length):ai (l.set i x) j=if i=j then x else ai l j:=by
 unfold ai;rw[aab,aab,List.getElem?_set];by_cases e:i=j
 ·subst e;rw[aaj rfl,aaj rfl,aaj h];rfl
 ·rw[aai e,aai e]
theorem xg (n j:Nat):ai (List.replicate n 0) j=0:=by
 unfold ai;rw[aab,ach];split<;>rfl
theorem On (B v:Int)(b d:Nat)(h:B%2^(b+d)=0)(hv:0<=v/\v<2^d):(B+v*2^b)/2^b%2^d=v:=by
 have hb:=iD b;rw[Int.add_mul_ediv_right _ _ (by omega)]
 have e:B/2^b%2^d=0:=by
  have h1:=Int.emod_add_mul_ediv B (2^(b+d));rw[h,Int.zero_add,Int.pow_add,Int.mul_assoc]at h1;rw[<-h1,Int.mul_ediv_cancel_left _ (by omega),Int.mul_emod_right]
 rw[Int.add_emod,e,Int.zero_add,Int.emod_emod_of_dvd _ (Int.dvd_refl _)];exact Int.emod_eq_of_lt hv.1 hv.2
theorem AX (B v:Int)(b d e:Nat)(h:B%2^(b+d)=0)(hv:0<=v/\v<2^d)(he:b+d<=e):(B+v*2^b)/2^e=B/2^e:=by
 obtain⟨c,rfl⟩:∃c,e=b+d+c:=⟨e-(b+d),by omega⟩
 have hb:=iD b;have hbd:=iD (b+d);have h1:=Int.emod_add_mul_ediv B (2^(b+d));rw[h,Int.zero_add]at h1
 have h2:0<=v*2^b/\v*2^b<2^(b+d):=by
  refine⟨acv hv.1 (by omega),?_⟩;rw[Nat.add_comm b d,Int.pow_add];exact Int.mul_lt_mul_of_pos_right hv.2 hb
 rw[Int.pow_add,<-Int.ediv_ediv_of_nonneg (by omega),<-Int.ediv_ediv_of_nonneg (by omega)]
 congr 1
 generalize v*2^b=x at *;generalize (2:Int)^(b+d)=P at *;rw[<-h1];rw[Int.add_comm,Int.add_mul_ediv_left _ _ (by omega),Int.ediv_eq_zero_of_lt h2.1 h2.2,Int.mul_ediv_cancel_left _ (by omega),Int.zero_add]
theorem AY (B v:Int)(b d:Nat)(h:B%2^(b+d)=0)(hv:0<=v/\v<2^d)(hbd:b+d<=8)(hB:0<=B/\B<256):0<=B+v*2^b/\B+v*2^b<256:=by
 have hb:=iD b;have h2:0<=v*2^b:=acv hv.1 (by omega);refine⟨by omega,?_⟩;have h3:=AX B v b d 8 h hv hbd;have e:(2:Int)^8=256:=by decide
 rw[e]at h3;omega
theorem KY (B v:Int)(b d:Nat)(h:B%2^(b+d)=0):(B+v*2^b)%2^b=0:=by
 have h1:=Int.emod_add_mul_ediv B (2^(b+d));rw[h,Int.zero_add,Int.pow_add,Int.mul_assoc]at h1;rw[<-h1,<-Int.mul_comm (2^b) v,<-Int.mul_add];exact Int.mul_emod_right _ _
abbrev rI (dp:Nat):Prop:=dp=1\/dp=2\/dp=4\/dp=8\/dp=16
structure Packed (v:Nat->Int) (dp size k:Nat):Prop where
 byte:∀i,0<=ai (bC v dp size k) i/\ai (bC v dp size k) i<256
 low:dp≠16->ai (bC v dp size k) (k*dp/8)%2^(8-k*dp%8)=0
 zero:dp≠16->∀i,k*dp/8<i->ai (bC v dp size k) i=0
 SH:∀j,j<k->dk (ai (bC v dp size k)) dp j=v j
theorem packed (v:Nat->Int)(dp size:Nat)(hd:rI dp)(K:Nat)(hv:∀k,k<K->0<=v k/\v k<2^dp)(hs:∀k,k<K->(dp=16->2*k+1<size)/\(dp≠16->k*dp/8<size)):∀k,k<=K->Packed v dp size k
 | 0,_=>by
  have e:∀i,ai (bC v dp size 0) i=0:=fun i=>by rw[bC];exact xg _ _
  exact⟨fun i=>by rw[e];omega,fun _=>by rw[e];exact Int.zero_emod _,fun _ i _=>e i,fun j hj=>absurd hj (by omega)⟩
 | k+1,hk=>by
  have ih:=packed v dp size hd K hv hs k (by omega);have hv:=hv k (by omega);obtain⟨s1,s2⟩:=hs k (by omega);have hlen:=i7 v dp size k;by_cases h16:dp=16
  ·subst h16;have s1:=s1 rfl
   have e:∀i,ai (bC v 16 size (k+1)) i=if 2*k+1=i then v k%256 else if 2*k=i then v k/256 else ai (bC v 16 size k) i:=by
    intro i;rw[bC,aaj rfl,kr _ _ _ _ (by rw[abd,hlen];exact s1),kr _ _ _ _ (by rw[hlen];omega)]
   have hv2:v k<65536:=by
    have:(2:Int)^16=65536:=by decide
    omega
   refine⟨fun i=>?_,fun h=>absurd rfl h,fun h=>absurd rfl h,fun j hj=>?_⟩
   ·rw[e];have:=ih.byte i;split
    ·omega
    ·split<;>omega
   ·have i2:=ih.SH j;unfold dk at i2 ⊢;rw[aaj rfl]at i2 ⊢;rw[e,e];rcases aba j k with h|h
    ·rw[aai (by omega),aai (by omega),aai (by omega),aai (by omega)];exact i2 h
    ·obtain rfl:j=k:=by omega
     rw[aai (by omega),aaj rfl,aaj rfl];omega
  ·have s2:=s2 h16;have low:=ih.low h16;have zero:=ih.zero h16;have hdp:dp=1\/dp=2\/dp=4\/dp=8:=by unfold rI at hd;omega
   have hfit:k*dp%8+dp<=8:=by rcases hdp with rfl|rfl|rfl|rfl<;>omega
   have e:∀i,ai (bC v dp size (k+1)) i=if k*dp/8=i then ai (bC v dp size k) (k*dp/8)+v k*2^(8-k*dp%8-dp) else ai (bC v dp size k) i:=by
    intro i;rw[bC,aai h16,kr _ _ _ _ (by rw[hlen];exact s2)]
   have lw:ai (bC v dp size k) (k*dp/8)%2^(8-k*dp%8-dp+dp)=0:=by
    rw[show 8-k*dp%8-dp+dp=8-k*dp%8 by omega];exact low
   have bB:=ih.byte (k*dp/8);have nx:(k+1)*dp=k*dp+dp:=acr k dp;refine⟨fun i=>?_,fun _=>?_,fun _ i hi=>?_,fun j hj=>?_⟩
   ·rw[e];split
    ·exact AY _ _ _ _ lw hv (by omega) bB
    ·exact ih.byte i
   ·rw[e,nx];by_cases hb:k*dp%8+dp=8
    ·rw[aai (by omega),zero _ (by omega)];exact Int.zero_emod _
    ·rw[aaj (by omega),show 8-(k*dp+dp)%8=8-k*dp%8-dp by omega];exact KY _ _ _ _ lw
   ·rw[nx]at hi;rw[e,aai (by omega)];exact zero i (by omega)
   ·have i2:=ih.SH j;unfold dk at i2 ⊢;rw[aai h16]at i2 ⊢;rw[e];rcases aba j k with h|h
    ·by_cases hb:k*dp/8=j*dp/8
     ·rw[aaj hb,AX _ _ _ _ _ lw hv (by
       have:(j+1)*dp<=k*dp:=abt _ h;rw[acr]at this;have:j*dp%8+dp<=8:=by rcases hdp with rfl|rfl|rfl|rfl<;>omega
       omega),hb]
      exact i2 h
     ·rw[aai hb];exact i2 h
    ·obtain rfl:j=k:=by omega
     rw[aaj rfl];exact On _ _ _ _ lw hv
structure G7 (D:Nat->Prop) (out S:List Int):Prop where
 len:out.length=S.length
 at_:∀i,D i->out[i]?=S[i]?
theorem G7.put {D:Nat->Prop}{out S:List Int}(h:G7 D out S)(p:Ps)(W n j:Nat)(v:Nat->Int):∀K,(∀k,k<K->S[p.idx W n j k]?=some (v k))->G7 (fun i=>D i\/∃k,k<K/\i=p.idx W n j k) (oZ p W n j v out K) S
 | 0,_=>⟨h.len,fun i hi=>by
   rcases hi with hi|⟨k,hk,_⟩
   ·exact h.at_ i hi
   ·omega⟩
 | K+1,hv=>by
  have ih:=G7.put h p W n j v K (fun k hk=>hv k (by omega));refine⟨by rw[oZ,abd];exact ih.len,fun i hi=>?_⟩;have hK:=hv K (by omega);rw[oZ,List.getElem?_set];by_cases e:p.idx W n j K=i
  ·rw[aaj e];subst e
   have hlt:p.idx W n j K<S.length:=by
    rw[List.getElem?_eq_some_iff]at hK;exact hK.1
   rw[ih.len,aaj hlt,hK]
  ·rw[aai e];refine ih.at_ i ?_;rcases hi with hi|⟨k,hk,he⟩
   ·exact .inl hi
   ·rcases aba k K with h1|h1
    ·exact .inr ⟨k,h1,he⟩
    ·obtain rfl:k=K:=by omega
     exact absurd he.symm e
theorem G7.mono {D E:Nat->Prop}{out S:List Int}(h:G7 D out S)(k:∀i,E i->D i):G7 E out S:=⟨h.len,fun i hi=>h.at_ i (k i hi)⟩
theorem G7.all {D:Nat->Prop}{out S:List Int}(h:G7 D out S)(k:∀i,i<S.length->D i):out=S:=by
 refine List.ext_getElem? fun i=>?_;rcases aba i S.length with hi|hi
 ·exact h.at_ i (k i hi)
 ·rw[aaC hi,aaC (by rw[h.len];exact hi)]
abbrev rY (l:List Int)(i:Nat):Nat:=(ai l i).toNat
def yF (S:List Int)(p:Ps)(W n j k:Nat):Int:=ai S (p.idx W n j k)
def iJ (m:dA)(S:List Int)(p:Ps)(j:Nat):List Int:=bC (yF S p m.W m.n j) m.dp (rowLen p.C m.bits) (p.C*m.n)
def cU (m:dA)(S:List Int)(p:Ps):Nat->List Int
 | 0=>List.replicate (rowLen p.C m.bits) 0
 | j+1=>iJ m S p j
theorem ny (m:dA)(S:List Int)(p:Ps)(j:Nat):(iJ m S p j).length=rowLen p.C m.bits:=i7 _ _ _ _
theorem uy (m:dA)(S:List Int)(p:Ps):∀j,(cU m S p j).length=rowLen p.C m.bits
 | 0=>aaE
 | j+1=>ny m S p j
structure Fits (m:dA) (S:List Int):Prop where
 len:S.length=m.W*m.H*m.n
 dep:rI m.dp
 val:∀y∈S,0<=y/\y<2^m.dp
theorem Fits.get {m:dA}{S:List Int}(h:Fits m S)(i:Nat):0<=ai S i/\ai S i<2^m.dp:=by
 unfold ai;rw[aab];rcases aba i S.length with hi|hi
 ·rw[aan hi];exact h.val _ (abo hi)
 ·rw[aaC hi];exact⟨abU _,iD _⟩
theorem uA {m:dA}{S:List Int}(h:Fits m S)(p:Ps)(j:Nat){k:Nat}(hk:k<=p.C*m.n):Packed (yF S p m.W m.n j) m.dp (rowLen p.C m.bits) k :=
 packed _ _ _ h.dep (p.C*m.n) (fun _ _=>h.get _) (fun k hk=>yD p.C m.n m.dp k h.dep hk) k hk
theorem uB {m:dA}{S:List Int}(h:Fits m S)(p:Ps)(j:Nat):∀y∈iJ m S p j,0<=y/\y<256:=by
 intro y hy;obtain⟨i,hi,rfl⟩:=List.mem_iff_getElem.1 hy;have:=(uA h p j (aah _)).byte i;unfold ai at this;rw[aab]at this;have e:(bC (yF S p m.W m.n j) m.dp (rowLen p.C m.bits) (p.C*m.n))[i]?=some ((iJ m S p j)[i]):=aan hi;rw[e]at this;exact this
theorem Dv {m:dA}{S:List Int}(h:Fits m S)(p:Ps):∀j,∀y∈cU m S p j,0<=y/\y<256
 | 0=>fun y hy=>by
  have:y=0:=(List.mem_replicate.1 hy).2;omega
 | j+1=>uB h p j
structure nz (m:dA) (S:List Int) (p:Ps) (T:Nat->Nat) (o fl j:Nat):Prop where
 few:T (o+j*(1+rowLen p.C m.bits))<=4
 said:fl≠5->T (o+j*(1+rowLen p.C m.bits))=fl
 left:∀i,i<rowLen p.C m.bits->(T (o+j*(1+rowLen p.C m.bits)+1+i):Int)=leftV (T (o+j*(1+rowLen p.C m.bits))) m.lead (ai (cU m S p j)) (ai (iJ m S p j)) i
theorem KZ {m:dA}(h:0<m.bits):1<=m.lead:=by unfold dA.lead;omega
theorem rZ {m:dA}{S:List Int}(hf:Fits m S)(hb:0<m.bits){p:Ps}{T:Nat->Nat}{o fl j:Nat}(h:nz m S p T o fl j)(out:List Int): jG m T p o j ⟨ai (cU m S p j),out⟩=some ⟨ai (iJ m S p j),oZ p m.W m.n j (dk (ai (iJ m S p j)) m.dp) out (p.C*m.n)⟩:=by
 have hu:nk (T (o+j*(1+rowLen p.C m.bits))) m.lead (ai (cU m S p j)) (fun i=>(T (o+j*(1+rowLen p.C m.bits)+1+i):Int)) (rowLen p.C m.bits)=iJ m S p j:=by
  have e:=E7 (T (o+j*(1+rowLen p.C m.bits))) m.lead (ai (cU m S p j)) (fun i=>(T (o+j*(1+rowLen p.C m.bits)+1+i):Int)) (iJ m S p j) (uB hf p j) (KZ hb)
   (fun i hi=>h.left i (by rw[ny]at hi;exact hi)) (rowLen p.C m.bits) (by rw[ny];exact aah _)
  rw[e,<-ny m S p j,List.take_length]
 unfold jG;have h4:=h.few;rw[aai (by omega)];simp only[hu]
theorem aa6 {m:dA}{S:List Int}(hf:Fits m S){p:Ps}(hp:p.In m.W m.H){j k:Nat}(hj:j<p.R)(hk:k<p.C*m.n):S[p.idx m.W m.n j k]?=some (yF S p m.W m.n j k):=by
 have hlt:=Ps.Du (n:=m.n) hp hj hk;rw[<-hf.len]at hlt;unfold yF ai;rw[aab,aan hlt];rfl
abbrev Dw (p:Ps)(W n J:Nat)(i:Nat):Prop:=∃j k,j<J/\k<p.C*n/\i=p.idx W n j k
theorem jX {m:dA}{S:List Int}(hf:Fits m S)(hb:0<m.bits){p:Ps}(hp:p.In m.W m.H){T:Nat->Nat}{o fl:Nat}{D:Nat->Prop}{out:List Int}(ho:G7 D out S):∀J,J<=p.R->(∀j,j<J->nz m S p T o fl j) -> ∃out',fx m T p o out J=some ⟨ai (cU m S p J),out'⟩/\G7 (fun i=>D i\/Dw p m.W m.n J i) out' S
 | 0,_,_=>by
  refine⟨out,?_,ho.len,fun i hi=>?_⟩
  ·rw[fx]
   congr 2
   funext i
   exact (xg _ _).symm
  ·rcases hi with hi|⟨j,k,hj,_⟩
   ·exact ho.at_ i hi
   ·omega
 | J+1,hJ,h=>by
  obtain⟨o1,e1,c1⟩:=jX hf hb hp ho J (by omega) (fun j hj=>h j (by omega));refine⟨_,by rw[fx,e1,Option.bind_some,rZ hf hb (h J (by omega))];rfl,?_⟩
  have hv:∀k,k<p.C*m.n->S[p.idx m.W m.n J k]?=some (dk (ai (iJ m S p J)) m.dp k):=by
   intro k hk;rw[aa6 hf hp (by omega) hk]
   congr 1
   exact ((uA hf p J (aah _)).SH k hk).symm
  refine (c1.put p m.W m.n J _ _ hv).mono fun i hi=>?_;rcases hi with hi|⟨j,k,hj,hk,he⟩
  ·exact .inl (.inl hi)
  ·rcases aba j J with h1|h1
   ·exact .inl (.inr ⟨j,k,h1,hk,he⟩)
   ·obtain rfl:j=J:=by omega
    exact .inr ⟨k,hk,he⟩
abbrev nA (m:dA)(S:List Int)(T:Nat->Nat)(fl k:Nat):Prop:=0<(cx m k).C->0<(cx m k).R->∀j,j<(cx m k).R->nz m S (cx m k) T (cC m k) fl j
abbrev AZ (m:dA)(K:Nat)(i:Nat):Prop:=∃k,k<K/\0<(cx m k).C/\0<(cx m k).R/\Dw (cx m k) m.W m.n (cx m k).R i
theorem xh {m:dA}{S:List Int}(hf:Fits m S):G7 (fun _=>False) (List.replicate (m.W*m.H*m.n) 0) S:=⟨by rw[aaE,hf.len],fun _ h=>h.elim⟩
theorem nB {m:dA}{S:List Int}(hf:Fits m S)(hb:0<m.bits){T:Nat->Nat}{fl:Nat}:∀K,K<=7->(∀k,k<K->nA m S T fl k)->∃out,eU m T K=some out/\G7 (AZ m K) out S
 | 0,_,_=>⟨_,rfl,(xh hf).mono fun i ⟨k,hk,_⟩=>absurd hk (by omega)⟩
 | K+1,hK,h=>by
  obtain⟨o1,e1,c1⟩:=nB hf hb K (by omega) (fun k hk=>h k (by omega));rw[eU,e1,Option.bind_some];unfold kn;by_cases hc:0<(cx m K).C/\0<(cx m K).R
  ·obtain⟨o2,e2,c2⟩:=jX hf hb (yC m K) c1 _ (aah _) (h K (by omega) hc.1 hc.2);rw[aaj hc,e2];refine⟨o2,rfl,c2.mono fun i ⟨k,hk,a,b,r⟩=>?_⟩;rcases aba k K with h1|h1
   ·exact .inl ⟨k,h1,a,b,r⟩
   ·obtain rfl:k=K:=by omega
    exact .inr r
  ·rw[aai hc];refine⟨o1,rfl,c1.mono fun i ⟨k,hk,a,b,r⟩=>?_⟩;rcases aba k K with h1|h1
   ·exact⟨k,h1,a,b,r⟩
   ·obtain rfl:k=K:=by omega
    exact absurd ⟨a,b⟩ hc
theorem G8 (x y:Nat):∃k,k<7/\x%j5 k=ox k/\y%mC k=oY k:=by
 have hx:x%8<8:=acL _ (by decide);have hy:y%8<8:=acL _ (by decide);have key:∀a<8,∀b<8,∃k,k<7/\a%j5 k=ox k/\b%mC k=oY k:=by decide
 obtain⟨k,hk,h1,h2⟩:=key _ hx _ hy;refine⟨k,hk,?_,?_⟩
 ·have:∀k<7,8%j5 k=0:=by decide
  rw[<-h1,Nat.mod_mod_of_dvd _ (Nat.dvd_of_mod_eq_zero (this k hk))]
 ·have:∀k<7,8%mC k=0:=by decide
  rw[<-h2,Nat.mod_mod_of_dvd _ (Nat.dvd_of_mod_eq_zero (this k hk))]
theorem E8 (s t e x:Nat)(h:s<t)(hx:x<e)(hm:x%t=s):x/t<(e+(t-1-s))/t:=by
 have h1:=ac0 x t;rw[hm]at h1;rw[Nat.lt_div_iff_mul_lt (by omega)];have:x/t*t=t*(x/t):=abk _ _;omega
theorem K0 (n i W:Nat):i=(i/n/W*W+i/n%W)*n+i%n:=by
 have h1:=ac0 i n;have h2:=ac0 (i/n) W;rw[abk (i/n/W) W,h2,abk];exact h1.symm
theorem K8 {p:Ps}{W n i:Nat}(hn:0<n)(r c:Nat)(hr:p.r0+r*p.rs=i/n/W)(hc:p.c0+c*p.cs=i/n%W):i=p.idx W n r (c*n+i%n):=by
 unfold Ps.idx;rw[abk c n,Nat.add_comm (n*c),Nat.add_mul_div_left _ _ hn,Nat.div_eq_of_lt (acL _ hn),aaO,Nat.add_mul_mod_self_left,Nat.mod_mod,hr,hc];exact K0 n i W
theorem E9 {W H n i:Nat}(hi:i<W*H*n):i/n/W<H:=by
 rw[Nat.div_div_eq_div_mul];refine Nat.div_lt_of_lt_mul ?_;rw[abk n W,abv,abk n H,<-abv];exact hi
theorem Lc {n C c i:Nat}(hn:0<n)(h:c<C):c*n+i%n<C*n:=by
 have h1:(c+1)*n<=C*n:=abt _ h;rw[acr]at h1;have:=acL i hn;omega
theorem xj {s t x:Nat}(hm:x%t=s):s+x/t*t=x:=by
 have h1:=ac0 x t;rw[hm,abk]at h1;omega
theorem all_in {m:dA}(hn:0<m.n)(hW:0<m.W){i:Nat}(hi:i<m.W*m.H*m.n):AZ m 7 i:=by
 obtain⟨k,hk,h1,h2⟩:=G8 (i/m.n%m.W) (i/m.n/m.W);have hC:i/m.n%m.W/j5 k<(cx m k).C:=E8 _ _ _ _ (wX k) (acL _ hW) h1;have hR:i/m.n/m.W/mC k<(cx m k).R:=E8 _ _ _ _ (wY k) (E9 hi) h2;exact⟨k,hk,Nat.lt_of_le_of_lt (aaq _) hC,Nat.lt_of_le_of_lt (aaq _) hR,_,_,hR,Lc hn hC,K8 hn _ _ (xj h2) (xj h1)⟩
theorem Oo {m:dA}(hn:0<m.n)(hW:0<m.W){i:Nat}(hi:i<m.W*m.H*m.n):Dw (kj m) m.W m.n m.H i :=
 ⟨i/m.n/m.W,i/m.n%m.W*m.n+i%m.n,E9 hi,Lc (C:=m.W) hn (acL _ hW),K8 (p:=kj m) hn (i/m.n/m.W) (i/m.n%m.W) (by show 0+_*1=_;omega) (by show 0+_*1=_;omega)⟩
def Written (m:dA)(S:List Int)(T:Nat->Nat)(fl:Nat)(on:Bool):Prop:=if on=true then ∀k,k<7->nA m S T fl k else ∀j,j<m.H->nz m S (kj m) T 0 fl j
theorem yG {m:dA}{S:List Int}(hf:Fits m S)(hn:0<m.n)(hd:0<m.dp)(hW:0<m.W){T:Nat->Nat}{fl:Nat}{on:Bool}(h:Written m S T fl on):lO m T on=some S:=by
 have hb:0<m.bits:=Nat.mul_pos hn hd;unfold Written at h;unfold lO;split
 ·rename_i e;rw[aaj e]at h;obtain⟨o,e1,c⟩:=nB hf hb 7 (aah _) h;rw[e1,c.all fun i hi=>all_in hn hW (by rw[<-hf.len];exact hi)]
 ·rename_i e;rw[aai e]at h;obtain⟨o,e1,c⟩:=jX hf hb (uw m) (xh hf) m.H (aah _) h;rw[e1,Option.map_some,c.all fun i hi=>.inr (Oo hn hW (by rw[<-hf.len];exact hi))]
theorem nz.congr {m:dA}{S:List Int}{p:Ps}{T U:Nat->Nat}{o fl j:Nat}(h:nz m S p T o fl j)(e:∀i,i<o+(j+1)*(1+rowLen p.C m.bits)->U i=T i):nz m S p U o fl j:=by
 rw[acr]at e;have e0:=e (o+j*(1+rowLen p.C m.bits)) (by omega);refine⟨by rw[e0];exact h.few,fun hne=>by rw[e0];exact h.said hne,fun i hi=>?_⟩;rw[e0,e _ (by omega)];exact h.left i hi
end Go.Proofs.YtmfijackgekioabGreatDoor.Pm
