import Derived.Test.YtmfijackgekioaaGreatDoorQA
namespace Go.Proofs.YtmfijackgekioaaGreatDoor.Pm
def chan (k d:Int):Int :=
 if k=0/\(d=1\/d=2\/d=4\/d=8\/d=16) then 1
 else if k=2/\(d=8\/d=16) then 3
 else if k=3/\(d=1\/d=2\/d=4\/d=8) then 1
 else if k=4/\(d=8\/d=16) then 2
 else if k=6/\(d=8\/d=16) then 4
 else 0
theorem cm (k d:Int):0<=chan k d/\chan k d<=4:=by
 unfold chan;repeat' split
 all_goals omega
theorem bp (k d:Int)(h:chan k d≠0):1<=d/\d<=16:=by
 unfold chan at h;repeat' split at h
 all_goals omega
def et (n:Int):Bool:=decide (1<=n)&&decide (n<=5000)
theorem dQ (n:Int):et n=true↔1<=n/\n<=5000:=by simp[et]
def pass (c r:Int):Int :=
 if r%2=1 then 7 else if c%2=1 then 6 else if r%4=2 then 5 else if c%4=2 then 4 else if r%8=4 then 3 else if c%8=4 then 2 else 1
def fQ (zs:List Int)(e:Int):Bool:=zs.all fun n=>decide (0<=n)&&decide (n<e)
theorem nt (zs:List Int)(k:Nat)(h:k<zs.length)(e:Int):fQ (zs.take (k+1)) e=(fQ (zs.take k) e&&(decide (0<=zs[k])&&decide (zs[k]<e))):=by
 rw[aaB h,fQ,List.all_append];simp[fQ]
theorem iw (zs:List Int)(k:Nat)(h:k<zs.length)(e:Int)(hx:¬(0<=zs[k]/\zs[k]<e)):fQ zs e=false:=by
 unfold fQ;rw[List.all_eq_false];exact⟨zs[k],aaR h,by simpa using hx⟩
def iN (kd D:Int)(pz:List Int):Bool :=
 if kd=3 then decide ((pz.length:Int)%3=0)&&decide (1<=(pz.length:Int)/3)&&decide ((pz.length:Int)/3<=D)&&fQ pz 256
 else decide ((pz.length:Int)=0)
def two (d:Int):Int:=2^d.toNat
theorem gk (d:Int)(h:1<=d/\d<=16):2<=two d/\two d<=65536:=by
 obtain⟨n,rfl⟩:=aaO (a:=d) (by omega);unfold two;simp only[aa5];have h1:(2:Nat)^1<=2^n:=aa2 (by omega) (by omega);have h2:(2:Nat)^n<=2^16:=aa2 (by omega) (by omega);have e:((2:Int)^n)=((2^n:Nat):Int):=by simp
 rw[e];omega
def mo (wd ht kd c D:Int)(pl:Nat)(sz:List Int):Bool :=
 decide ((sz.length:Int)=wd*ht*c)&&(if kd=3 then fQ sz ((pl:Int)/3) else fQ sz D)
theorem Tt (wd ht:Int)(h1:1<=wd/\wd<=5000)(h2:1<=ht/\ht<=5000):1<=wd*ht/\wd*ht<=25000000:=by
 constructor
 ·have:1*1<=wd*ht:=ab5 h1.1 h2.1 (by omega) (by omega);omega
 ·have:wd*ht<=5000*5000:=ab5 h1.2 h2.2 (by omega) (by omega);omega
theorem NV (a c:Int)(h1:0<=a/\a<=25000000)(h2:0<=c/\c<=4):0<=a*c/\a*c<=100000000:=by
 constructor
 ·exact abW h1.1 h2.1
 ·have:a*c<=25000000*4:=ab5 h1.2 h2.2 (by omega) (by omega);omega
def ad (c r b:Int):Int:=r*(1+(c*b+7)/8)
theorem tu (c b:Int)(hc:0<=c/\c<=5000)(hb:0<=b/\b<=64):0<=c*b/\c*b<=320000:=by
 constructor
 ·exact abW hc.1 hb.1
 ·have:c*b<=5000*64:=ab5 hc.2 hb.2 (by omega) (by omega);omega
theorem lE (c r b:Int)(hc:0<=c/\c<=5000)(hr:0<=r/\r<=5000)(hb:0<=b/\b<=64):0<=ad c r b/\ad c r b<=200010000:=by
 have:=tu c b hc hb;unfold ad;constructor
 ·exact abW hr.1 (by omega)
 ·have:r*(1+(c*b+7)/8)<=5000*40002:=ab5 hr.2 (by omega) (by omega) (by omega);omega
def cnt (s t e:Int):Int:=(e-s+t-1)/t
def one (wd ht b c0 r0 cs rs:Int):Int:=if 0<cnt c0 cs wd/\0<cnt r0 rs ht then ad (cnt c0 cs wd) (cnt r0 rs ht) b else 0
def Du (wd ht b:Int):Nat->Int
 | 0=>one wd ht b 0 0 8 8
 | 1=>one wd ht b 4 0 8 8
 | 2=>one wd ht b 0 4 4 8
 | 3=>one wd ht b 2 0 4 4
 | 4=>one wd ht b 0 2 2 4
 | 5=>one wd ht b 1 0 2 2
 | _=>one wd ht b 0 1 1 2
def fN (wd ht b:Int):Nat->Int
 | 0=>0
 | k+1=>fN wd ht b k+Du wd ht b k
def raw (wd ht b:Int)(ps:Bool):Int:=if ps then fN wd ht b 7 else ad wd ht b
theorem vP (wd ht b c0 r0 cs rs:Int)(h1:0<=cnt c0 cs wd/\cnt c0 cs wd<=5000)(h2:0<=cnt r0 rs ht/\cnt r0 rs ht<=5000)(hb:0<=b/\b<=64): 0<=one wd ht b c0 r0 cs rs/\one wd ht b c0 r0 cs rs<=200010000:=by
 unfold one;split
 ·exact lE _ _ _ h1 h2 hb
 ·omega
structure NW (wd ht b:Int) (k:Nat) (c0 r0 cs rs:Int):Prop where
 hc0:0<=c0/\c0<=8
 hr0:0<=r0/\r0<=8
 hcs:1<=cs/\cs<=8
 hrs:1<=rs/\rs<=8
 pc:0<=wd-c0+cs-1
 pr:0<=ht-r0+rs-1
 bc:0<=cnt c0 cs wd/\cnt c0 cs wd<=5000
 br:0<=cnt r0 rs ht/\cnt r0 rs ht<=5000
 next:fN wd ht b (k+1)=fN wd ht b k+one wd ht b c0 r0 cs rs
theorem XQ {wd ht:Int}(b:Int)(hw:1<=wd/\wd<=5000)(hh:1<=ht/\ht<=5000):NW wd ht b 0 0 0 8 8:=by
 constructor<;>(try unfold cnt)<;>first|omega|rfl
theorem XR {wd ht:Int}(b:Int)(hw:1<=wd/\wd<=5000)(hh:1<=ht/\ht<=5000):NW wd ht b 1 4 0 8 8:=by
 constructor<;>(try unfold cnt)<;>first|omega|rfl
theorem XS {wd ht:Int}(b:Int)(hw:1<=wd/\wd<=5000)(hh:1<=ht/\ht<=5000):NW wd ht b 2 0 4 4 8:=by
 constructor<;>(try unfold cnt)<;>first|omega|rfl
theorem XT {wd ht:Int}(b:Int)(hw:1<=wd/\wd<=5000)(hh:1<=ht/\ht<=5000):NW wd ht b 3 2 0 4 4:=by
 constructor<;>(try unfold cnt)<;>first|omega|rfl
theorem XW {wd ht:Int}(b:Int)(hw:1<=wd/\wd<=5000)(hh:1<=ht/\ht<=5000):NW wd ht b 4 0 2 2 4:=by
 constructor<;>(try unfold cnt)<;>first|omega|rfl
theorem XX {wd ht:Int}(b:Int)(hw:1<=wd/\wd<=5000)(hh:1<=ht/\ht<=5000):NW wd ht b 5 1 0 2 2:=by
 constructor<;>(try unfold cnt)<;>first|omega|rfl
theorem XY {wd ht:Int}(b:Int)(hw:1<=wd/\wd<=5000)(hh:1<=ht/\ht<=5000):NW wd ht b 6 0 1 1 2:=by
 constructor<;>(try unfold cnt)<;>first|omega|rfl
theorem mq (kd dp:Int)(h:chan kd dp≠0):0<=chan kd dp*dp/\chan kd dp*dp<=64:=by
 have h1:=cm kd dp;have h2:=bp kd dp h;constructor
 ·exact abW h1.1 (by omega)
 ·have:chan kd dp*dp<=4*16:=ab5 h1.2 h2.2 (by omega) (by omega);omega
def cq (p:Int)(c:Nat):Nat->Bool
 | 0=>p==0
 | r+1=>cq p c r||(pass c r==p)
def ct (p:Int)(r:Nat):Nat->Bool
 | 0=>p==0
 | c+1=>ct p r c||(pass c r==p)
def nC (p:Int)(m:Nat):Nat->Nat
 | 0=>0
 | c+1=>nC p m c+if cq p c m then 1 else 0
def nR (p:Int)(m:Nat):Nat->Nat
 | 0=>0
 | r+1=>nR p m r+if ct p r m then 1 else 0
theorem vQ (p:Int)(m c:Nat):nC p m c<=c:=by
 induction c with
 | zero=>exact aad _
 | succ c ih=>simp only[nC];split<;>omega
theorem vR (p:Int)(m c:Nat):nR p m c<=c:=by
 induction c with
 | zero=>exact aad _
 | succ c ih=>simp only[nR];split<;>omega
def pn (on:Bool):Nat:=if on then 7 else 1
def pq (on:Bool)(k:Nat):Int:=if on then (k:Int)+1 else 0
def gm (W H:Nat)(ch dp p:Int):Int :=
 if 0<nC p (min 8 H) W then (nR p (min 8 W) H:Int)*(1+((nC p (min 8 H) W:Int)*ch*dp+7)/8) else 0
def kX (W H:Nat)(ch dp:Int)(on:Bool):Nat->Int
 | 0=>0
 | k+1=>kX W H ch dp on k+gm W H ch dp (pq on k)
theorem tv (c r:Nat)(ch dp:Int)(hc:c<=5000)(hr:r<=5000)(h1:0<=ch/\ch<=4)(h2:1<=dp/\dp<=16): (0<=(c:Int)*ch/\(c:Int)*ch<=20000)/\(0<=(c:Int)*ch*dp/\(c:Int)*ch*dp<=320000) /\ (0<=(r:Int)*(1+((c:Int)*ch*dp+7)/8)/\(r:Int)*(1+((c:Int)*ch*dp+7)/8)<=200010000):=by
 have a1:0<=(c:Int)*ch:=abW (by omega) h1.1;have a2:(c:Int)*ch<=5000*4:=ab5 (by omega) h1.2 h1.1 (by omega);have b1:0<=(c:Int)*ch*dp:=abW a1 (by omega);have b2:(c:Int)*ch*dp<=20000*16:=ab5 (by omega) h2.2 (by omega) (by omega);have d1:0<=(r:Int)*(1+((c:Int)*ch*dp+7)/8):=abW (by omega) (by omega);have d2:(r:Int)*(1+((c:Int)*ch*dp+7)/8)<=5000*40002:=ab5 (by omega) (by omega) (by omega) (by omega);omega
theorem zE (W H:Nat)(ch dp:Int)(on:Bool)(hW:W<=5000)(hH:H<=5000)(h1:0<=ch/\ch<=4)(h2:1<=dp/\dp<=16)(k:Nat): 0<=kX W H ch dp on k/\kX W H ch dp on k<=200010000*k:=by
 induction k with
 | zero=>simp[kX]
 | succ k ih =>
  have hb:=(tv (nC (pq on k) (min 8 H) W) (nR (pq on k) (min 8 W) H) ch dp (by have:=vQ (pq on k) (min 8 H) W;omega) (by have:=vR (pq on k) (min 8 W) H;omega) h1 h2).2.2;simp only[kX]
  have ho:0<=gm W H ch dp (pq on k)/\gm W H ch dp (pq on k)<=200010000:=by
   unfold gm;split
   ·exact hb
   ·omega
  omega
theorem o8 (c r:Nat):pass c r=pass ((c%8:Nat):Int) ((r%8:Nat):Int):=by
 unfold pass;have a1:((c%8:Nat):Int)%2=(c:Int)%2:=by omega
 have a2:((c%8:Nat):Int)%4=(c:Int)%4:=by omega
 have a3:((c%8:Nat):Int)%8=(c:Int)%8:=by omega
 have b1:((r%8:Nat):Int)%2=(r:Int)%2:=by omega
 have b2:((r%8:Nat):Int)%4=(r:Int)%4:=by omega
 have b3:((r%8:Nat):Int)%8=(r:Int)%8:=by omega
 rw[a1,a2,a3,b1,b2,b3]
theorem BJ (p:Int)(c m:Nat):cq p c m=cq p (c%8) m:=by
 induction m with
 | zero=>rfl
 | succ m ih=>simp only[cq];rw[ih,o8 c m,o8 (c%8) m,Nat.mod_mod]
theorem BK (p:Int)(r m:Nat):ct p r m=ct p (r%8) m:=by
 induction m with
 | zero=>rfl
 | succ m ih=>simp only[ct];rw[ih,o8 m r,o8 m (r%8),Nat.mod_mod]
def kD:Nat->Nat|1=>4|3=>2|5=>1|_=>0
def jD:Nat->Nat|0=>8|1=>8|2=>4|3=>4|4=>2|5=>2|_=>1
def jz:Nat->Nat|2=>4|4=>2|6=>1|_=>0
def jE:Nat->Nat|0=>8|1=>8|2=>8|3=>4|4=>4|5=>2|_=>2
theorem xF:∀k:Nat,k<7->∀c:Nat,c<8->∀m:Nat,m<=8->cq ((k:Int)+1) c m=(decide (jz k<m)&&decide (c%jD k=kD k)):=by decide
theorem xG:∀k:Nat,k<7->∀r:Nat,r<8->∀m:Nat,m<=8->ct ((k:Int)+1) r m=(decide (kD k<m)&&decide (r%jE k=jz k)):=by decide
theorem tA (k:Nat)(hk:k<7)(c m:Nat)(hm:m<=8):cq ((k:Int)+1) c m=(decide (jz k<m)&&decide (c%jD k=kD k)):=by
 rw[BJ,xF k hk (c%8) (acj _ (by omega)) m hm]
 have e:c%8%jD k=c%jD k:=by
  match k,hk with
  | 0,_|1,_|2,_|3,_|4,_|5,_|6,_=>simp only[jD];omega
 rw[e]
theorem tB (k:Nat)(hk:k<7)(r m:Nat)(hm:m<=8):ct ((k:Int)+1) r m=(decide (kD k<m)&&decide (r%jE k=jz k)):=by
 rw[BK,xG k hk (r%8) (acj _ (by omega)) m hm]
 have e:r%8%jE k=r%jE k:=by
  match k,hk with
  | 0,_|1,_|2,_|3,_|4,_|5,_|6,_=>simp only[jE];omega
 rw[e]
theorem kE (s c0 e:Nat)(hs:c0<s):(e+1+(s-1-c0))/s=(e+(s-1-c0))/s+if e%s=c0 then 1 else 0:=by
 have h:=Nat.div_add_mod e s;have hm:=acj e (show 0<s by omega);generalize e/s=q at h;generalize e%s=t at h hm;subst h
 rw[show s*q+t+1+(s-1-c0)=(t+1+(s-1-c0))+s*q by omega,show s*q+t+(s-1-c0)=(t+(s-1-c0))+s*q by omega,
  Nat.add_mul_div_left _ _ (by omega),Nat.add_mul_div_left _ _ (by omega)]
 by_cases h0:t=c0
 ·subst h0;rw[aaf rfl,show t+1+(s-1-t)=s by omega,Nat.div_self (by omega),abm (by omega)];omega
 ·rw[aae h0];by_cases h1:t<c0
  ·rw[abm (by omega),abm (by omega)];rfl
  ·rw[show t+1+(s-1-c0)=(t-c0)+s by omega,show t+(s-1-c0)=(t-c0-1)+s by omega,Nat.add_div_right _ (by omega),Nat.add_div_right _ (by omega),
    abm (by omega),abm (by omega)]
   rfl
theorem mt:∀k:Nat,kD k<jD k
 | 0|1|2|3|4|5|6=>by decide
 | n+7=>by show 0<1;omega
theorem my:∀k:Nat,jz k<jE k
 | 0|1|2|3|4|5|6=>by decide
 | n+7=>by show 0<2;omega
theorem I5 (k:Nat)(hk:k<7)(m:Nat)(hm:m<=8)(c:Nat):nC ((k:Int)+1) m c=if jz k<m then (c+(jD k-1-kD k))/jD k else 0:=by
 induction c with
 | zero =>
  have:=mt k;rw[aaF,abm (by omega)];simp[nC]
 | succ c ih =>
  simp only[nC];rw[ih,tA k hk c m hm,kE _ _ _ (mt k)];by_cases h:jz k<m<;>simp[h]
theorem Tv (k:Nat)(hk:k<7)(m:Nat)(hm:m<=8)(c:Nat):nR ((k:Int)+1) m c=if kD k<m then (c+(jE k-1-jz k))/jE k else 0:=by
 induction c with
 | zero =>
  have:=my k;rw[aaF,abm (by omega)];simp[nR]
 | succ c ih =>
  simp only[nR];rw[ih,tB k hk c m hm,kE _ _ _ (my k)];by_cases h:kD k<m<;>simp[h]
theorem qa (s t e:Nat)(h:s<t):cnt s t e=(((e+(t-1-s))/t:Nat):Int):=by
 unfold cnt;rw[show (e:Int)-s+t-1=((e+(t-1-s):Nat):Int) by omega];simp
theorem zF (wd ht b:Int)(k:Nat)(hk:k<7):Du wd ht b k=one wd ht b (kD k) (jz k) (jD k) (jE k):=by
 match k,hk with
 | 0,_|1,_|2,_|3,_|4,_|5,_|6,_=>rfl
theorem rE (e s t:Nat)(h:s<t):0<(e+(t-1-s))/t↔s<e:=by
 rw[Nat.div_pos_iff];omega
theorem Fm (W H:Nat)(ch dp:Int)(k:Nat)(hk:k<7):gm W H ch dp ((k:Int)+1)=Du W H (ch*dp) k:=by
 have c1:=mt k;have c2:=my k;have p1:=rE W (kD k) (jD k) c1;have p2:=rE H (jz k) (jE k) c2;have m1:kD k<=4:=by unfold kD;split<;>omega
 have m2:jz k<=4:=by unfold jz;split<;>omega
 rw[zF _ _ _ k hk,one,gm,I5 k hk _ (by omega),Tv k hk _ (by omega),qa _ _ _ c1,qa _ _ _ c2];generalize (W+(jD k-1-kD k))/jD k=C at *;generalize (H+(jE k-1-jz k))/jE k=R at *;by_cases h1:jz k<H
 ·rw[aaf (show jz k<min 8 H by omega)];by_cases h2:kD k<W
  ·rw[aaf (show kD k<min 8 W by omega),aaf (show 0<C by omega),aaf (show 0<(C:Int)/\0<(R:Int) by omega),ad,Int.mul_assoc]
  ·rw[aae (show ¬0<C by omega),aae (show ¬(0<(C:Int)/\0<(R:Int)) by omega)]
 ·rw[aae (show ¬jz k<min 8 H by omega),aae (by omega),aae (show ¬(0<(C:Int)/\0<(R:Int)) by omega)]
theorem I6 (W H:Nat)(ch dp:Int)(k:Nat)(hk:k<=7):kX W H ch dp true k=fN W H (ch*dp) k:=by
 induction k with
 | zero=>rfl
 | succ k ih =>
  simp only[kX,fN];rw[ih (by omega),show pq true k=(k:Int)+1 from rfl,Fm W H ch dp k (by omega)]
theorem xH (m c:Nat):nC 0 m c=c:=by
 have h:∀c m,cq 0 c m=true:=by
  intro c m
  induction m with
  | zero=>rfl
  | succ m ih=>simp[cq,ih]
 induction c with
 | zero=>rfl
 | succ c ih=>simp[nC,ih,h]
theorem Ml (m c:Nat):nR 0 m c=c:=by
 have h:∀c m,ct 0 c m=true:=by
  intro c m
  induction m with
  | zero=>rfl
  | succ m ih=>simp[ct,ih]
 induction c with
 | zero=>rfl
 | succ c ih=>simp[nR,ih,h]
theorem Dv (W H:Nat)(hW:1<=W)(ch dp:Int)(on:Bool):kX W H ch dp on (pn on)=raw W H (ch*dp) on:=by
 cases on
 ·show 0+gm W H ch dp 0=ad W H (ch*dp);rw[gm,xH,Ml,aaf (by omega),ad,Int.mul_assoc,Int.zero_add]
 ·exact I6 W H ch dp 7 (by omega)
def gS (p q:Int):Int:=if q<p then p-q else q-p
def qN (a b c:Int):Int :=
 if gS (a+b-c) a<=gS (a+b-c) b/\gS (a+b-c) a<=gS (a+b-c) c then a
 else if gS (a+b-c) b<=gS (a+b-c) c then b else c
def dG (f:Nat)(a b c:Int):Int :=
 match f with
 | 0=>0
 | 1=>a
 | 2=>b
 | 3=>(a+b)/2
 | _=>qN a b c
theorem BL {a b c m:Int}(ha:0<=a/\a<m)(hb:0<=b/\b<m)(hc:0<=c/\c<m):0<=qN a b c/\qN a b c<m:=by
 unfold qN;split
 ·exact ha
 ·split
  ·exact hb
  ·exact hc
theorem qO (f:Nat){a b c:Int}(ha:0<=a/\a<256)(hb:0<=b/\b<256)(hc:0<=c/\c<256):0<=dG f a b c/\dG f a b c<256:=by
 unfold dG;split
 ·omega
 ·exact ha
 ·exact hb
 ·omega
 ·exact BL ha hb hc
def cS (g:Nat->Int)(i lead:Nat):Int:=if lead<=i then g (i-lead) else 0
abbrev ap (l:List Int)(i:Nat):Int:=l.getD i 0
def lq (f lead:Nat)(above x:Nat->Int):Nat->List Int
 | 0=>[]
 | i+1=>lq f lead above x i++[(x i+dG f (cS (ap (lq f lead above x i)) i lead) (above i) (cS above i lead))%256]
theorem Dw (f lead:Nat)(above x:Nat->Int):∀i,(lq f lead above x i).length=i
 | 0=>rfl
 | i+1=>by rw[lq,aac,Dw f lead above x i];rfl
theorem tC {l:List Int}(h:∀y∈l,0<=y/\y<256)(i:Nat):0<=ap l i/\ap l i<256:=by
 unfold ap;rw[aaa];rcases aaL i l.length with hi|hi
 ·rw[aai hi];exact h _ (aaR hi)
 ·rw[aas hi];exact⟨abj _,by decide⟩
theorem Dx (f lead:Nat)(above x:Nat->Int):∀i,∀y∈lq f lead above x i,0<=y/\y<256
 | 0=>fun y hy=>by cases hy
 | i+1=>fun y hy=>by
  rw[lq]at hy;rcases aa8.mp hy with hy|hy
  ·exact Dx f lead above x i y hy
  ·rw[abf]at hy;subst hy;omega
theorem o9 (f lead:Nat)(above x:Nat->Int)(i j:Nat):0<=ap (lq f lead above x i) j/\ap (lq f lead above x i) j<256:=tC (Dx f lead above x i) j
theorem kF {g:Nat->Int}(h:∀i,0<=g i/\g i<256)(i lead:Nat):0<=cS g i lead/\cS g i lead<256:=by
 unfold cS;split
 ·exact h _
 ·omega
def eu (r:Nat->Int)(dp k:Nat):Int:=if dp=16 then 256*r (2*k)+r (2*k+1) else r (k*dp/8)/2^(8-k*dp%8-dp)%2^dp
theorem fe (n:Nat):(0:Int)<2^n:=Int.pow_pos (by decide)
theorem zG {r:Nat->Int}(h:∀i,0<=r i/\r i<256)(dp k:Nat):0<=eu r dp k:=by
 unfold eu;split
 ·have:=h (2*k);have:=h (2*k+1);omega
 ·exact Int.emod_nonneg _ (by have:=fe dp;omega)
structure Ps where
 c0:Nat
 r0:Nat
 cs:Nat
 rs:Nat
 C:Nat
 R:Nat
def Ps.idx (p:Ps)(W n j k:Nat):Nat:=((p.r0+j*p.rs)*W+(p.c0+k/n*p.cs))*n+k%n
structure Ps.In (p:Ps) (W H:Nat):Prop where
 col:∀i,i<p.C->p.c0+i*p.cs<W
 row:∀j,j<p.R->p.r0+j*p.rs<H
theorem Ps.BM {p:Ps}{W H n j k:Nat}(h:p.In W H)(hj:j<p.R)(hk:k<p.C*n):p.idx W n j k<W*H*n:=by
 have hn:0<n:=by
  rcases Nat.eq_zero_or_pos n with h0|h0
  ·subst h0;omega
  ·exact h0
 have h1:=h.row j hj;have h2:=h.col (k/n) (by rw[Nat.div_lt_iff_lt_mul hn];exact hk);have h3:=acj k hn;unfold Ps.idx;generalize p.r0+j*p.rs=y at *;generalize p.c0+k/n*p.cs=x at *
 have a1:y*W+x+1<=W*H:=by
  calc y*W+x+1<=y*W+W:=by omega
   _=(y+1)*W:=by rw[abR]
   _<=H*W:=aaU _ (by omega)
   _=W*H:=aaV _ _
 calc (y*W+x)*n+k%n<(y*W+x)*n+n:=by omega
  _=(y*W+x+1)*n:=by rw[abR]
  _<=W*H*n:=aaU _ a1
def mA (p:Ps)(W n j:Nat)(v:Nat->Int)(out:List Int):Nat->List Int
 | 0=>out
 | k+1=>(mA p W n j v out k).set (p.idx W n j k) (v k)
theorem tD (p:Ps)(W n j:Nat)(v:Nat->Int)(out:List Int):∀k,(mA p W n j v out k).length=out.length
 | 0=>rfl
 | k+1=>by rw[mA,aaZ,tD p W n j v out k]
theorem qP (p:Ps)(W n j:Nat)(v:Nat->Int)(out:List Int)(hv:∀k,0<=v k)(ho:∀y∈out,0<=y):∀k,∀y∈mA p W n j v out k,0<=y
 | 0=>ho
 | k+1=>fun y hy=>by
  rw[mA]at hy;rcases List.mem_or_eq_of_mem_set hy with h|h
  ·exact qP p W n j v out hv ho k y h
  ·subst h;exact hv k
abbrev rowLen (C bits:Nat):Nat:=(C*bits+7)/8
structure RS where
 above:Nat->Int
 out:List Int
structure cD where
 W:Nat
 H:Nat
 n:Nat
 dp:Nat
def cD.bits (m:cD):Nat:=m.n*m.dp
def cD.lead (m:cD):Nat:=(m.bits+7)/8
def je (m:cD)(T:Nat->Nat)(p:Ps)(o j:Nat)(s:RS):Option RS :=
 if 4<T (o+j*(1+rowLen p.C m.bits)) then none
 else some ⟨ap (lq (T (o+j*(1+rowLen p.C m.bits))) m.lead s.above (fun i=>T (o+j*(1+rowLen p.C m.bits)+1+i)) (rowLen p.C m.bits)),
  mA p m.W m.n j (eu (ap (lq (T (o+j*(1+rowLen p.C m.bits))) m.lead s.above (fun i=>T (o+j*(1+rowLen p.C m.bits)+1+i)) (rowLen p.C m.bits))) m.dp) s.out (p.C*m.n)⟩
def fR (m:cD)(T:Nat->Nat)(p:Ps)(o:Nat)(out:List Int):Nat->Option RS
 | 0=>some ⟨fun _=>0,out⟩
 | j+1=>(fR m T p o out j).bind (je m T p o j)
theorem iO (m:cD)(T:Nat->Nat)(p:Ps)(o:Nat)(out:List Int)(ho:∀y∈out,0<=y):∀j s,fR m T p o out j=some s->s.out.length=out.length/\(∀y∈s.out,0<=y)/\∀i,0<=s.above i/\s.above i<256
 | 0,s,h=>by
  injection h with h;subst h;exact⟨rfl,ho,fun _=>⟨abj _,show (0:Int)<256 by decide⟩⟩
 | j+1,s,h=>by
  rw[fR]at h;obtain⟨s0,h0,h1⟩:=Option.bind_eq_some_iff.mp h;obtain⟨a1,a2,a3⟩:=iO m T p o out ho j s0 h0;unfold je at h1;split at h1
  ·cases h1
  ·injection h1 with h1;subst h1;refine⟨(tD _ _ _ _ _ _ _).trans a1,qP _ _ _ _ _ _ (fun k=>zG (fun i=>o9 _ _ _ _ _ i) _ _) a2 _,fun i=>o9 _ _ _ _ _ i⟩
theorem tE (m:cD)(T:Nat->Nat)(p:Ps)(o:Nat)(out:List Int)(j:Nat)(h:fR m T p o out j=none):∀d,fR m T p o out (j+d)=none
 | 0=>h
 | d+1=>by show (fR m T p o out (j+d)).bind _=none;rw[tE m T p o out j h d];rfl
def cu (m:cD)(k:Nat):Ps:=⟨kD k,jz k,jD k,jE k,(m.W+(jD k-1-kD k))/jD k,(m.H+(jE k-1-jz k))/jE k⟩
def jf (m:cD):Ps:=⟨0,0,1,1,m.W,m.H⟩
theorem tF (s t e i:Nat)(h:s<t)(hi:i<(e+(t-1-s))/t):s+i*t<e:=by
 have h1:i+1<=(e+(t-1-s))/t:=hi;rw[Nat.le_div_iff_mul_le (by omega)]at h1;rw[abR]at h1;omega
theorem xI (m:cD)(k:Nat):(cu m k).In m.W m.H:=⟨fun _ hi=>tF _ _ _ _ (mt k) hi,fun _ hi=>tF _ _ _ _ (my k) hi⟩
theorem tG (m:cD):(jf m).In m.W m.H:=⟨fun i hi=>by show 0+i*1<m.W;have:i<m.W:=hi;omega,fun i hi=>by show 0+i*1<m.H;have:i<m.H:=hi;omega⟩
def dK (m:cD)(k:Nat):Nat:=(fN m.W m.H m.bits k).toNat
def pg (m:cD)(T:Nat->Nat)(k:Nat)(out:List Int):Option (List Int) :=
 if 0<(cu m k).C/\0<(cu m k).R then (fR m T (cu m k) (dK m k) out (cu m k).R).map RS.out else some out
def mB (m:cD)(T:Nat->Nat):Nat->Option (List Int)
 | 0=>some (List.replicate (m.W*m.H*m.n) 0)
 | k+1=>(mB m T k).bind (pg m T k)
def nJ (m:cD)(T:Nat->Nat)(on:Bool):Option (List Int) :=
 if on=true then mB m T 7 else (fR m T (jf m) 0 (List.replicate (m.W*m.H*m.n) 0) m.H).map RS.out
theorem kG (n:Nat):∀y∈List.replicate n (0:Int),0<=y:=fun y hy=>by rw[List.mem_replicate]at hy;omega
theorem qQ (m:cD)(T:Nat->Nat):∀k l,mB m T k=some l->l.length=m.W*m.H*m.n/\∀y∈l,0<=y
 | 0,l,h=>by
  injection h with h;subst h;exact⟨by simp,kG _⟩
 | k+1,l,h=>by
  rw[mB]at h;obtain⟨l0,h0,h1⟩:=Option.bind_eq_some_iff.mp h;obtain⟨a1,a2⟩:=qQ m T k l0 h0;unfold pg at h1;split at h1
  ·obtain⟨s,hs,rfl⟩:=acm.mp h1;obtain⟨b1,b2,_⟩:=iO m T _ _ _ a2 _ _ hs;exact⟨b1.trans a1,b2⟩
  ·injection h1 with h1;subst h1;exact⟨a1,a2⟩
theorem Fo (m:cD)(T:Nat->Nat)(on:Bool)(l:List Int)(h:nJ m T on=some l):l.length=m.W*m.H*m.n/\∀y∈l,0<=y:=by
 unfold nJ at h;split at h
 ·exact qQ m T 7 l h
 ·obtain⟨s,hs,rfl⟩:=acm.mp h;obtain⟨b1,b2,_⟩:=iO m T _ _ _ (kG _) _ _ hs;exact⟨b1.trans (by simp),b2⟩
def fx (p:Int)(m:Nat):Nat->List Int
 | 0=>[]
 | c+1=>fx p m c++if cq p c m=true then [(c:Int)] else []
def dH (p:Int)(m:Nat):Nat->List Int
 | 0=>[]
 | r+1=>dH p m r++if ct p r m=true then [(r:Int)] else []
theorem oB (p:Int)(m:Nat):∀c,(fx p m c).length=nC p m c
 | 0=>rfl
 | c+1=>by rw[fx,nC,aac,oB p m c];split<;>rfl
theorem mC (p:Int)(m:Nat):∀c,(dH p m c).length=nR p m c
 | 0=>rfl
 | c+1=>by rw[dH,nR,aac,mC p m c];split<;>rfl
def eI (s t n:Nat):List Int:=(List.range n).map fun i=>((s+i*t:Nat):Int)
theorem jg (s t n:Nat):eI s t (n+1)=eI s t n++[((s+n*t:Nat):Int)]:=by
 unfold eI;rw[List.range_succ,abo];rfl
theorem zH (s c0 e:Nat)(hs:c0<s)(h:e%s=c0):c0+(e+(s-1-c0))/s*s=e:=by
 have h1:=Nat.div_add_mod e s;generalize e/s=q at h1;rw[h]at h1;subst h1;rw[show s*q+c0+(s-1-c0)=(s-1)+s*q by omega,Nat.add_mul_div_left _ _ (by omega),abm (by omega),aaF,aaV];omega
theorem vS (k:Nat)(hk:k<7)(m:Nat)(hm:m<=8)(hp:jz k<m):∀c,fx ((k:Int)+1) m c=eI (kD k) (jD k) ((c+(jD k-1-kD k))/jD k)
 | 0=>by
  have:=mt k;rw[aaF,abm (by omega)];rfl
 | c+1=>by
  rw[fx,vS k hk m hm hp c,tA k hk c m hm,kE _ _ _ (mt k),aaw hp,acu];by_cases h:c%jD k=kD k
  ·rw[aaf (aaw h),aaf h,jg,zH _ _ _ (mt k) h]
  ·rw[aae (by rw[aa4 h];decide),aae h,aa9];rfl
theorem tH (k:Nat)(hk:k<7)(m:Nat)(hm:m<=8)(hp:kD k<m):∀c,dH ((k:Int)+1) m c=eI (jz k) (jE k) ((c+(jE k-1-jz k))/jE k)
 | 0=>by
  have:=my k;rw[aaF,abm (by omega)];rfl
 | c+1=>by
  rw[dH,tH k hk m hm hp c,tB k hk c m hm,kE _ _ _ (my k),aaw hp,acu];by_cases h:c%jE k=jz k
  ·rw[aaf (aaw h),aaf h,jg,zH _ _ _ (my k) h]
  ·rw[aae (by rw[aa4 h];decide),aae h,aa9];rfl
theorem qR (m:Nat):∀c,fx 0 m c=eI 0 1 c
 | 0=>rfl
 | c+1=>by
  have h:∀c m,cq 0 c m=true:=by
   intro c m
   induction m with
   | zero=>rfl
   | succ m ih=>simp[cq,ih]
  rw[fx,h,aaf rfl,qR m c,jg,aaF,Nat.mul_one]
theorem ph (m:Nat):∀c,dH 0 m c=eI 0 1 c
 | 0=>rfl
 | c+1=>by
  have h:∀c m,ct 0 c m=true:=by
   intro c m
   induction m with
   | zero=>rfl
   | succ m ih=>simp[ct,ih]
  rw[dH,h,aaf rfl,ph m c,jg,aaF,Nat.mul_one]
def ca (m:cD)(on:Bool)(k:Nat):Ps:=if on=true then cu m k else jf m
theorem zI (m:cD)(on:Bool)(k:Nat)(hk:k<pn on)(hp:0<nC (pq on k) (min 8 m.H) m.W): fx (pq on k) (min 8 m.H) m.W=eI (ca m on k).c0 (ca m on k).cs (ca m on k).C/\dH (pq on k) (min 8 m.W) m.H=eI (ca m on k).r0 (ca m on k).rs (ca m on k).R:=by
 cases on with
 | false=>exact⟨qR _ _,ph _ _⟩
 | true =>
  have hk:k<7:=hk;have hp:0<nC ((k:Int)+1) (min 8 m.H) m.W:=hp;rw[I5 k hk _ (by omega)]at hp
  have h1:jz k<min 8 m.H:=by
   by_cases h:jz k<min 8 m.H
   ·exact h
   ·rw[aae h]at hp;omega
  rw[aaf h1,rE _ _ _ (mt k)]at hp;have m1:kD k<=4:=by unfold kD;split<;>omega
  exact⟨vS k hk _ (by omega) h1 _,tH k hk _ (by omega) (by omega) _⟩
theorem Dy (m:cD)(k:Nat)(hk:k<7):0<nC ((k:Int)+1) (min 8 m.H) m.W↔0<(cu m k).C/\0<(cu m k).R:=by
 have m2:jz k<=4:=by unfold jz;split<;>omega
 rw[I5 k hk _ (by omega)];show _↔0<(m.W+(jD k-1-kD k))/jD k/\0<(m.H+(jE k-1-jz k))/jE k;rw[rE _ _ _ (my k)];by_cases h:jz k<min 8 m.H
 ·rw[aaf h];constructor
  ·intro a;exact⟨a,by omega⟩
  ·intro a;exact a.1
 ·rw[aae h];constructor
  ·intro a;omega
  ·intro a;omega
theorem I7 (x:Int)(e j:Nat):2*(x/2^(e+1)%2^j)+x/2^e%2=x/2^e%2^(j+1):=by
 have h1:x/2^(e+1)=x/2^e/2:=by rw[Int.pow_succ,Int.ediv_ediv_of_nonneg (Int.le_of_lt (fe e))]
 rw[h1];generalize x/2^e=y;rw[Int.pow_succ,Int.mul_comm (2^j) 2];have hp:=fe j;generalize (2:Int)^j=P at *;have e1:=Int.emod_add_mul_ediv (y/2) P;have e2:=Int.emod_nonneg (y/2) (b:=P) (by omega);have e3:=Int.emod_lt_of_pos (y/2) hp;have e4:=Int.emod_add_mul_ediv y 2;have e5:y%2=0\/y%2=1:=by omega
 have key:y=(2*(y/2%P)+y%2)+2*P*(y/2/P):=by
  have:2*P*(y/2/P)=2*(P*(y/2/P)):=Int.mul_assoc _ _ _;rw[this];omega
 have:y%(2*P)=2*(y/2%P)+y%2:=by
  rw[key,Int.add_mul_emod_self_left];have k2:(2*(y/2%P)+y%2+2*P*(y/2/P))/2%P=y/2%P:=by rw[<-key]
  have k3:(2*(y/2%P)+y%2+2*P*(y/2/P))%2=y%2:=by rw[<-key]
  rw[k2,k3];exact Int.emod_eq_of_lt (by omega) (by omega)
 rw[this]
def kY (r:Nat->Int)(s:Nat):Nat->Int
 | 0=>0
 | j+1=>2*kY r s j+r ((s+j)/8)/2^(7-(s+j)%8)%2
theorem Dz (r:Nat->Int)(s d:Nat)(h:s%8+d<=8):∀j,j<=d->kY r s j=r (s/8)/2^(8-s%8-j)%2^j
 | 0,_=>by rw[kY,Int.pow_zero,Int.emod_one]
 | j+1,hj=>by
  rw[kY,Dz r s d h j (by omega),show (s+j)/8=s/8 by omega,show 7-(s+j)%8=8-s%8-(j+1) by omega,show 8-s%8-j=(8-s%8-(j+1))+1 by omega];exact I7 _ _ _
theorem Fp (r:Nat->Int)(dp k:Nat)(h:dp=1\/dp=2\/dp=4\/dp=8):eu r dp k=kY r (k*dp) dp:=by
 have h16:dp≠16:=by omega
 unfold eu;rw[aae h16,Dz r (k*dp) dp (by rcases h with rfl|rfl|rfl|rfl<;>omega) dp (aad _)]
def dm (m:cD)(p:Ps):Nat:=p.R*(1+rowLen p.C m.bits)
theorem DA (m:cD)(k:Nat)(hk:k<7):Du m.W m.H m.bits k=((if 0<(cu m k).C/\0<(cu m k).R then dm m (cu m k) else 0:Nat):Int):=by
 rw[zF _ _ _ k hk,one,qa _ _ _ (mt k),qa _ _ _ (my k)];unfold dm cu;dsimp only;generalize (m.W+(jD k-1-kD k))/jD k=C;generalize (m.H+(jE k-1-jz k))/jE k=R;by_cases h:0<C/\0<R
 ·rw[aaf (by omega),aaf h,ad];push_cast;rfl
 ·rw[aae (by omega),aae h];rfl
theorem nu (m:cD):∀k,k<=7->fN m.W m.H m.bits k=(dK m k:Int)
 | 0,_=>rfl
 | k+1,h=>by
  unfold dK;have h1:=nu m k (by omega);rw[fN,h1,DA m k (by omega)];omega
theorem mD (m:cD)(k:Nat)(hk:k<7):dK m (k+1)=dK m k+if 0<(cu m k).C/\0<(cu m k).R then dm m (cu m k) else 0:=by
 have h1:=nu m (k+1) (by omega);rw[fN,nu m k (by omega),DA m k hk]at h1;omega
theorem tI (m:cD)(k:Nat):∀d,k+d<=7->dK m k<=dK m (k+d)
 | 0,_=>aad _
 | d+1,h=>by
  have h1:=tI m k d (by omega);have h2:=mD m (k+d) (by omega);have e:k+(d+1)=k+d+1:=by omega
  rw[e,h2];omega
theorem rF (m:cD)(on:Bool):raw m.W m.H m.bits on=((if on=true then dK m 7 else dm m (jf m):Nat):Int):=by
 cases on with
 | true=>exact nu m 7 (aad _)
 | false =>
  show ad m.W m.H m.bits=_;unfold ad dm jf;dsimp only;push_cast;rfl
theorem Mm (m:cD)(k:Nat)(hk:k<7)(h:0<(cu m k).C/\0<(cu m k).R):dK m k+dm m (cu m k)<=dK m 7:=by
 have h1:=mD m k hk;rw[aaf h]at h1;have h2:=tI m (k+1) (7-(k+1)) (by omega);rw[show k+1+(7-(k+1))=7 by omega]at h2;omega
def dB (x y:Int):Int:=max (x-y) (y-x)
theorem Fq (a b c:Int):qN a b c=if dB b c<=dB a c/\dB b c<=dB (a+b) (c+c) then a else if dB a c<=dB (a+b) (c+c) then b else c:=by
 have e1:gS (a+b-c) a=dB b c:=by unfold gS dB;split<;>omega
 have e2:gS (a+b-c) b=dB a c:=by unfold gS dB;split<;>omega
 have e3:gS (a+b-c) c=dB (a+b) (c+c):=by unfold gS dB;split<;>omega
 unfold qN;rw[e1,e2,e3]
def KP (n st k:Nat):Nat:=k/n*(st*n)+k%n
def iz (p:Ps)(W n j:Nat):Nat:=((p.r0+j*p.rs)*W+p.c0)*n
theorem DC (p:Ps)(W n j k:Nat):p.idx W n j k=iz p W n j+KP n p.cs k:=by
 unfold Ps.idx iz KP;rw[<-abI,Nat.add_mul _ (k/n*p.cs) n,aa0 (k/n),abI]
theorem xJ (C n dp k:Nat)(h:dp=1\/dp=2\/dp=4\/dp=8\/dp=16)(hk:k<C*n):(dp=16->2*k+1<rowLen C (n*dp))/\(dp≠16->k*dp/8<rowLen C (n*dp)):=by
 unfold rowLen;rw[<-aa0];generalize C*n=N at *;constructor
 ·intro e;subst e;omega
 ·intro e;have h1:(k+1)*dp<=N*dp:=aaU _ hk;rw[abR]at h1;generalize k*dp=A at *;generalize N*dp=B at *;omega
def fJ (m:cD)(on:Bool)(i:Nat):Nat:=if on=true then dK m i else i*dm m (jf m)
def gq (m:cD)(T:Nat->Nat)(on:Bool)(i:Nat)(out:List Int):Option (List Int) :=
 if 0<nC (pq on i) (min 8 m.H) m.W then (fR m T (ca m on i) (fJ m on i) out (ca m on i).R).map RS.out else some out
def jh (m:cD)(T:Nat->Nat)(on:Bool):Nat->Option (List Int)
 | 0=>some (List.replicate (m.W*m.H*m.n) 0)
 | i+1=>(jh m T on i).bind (gq m T on i)
theorem zJ (m:cD)(T:Nat->Nat):∀i,i<=7->jh m T true i=mB m T i
 | 0,_=>rfl
 | i+1,h=>by
  rw[jh,mB,zJ m T i (by omega)]
  congr 1
  funext out
  unfold gq pg;have e:(0<nC (pq true i) (min 8 m.H) m.W)↔(0<(cu m i).C/\0<(cu m i).R):=Dy m i (by omega);by_cases hc:0<(cu m i).C/\0<(cu m i).R
  ·rw[aaf (e.2 hc),aaf hc];rfl
  ·rw[aae (fun h=>hc (e.1 h)),aae hc]
theorem zK (m:cD)(T:Nat->Nat)(on:Bool)(hW:1<=m.W):jh m T on (pn on)=nJ m T on:=by
 cases on with
 | true =>
  rw[show pn true=7 from rfl,zJ m T 7 (aad _)];unfold nJ;rw[aaf rfl]
 | false =>
  show (some (List.replicate (m.W*m.H*m.n) 0)).bind (gq m T false 0)=_;unfold nJ;rw[aae (by decide),Option.bind_some];unfold gq;rw[show pq false 0=0 from rfl,xH,aaf (by omega)];unfold fJ ca;rw[aae (by decide),aae (by decide),abz];rfl
theorem oC (m:cD)(T:Nat->Nat)(on:Bool):∀i l,jh m T on i=some l->l.length=m.W*m.H*m.n/\∀y∈l,0<=y
 | 0,l,h=>by
  injection h with h;subst h;exact⟨by simp,kG _⟩
 | i+1,l,h=>by
  rw[jh]at h;obtain⟨l0,h0,h1⟩:=Option.bind_eq_some_iff.mp h;obtain⟨a1,a2⟩:=oC m T on i l0 h0;unfold gq at h1;split at h1
  ·obtain⟨s,hs,rfl⟩:=acm.mp h1;obtain⟨b1,b2,_⟩:=iO m T _ _ _ a2 _ _ hs;exact⟨b1.trans a1,b2⟩
  ·injection h1 with h1;subst h1;exact⟨a1,a2⟩
theorem tJ (m:cD)(T:Nat->Nat)(on:Bool)(i:Nat)(h:jh m T on i=none):∀d,jh m T on (i+d)=none
 | 0=>h
 | d+1=>by show (jh m T on (i+d)).bind _=none;rw[tJ m T on i h d];rfl
theorem qc (m:cD)(on:Bool)(i:Nat)(hi:i<pn on)(hW:1<=m.W):fJ m on (i+1)=fJ m on i+if 0<nC (pq on i) (min 8 m.H) m.W then (ca m on i).R*(1+rowLen (ca m on i).C m.bits) else 0:=by
 cases on with
 | true =>
  have hi:i<7:=hi;have e:(0<nC (pq true i) (min 8 m.H) m.W)↔(0<(cu m i).C/\0<(cu m i).R):=Dy m i hi;show dK m (i+1)=dK m i+_;rw[mD m i hi];by_cases hc:0<(cu m i).C/\0<(cu m i).R
  ·rw[aaf (e.2 hc),aaf hc];rfl
  ·rw[aae (fun h=>hc (e.1 h)),aae hc]
 | false =>
  have hi:i<1:=hi;obtain rfl:i=0:=by omega
  rw[show pq false 0=0 from rfl,xH,aaf (show 0<m.W by omega)];show (0+1)*dm m (jf m)=0*dm m (jf m)+dm m (jf m);omega
theorem tK (m:cD)(on:Bool):(fJ m on (pn on):Int)=raw m.W m.H m.bits on:=by
 rw[rF];cases on with
 | true=>rfl
 | false=>unfold fJ;rw[aae (by decide),aae (by decide),show pn false=1 from rfl,Nat.one_mul]
theorem qd (m:cD)(on:Bool)(hW:1<=m.W)(i:Nat):∀d,i+d<=pn on->fJ m on i<=fJ m on (i+d)
 | 0,_=>aad _
 | d+1,h=>by
  have h1:=qd m on hW i d (by omega);have h2:=qc m on (i+d) (by omega) hW;rw[show i+(d+1)=i+d+1 by omega,h2];omega
theorem I8 (m:cD)(on:Bool)(i:Nat):(ca m on i).In m.W m.H:=by
 unfold ca;split
 ·exact xI m i
 ·exact tG m
theorem Mn (m:cD)(on:Bool)(i:Nat)(hi:i<pn on)(hp:0<nC (pq on i) (min 8 m.H) m.W):nC (pq on i) (min 8 m.H) m.W=(ca m on i).C/\nR (pq on i) (min 8 m.W) m.H=(ca m on i).R:=by
 obtain⟨a,b⟩:=zI m on i hi hp;have a':=abq List.length a;have b':=abq List.length b;rw[oB]at a';rw[mC]at b';unfold eI at a' b';simp only[abE,List.length_range]at a' b';exact⟨a',b'⟩
theorem tL (s t n i:Nat)(h:i<n):ap (eI s t n) i=((s+i*t:Nat):Int):=by
 unfold ap eI;rw[aaa,abk,List.getElem?_range h];rfl
end Go.Proofs.YtmfijackgekioaaGreatDoor.Pm
