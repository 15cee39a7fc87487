namespace Go.Proofs.YtmfijackgekioaaGreatDoor.Pm
def chan (k d:Int):Int :=
 if k=0/\(d=1\/d=2\/d=4\/d=8\/d=16) then 1
 else if k=2/\(d=8\/d=16) then 3
 else if k=3/\(d=1\/d=2\/d=4\/d=8) then 1
 else if k=4/\(d=8\/d=16) then 2
 else if k=6/\(d=8\/d=16) then 4
 else 0
theorem cE (k d:Int):0<=chan k d/\chan k d<=4:=by
 unfold chan;repeat' split
 all_goals omega
theorem cm (k d:Int)(h:chan k d≠0):1<=d/\d<=16:=by
 unfold chan at h;repeat' split at h
 all_goals omega
def fU (n:Int):Bool:=decide (1<=n)&&decide (n<=5000)
theorem dj (n:Int):fU n=true↔1<=n/\n<=5000:=by simp[fU]
def pass (c r:Int):Int :=
 if r%2=1 then 7 else if c%2=1 then 6 else if r%4=2 then 5 else if c%4=2 then 4 else if r%8=4 then 3 else if c%8=4 then 2 else 1
def ee (zs:List Int)(e:Int):Bool:=zs.all fun n=>decide (0<=n)&&decide (n<e)
theorem GE (zs:List Int)(k:Nat)(h:k<zs.length)(e:Int):ee (zs.take (k+1)) e=(ee (zs.take k) e&&(decide (0<=zs[k])&&decide (zs[k]<e))):=by
 rw[List.take_succ_eq_append_getElem h,ee,List.all_append];simp[ee]
theorem Ez (zs:List Int)(k:Nat)(h:k<zs.length)(e:Int)(hx:¬(0<=zs[k]/\zs[k]<e)):ee zs e=false:=by
 unfold ee;rw[List.all_eq_false];exact⟨zs[k],List.getElem_mem h,by simpa using hx⟩
def pM (kd D:Int)(pz:List Int):Bool :=
 if kd=3 then decide ((pz.length:Int)%3=0)&&decide (1<=(pz.length:Int)/3)&&decide ((pz.length:Int)/3<=D)&&ee pz 256
 else decide ((pz.length:Int)=0)
def two (d:Int):Int:=2^d.toNat
theorem gP (d:Int)(h:1<=d/\d<=16):2<=two d/\two d<=65536:=by
 obtain⟨n,rfl⟩:=Int.eq_ofNat_of_zero_le (a:=d) (by omega);unfold two;simp only[Int.toNat_natCast];have h1:(2:Nat)^1<=2^n:=Nat.pow_le_pow_right (by omega) (by omega);have h2:(2:Nat)^n<=2^16:=Nat.pow_le_pow_right (by omega) (by omega);have e:((2:Int)^n)=((2^n:Nat):Int):=by simp
 rw[e];omega
def ug (wd ht kd c D:Int)(pl:Nat)(sz:List Int):Bool :=
 decide ((sz.length:Int)=wd*ht*c)&&(if kd=3 then ee sz ((pl:Int)/3) else ee sz D)
theorem aaC (wd ht:Int)(h1:1<=wd/\wd<=5000)(h2:1<=ht/\ht<=5000):1<=wd*ht/\wd*ht<=25000000:=by
 constructor
 ·have:1*1<=wd*ht:=Int.mul_le_mul h1.1 h2.1 (by omega) (by omega);omega
 ·have:wd*ht<=5000*5000:=Int.mul_le_mul h1.2 h2.2 (by omega) (by omega);omega
theorem V6 (a c:Int)(h1:0<=a/\a<=25000000)(h2:0<=c/\c<=4):0<=a*c/\a*c<=100000000:=by
 constructor
 ·exact Int.mul_nonneg h1.1 h2.1
 ·have:a*c<=25000000*4:=Int.mul_le_mul h1.2 h2.2 (by omega) (by omega);omega
def ad (c r b:Int):Int:=r*(1+(c*b+7)/8)
theorem uh (c b:Int)(hc:0<=c/\c<=5000)(hb:0<=b/\b<=64):0<=c*b/\c*b<=320000:=by
 constructor
 ·exact Int.mul_nonneg hc.1 hb.1
 ·have:c*b<=5000*64:=Int.mul_le_mul hc.2 hb.2 (by omega) (by omega);omega
theorem jU (c r b:Int)(hc:0<=c/\c<=5000)(hr:0<=r/\r<=5000)(hb:0<=b/\b<=64):0<=ad c r b/\ad c r b<=200010000:=by
 have:=uh c b hc hb;unfold ad;constructor
 ·exact Int.mul_nonneg hr.1 (by omega)
 ·have:r*(1+(c*b+7)/8)<=5000*40002:=Int.mul_le_mul hr.2 (by omega) (by omega) (by omega);omega
def cnt (s t e:Int):Int:=(e-s+t-1)/t
def one (wd ht b c0 r0 cs rs:Int):Int:=if 0<cnt c0 cs wd/\0<cnt r0 rs ht then ad (cnt c0 cs wd) (cnt r0 rs ht) b else 0
def Ky (wd ht b:Int):Nat->Int
 | 0=>one wd ht b 0 0 8 8
 | 1=>one wd ht b 4 0 8 8
 | 2=>one wd ht b 0 4 4 8
 | 3=>one wd ht b 2 0 4 4
 | 4=>one wd ht b 0 2 2 4
 | 5=>one wd ht b 1 0 2 2
 | _=>one wd ht b 0 1 1 2
def ip (wd ht b:Int):Nat->Int
 | 0=>0
 | k+1=>ip wd ht b k+Ky wd ht b k
def raw (wd ht b:Int)(ps:Bool):Int:=if ps then ip wd ht b 7 else ad wd ht b
theorem wv (wd ht b c0 r0 cs rs:Int)(h1:0<=cnt c0 cs wd/\cnt c0 cs wd<=5000)(h2:0<=cnt r0 rs ht/\cnt r0 rs ht<=5000)(hb:0<=b/\b<=64): 0<=one wd ht b c0 r0 cs rs/\one wd ht b c0 r0 cs rs<=200010000:=by
 unfold one;split
 ·exact jU _ _ _ h1 h2 hb
 ·omega
structure PK (wd ht b:Int) (k:Nat) (c0 r0 cs rs:Int):Prop where
 hc0:0<=c0/\c0<=8
 hr0:0<=r0/\r0<=8
 hcs:1<=cs/\cs<=8
 hrs:1<=rs/\rs<=8
 pc:0<=wd-c0+cs-1
 pr:0<=ht-r0+rs-1
 bc:0<=cnt c0 cs wd/\cnt c0 cs wd<=5000
 br:0<=cnt r0 rs ht/\cnt r0 rs ht<=5000
 next:ip wd ht b (k+1)=ip wd ht b k+one wd ht b c0 r0 cs rs
theorem aaD {wd ht:Int}(b:Int)(hw:1<=wd/\wd<=5000)(hh:1<=ht/\ht<=5000):PK wd ht b 0 0 0 8 8:=by
 constructor<;>(try unfold cnt)<;>first|omega|rfl
theorem aaE {wd ht:Int}(b:Int)(hw:1<=wd/\wd<=5000)(hh:1<=ht/\ht<=5000):PK wd ht b 1 4 0 8 8:=by
 constructor<;>(try unfold cnt)<;>first|omega|rfl
theorem aaF {wd ht:Int}(b:Int)(hw:1<=wd/\wd<=5000)(hh:1<=ht/\ht<=5000):PK wd ht b 2 0 4 4 8:=by
 constructor<;>(try unfold cnt)<;>first|omega|rfl
theorem aaG {wd ht:Int}(b:Int)(hw:1<=wd/\wd<=5000)(hh:1<=ht/\ht<=5000):PK wd ht b 3 2 0 4 4:=by
 constructor<;>(try unfold cnt)<;>first|omega|rfl
theorem aaH {wd ht:Int}(b:Int)(hw:1<=wd/\wd<=5000)(hh:1<=ht/\ht<=5000):PK wd ht b 4 0 2 2 4:=by
 constructor<;>(try unfold cnt)<;>first|omega|rfl
theorem aaI {wd ht:Int}(b:Int)(hw:1<=wd/\wd<=5000)(hh:1<=ht/\ht<=5000):PK wd ht b 5 1 0 2 2:=by
 constructor<;>(try unfold cnt)<;>first|omega|rfl
theorem aaJ {wd ht:Int}(b:Int)(hw:1<=wd/\wd<=5000)(hh:1<=ht/\ht<=5000):PK wd ht b 6 0 1 1 2:=by
 constructor<;>(try unfold cnt)<;>first|omega|rfl
theorem jh (kd dp:Int)(h:chan kd dp≠0):0<=chan kd dp*dp/\chan kd dp*dp<=64:=by
 have h1:=cE kd dp;have h2:=cm kd dp h;constructor
 ·exact Int.mul_nonneg h1.1 (by omega)
 ·have:chan kd dp*dp<=4*16:=Int.mul_le_mul h1.2 h2.2 (by omega) (by omega);omega
def aaK (p:Int)(c:Nat):Nat->Bool
 | 0=>p==0
 | r+1=>aaK p c r||(pass c r==p)
def aab (p:Int)(r:Nat):Nat->Bool
 | 0=>p==0
 | c+1=>aab p r c||(pass c r==p)
def nR (p:Int)(m:Nat):Nat->Nat
 | 0=>0
 | r+1=>nR p m r+if aab p r m then 1 else 0
def pn (on:Bool):Nat:=if on then 7 else 1
theorem aaa (c r:Nat):pass c r=pass ((c%8:Nat):Int) ((r%8:Nat):Int):=by
 unfold pass;have a1:((c%8:Nat):Int)%2=(c:Int)%2:=by omega
 have a2:((c%8:Nat):Int)%4=(c:Int)%4:=by omega
 have a3:((c%8:Nat):Int)%8=(c:Int)%8:=by omega
 have b1:((r%8:Nat):Int)%2=(r:Int)%2:=by omega
 have b2:((r%8:Nat):Int)%4=(r:Int)%4:=by omega
 have b3:((r%8:Nat):Int)%8=(r:Int)%8:=by omega
 rw[a1,a2,a3,b1,b2,b3]
theorem Si (p:Int)(c m:Nat):aaK p c m=aaK p (c%8) m:=by
 induction m with
 | zero=>rfl
 | succ m ih=>simp only[aaK];rw[ih,aaa c m,aaa (c%8) m,Nat.mod_mod]
def oQ:Nat->Nat|1=>4|3=>2|5=>1|_=>0
def j5:Nat->Nat|0=>8|1=>8|2=>4|3=>4|4=>2|5=>2|_=>1
def o6:Nat->Nat|2=>4|4=>2|6=>1|_=>0
def mo:Nat->Nat|0=>8|1=>8|2=>8|3=>4|4=>4|5=>2|_=>2
theorem NV:∀k:Nat,k<7->∀c:Nat,c<8->∀m:Nat,m<=8->aaK ((k:Int)+1) c m=(decide (o6 k<m)&&decide (c%j5 k=oQ k)):=by decide
theorem Sh (k:Nat)(hk:k<7)(c m:Nat)(hm:m<=8):aaK ((k:Int)+1) c m=(decide (o6 k<m)&&decide (c%j5 k=oQ k)):=by
 rw[Si,NV k hk (c%8) (Nat.mod_lt _ (by omega)) m hm]
 have e:c%8%j5 k=c%j5 k:=by
  match k,hk with
  | 0,_|1,_|2,_|3,_|4,_|5,_|6,_=>simp only[j5];omega
 rw[e]
theorem ww:∀k:Nat,oQ k<j5 k
 | 0|1|2|3|4|5|6=>by decide
 | n+7=>by show 0<1;omega
theorem wx:∀k:Nat,o6 k<mo k
 | 0|1|2|3|4|5|6=>by decide
 | n+7=>by show 0<2;omega
theorem qJ (s t e:Nat)(h:s<t):cnt s t e=(((e+(t-1-s))/t:Nat):Int):=by
 unfold cnt;rw[show (e:Int)-s+t-1=((e+(t-1-s):Nat):Int) by omega];simp
theorem Kz (wd ht b:Int)(k:Nat)(hk:k<7):Ky wd ht b k=one wd ht b (oQ k) (o6 k) (j5 k) (mo k):=by
 match k,hk with
 | 0,_|1,_|2,_|3,_|4,_|5,_|6,_=>rfl
def mZ (p q:Int):Int:=if q<p then p-q else q-p
def wy (a b c:Int):Int :=
 if mZ (a+b-c) a<=mZ (a+b-c) b/\mZ (a+b-c) a<=mZ (a+b-c) c then a
 else if mZ (a+b-c) b<=mZ (a+b-c) c then b else c
def gB (f:Nat)(a b c:Int):Int :=
 match f with
 | 0=>0
 | 1=>a
 | 2=>b
 | 3=>(a+b)/2
 | _=>wy a b c
theorem C0 {a b c m:Int}(ha:0<=a/\a<m)(hb:0<=b/\b<m)(hc:0<=c/\c<m):0<=wy a b c/\wy a b c<m:=by
 unfold wy;split
 ·exact ha
 ·split
  ·exact hb
  ·exact hc
theorem ry (f:Nat){a b c:Int}(ha:0<=a/\a<256)(hb:0<=b/\b<256)(hc:0<=c/\c<256):0<=gB f a b c/\gB f a b c<256:=by
 unfold gB;split
 ·omega
 ·exact ha
 ·exact hb
 ·omega
 ·exact C0 ha hb hc
def cJ (g:Nat->Int)(i lead:Nat):Int:=if lead<=i then g (i-lead) else 0
abbrev aj (l:List Int)(i:Nat):Int:=l.getD i 0
def m8 (f lead:Nat)(above x:Nat->Int):Nat->List Int
 | 0=>[]
 | i+1=>m8 f lead above x i++[(x i+gB f (cJ (aj (m8 f lead above x i)) i lead) (above i) (cJ above i lead))%256]
theorem pN (f lead:Nat)(above x:Nat->Int):∀i,(m8 f lead above x i).length=i
 | 0=>rfl
 | i+1=>by rw[m8,List.length_append,pN f lead above x i];rfl
theorem ui {l:List Int}(h:∀y∈l,0<=y/\y<256)(i:Nat):0<=aj l i/\aj l i<256:=by
 unfold aj;rw[List.getD_eq_getElem?_getD];rcases Nat.lt_or_ge i l.length with hi|hi
 ·rw[List.getElem?_eq_getElem hi];exact h _ (List.getElem_mem hi)
 ·rw[List.getElem?_eq_none hi];exact⟨Int.le_refl _,by decide⟩
theorem EA (f lead:Nat)(above x:Nat->Int):∀i,∀y∈m8 f lead above x i,0<=y/\y<256
 | 0=>fun y hy=>by cases hy
 | i+1=>fun y hy=>by
  rw[m8]at hy;rcases List.mem_append.mp hy with hy|hy
  ·exact EA f lead above x i y hy
  ·rw[List.mem_singleton]at hy;subst hy;omega
theorem m9 (f lead:Nat)(above x:Nat->Int)(i j:Nat):0<=aj (m8 f lead above x i) j/\aj (m8 f lead above x i) j<256:=ui (EA f lead above x i) j
theorem lq {g:Nat->Int}(h:∀i,0<=g i/\g i<256)(i lead:Nat):0<=cJ g i lead/\cJ g i lead<256:=by
 unfold cJ;split
 ·exact h _
 ·omega
def cR (r:Nat->Int)(dp k:Nat):Int:=if dp=16 then 256*r (2*k)+r (2*k+1) else r (k*dp/8)/2^(8-k*dp%8-dp)%2^dp
theorem iq (n:Nat):(0:Int)<2^n:=Int.pow_pos (by decide)
theorem Ax {r:Nat->Int}(h:∀i,0<=r i/\r i<256)(dp k:Nat):0<=cR r dp k:=by
 unfold cR;split
 ·have:=h (2*k);have:=h (2*k+1);omega
 ·exact Int.emod_nonneg _ (by have:=iq dp;omega)
structure Ps where
 c0:Nat
 r0:Nat
 cs:Nat
 rs:Nat
 C:Nat
 R:Nat
def Ps.idx (p:Ps)(W n j k:Nat):Nat:=((p.r0+j*p.rs)*W+(p.c0+k/n*p.cs))*n+k%n
structure Ps.In (p:Ps) (W H:Nat):Prop where
 col:∀i,i<p.C->p.c0+i*p.cs<W
 row:∀j,j<p.R->p.r0+j*p.rs<H
theorem Ps.C3 {p:Ps}{W H n j k:Nat}(h:p.In W H)(hj:j<p.R)(hk:k<p.C*n):p.idx W n j k<W*H*n:=by
 have hn:0<n:=by
  rcases Nat.eq_zero_or_pos n with h0|h0
  ·subst h0;omega
  ·exact h0
 have h1:=h.row j hj;have h2:=h.col (k/n) (by rw[Nat.div_lt_iff_lt_mul hn];exact hk);have h3:=Nat.mod_lt k hn;unfold Ps.idx;generalize p.r0+j*p.rs=y at *;generalize p.c0+k/n*p.cs=x at *
 have a1:y*W+x+1<=W*H:=by
  calc y*W+x+1<=y*W+W:=by omega
   _=(y+1)*W:=by rw[Nat.succ_mul]
   _<=H*W:=Nat.mul_le_mul_right _ (by omega)
   _=W*H:=Nat.mul_comm _ _
 calc (y*W+x)*n+k%n<(y*W+x)*n+n:=by omega
  _=(y*W+x+1)*n:=by rw[Nat.succ_mul]
  _<=W*H*n:=Nat.mul_le_mul_right _ a1
def oR (p:Ps)(W n j:Nat)(v:Nat->Int)(out:List Int):Nat->List Int
 | 0=>out
 | k+1=>(oR p W n j v out k).set (p.idx W n j k) (v k)
theorem Ay (p:Ps)(W n j:Nat)(v:Nat->Int)(out:List Int):∀k,(oR p W n j v out k).length=out.length
 | 0=>rfl
 | k+1=>by rw[oR,List.length_set,Ay p W n j v out k]
theorem rA (p:Ps)(W n j:Nat)(v:Nat->Int)(out:List Int)(hv:∀k,0<=v k)(ho:∀y∈out,0<=y):∀k,∀y∈oR p W n j v out k,0<=y
 | 0=>ho
 | k+1=>fun y hy=>by
  rw[oR]at hy;rcases List.mem_or_eq_of_mem_set hy with h|h
  ·exact rA p W n j v out hv ho k y h
  ·subst h;exact hv k
abbrev rowLen (C bits:Nat):Nat:=(C*bits+7)/8
structure RS where
 above:Nat->Int
 out:List Int
structure cZ where
 W:Nat
 H:Nat
 n:Nat
 dp:Nat
def cZ.bits (m:cZ):Nat:=m.n*m.dp
def cZ.lead (m:cZ):Nat:=(m.bits+7)/8
def jB (m:cZ)(T:Nat->Nat)(p:Ps)(o j:Nat)(s:RS):Option RS :=
 if 4<T (o+j*(1+rowLen p.C m.bits)) then none
 else some ⟨aj (m8 (T (o+j*(1+rowLen p.C m.bits))) m.lead s.above (fun i=>T (o+j*(1+rowLen p.C m.bits)+1+i)) (rowLen p.C m.bits)),
  oR p m.W m.n j (cR (aj (m8 (T (o+j*(1+rowLen p.C m.bits))) m.lead s.above (fun i=>T (o+j*(1+rowLen p.C m.bits)+1+i)) (rowLen p.C m.bits))) m.dp) s.out (p.C*m.n)⟩
def ft (m:cZ)(T:Nat->Nat)(p:Ps)(o:Nat)(out:List Int):Nat->Option RS
 | 0=>some ⟨fun _=>0,out⟩
 | j+1=>(ft m T p o out j).bind (jB m T p o j)
theorem lr (m:cZ)(T:Nat->Nat)(p:Ps)(o:Nat)(out:List Int)(ho:∀y∈out,0<=y):∀j s,ft m T p o out j=some s->s.out.length=out.length/\(∀y∈s.out,0<=y)/\∀i,0<=s.above i/\s.above i<256
 | 0,s,h=>by
  injection h with h;subst h;exact⟨rfl,ho,fun _=>⟨Int.le_refl _,show (0:Int)<256 by decide⟩⟩
 | j+1,s,h=>by
  rw[ft]at h;obtain⟨s0,h0,h1⟩:=Option.bind_eq_some_iff.mp h;obtain⟨a1,a2,a3⟩:=lr m T p o out ho j s0 h0;unfold jB at h1;split at h1
  ·cases h1
  ·injection h1 with h1;subst h1;refine⟨(Ay _ _ _ _ _ _ _).trans a1,rA _ _ _ _ _ _ (fun k=>Ax (fun i=>m9 _ _ _ _ _ i) _ _) a2 _,fun i=>m9 _ _ _ _ _ i⟩
theorem uj (m:cZ)(T:Nat->Nat)(p:Ps)(o:Nat)(out:List Int)(j:Nat)(h:ft m T p o out j=none):∀d,ft m T p o out (j+d)=none
 | 0=>h
 | d+1=>by show (ft m T p o out (j+d)).bind _=none;rw[uj m T p o out j h d];rfl
def bY (m:cZ)(k:Nat):Ps:=⟨oQ k,o6 k,j5 k,mo k,(m.W+(j5 k-1-oQ k))/j5 k,(m.H+(mo k-1-o6 k))/mo k⟩
def j6 (m:cZ):Ps:=⟨0,0,1,1,m.W,m.H⟩
theorem uk (s t e i:Nat)(h:s<t)(hi:i<(e+(t-1-s))/t):s+i*t<e:=by
 have h1:i+1<=(e+(t-1-s))/t:=hi;rw[Nat.le_div_iff_mul_le (by omega)]at h1;rw[Nat.succ_mul]at h1;omega
theorem yh (m:cZ)(k:Nat):(bY m k).In m.W m.H:=⟨fun _ hi=>uk _ _ _ _ (ww k) hi,fun _ hi=>uk _ _ _ _ (wx k) hi⟩
theorem ur (m:cZ):(j6 m).In m.W m.H:=⟨fun i hi=>by show 0+i*1<m.W;have:i<m.W:=hi;omega,fun i hi=>by show 0+i*1<m.H;have:i<m.H:=hi;omega⟩
def cj (m:cZ)(k:Nat):Nat:=(ip m.W m.H m.bits k).toNat
def j7 (m:cZ)(T:Nat->Nat)(k:Nat)(out:List Int):Option (List Int) :=
 if 0<(bY m k).C/\0<(bY m k).R then (ft m T (bY m k) (cj m k) out (bY m k).R).map RS.out else some out
def eJ (m:cZ)(T:Nat->Nat):Nat->Option (List Int)
 | 0=>some (List.replicate (m.W*m.H*m.n) 0)
 | k+1=>(eJ m T k).bind (j7 m T k)
def lu (m:cZ)(T:Nat->Nat)(on:Bool):Option (List Int) :=
 if on=true then eJ m T 7 else (ft m T (j6 m) 0 (List.replicate (m.W*m.H*m.n) 0) m.H).map RS.out
theorem ly (n:Nat):∀y∈List.replicate n (0:Int),0<=y:=fun y hy=>by rw[List.mem_replicate]at hy;omega
theorem ng (m:cZ)(T:Nat->Nat):∀k l,eJ m T k=some l->l.length=m.W*m.H*m.n/\∀y∈l,0<=y
 | 0,l,h=>by
  injection h with h;subst h;exact⟨by simp,ly _⟩
 | k+1,l,h=>by
  rw[eJ]at h;obtain⟨l0,h0,h1⟩:=Option.bind_eq_some_iff.mp h;obtain⟨a1,a2⟩:=ng m T k l0 h0;unfold j7 at h1;split at h1
  ·obtain⟨s,hs,rfl⟩:=Option.map_eq_some_iff.mp h1;obtain⟨b1,b2,_⟩:=lr m T _ _ _ a2 _ _ hs;exact⟨b1.trans a1,b2⟩
  ·injection h1 with h1;subst h1;exact⟨a1,a2⟩
theorem rB (m:cZ)(T:Nat->Nat)(k:Nat)(h:eJ m T k=none):∀d,eJ m T (k+d)=none
 | 0=>h
 | d+1=>by show (eJ m T (k+d)).bind _=none;rw[rB m T k h d];rfl
theorem wE (m:cZ)(T:Nat->Nat)(on:Bool)(l:List Int)(h:lu m T on=some l):l.length=m.W*m.H*m.n/\∀y∈l,0<=y:=by
 unfold lu at h;split at h
 ·exact ng m T 7 l h
 ·obtain⟨s,hs,rfl⟩:=Option.map_eq_some_iff.mp h;obtain⟨b1,b2,_⟩:=lr m T _ _ _ (ly _) _ _ hs;exact⟨b1.trans (by simp),b2⟩
def cM (m:cZ)(p:Ps):Nat:=p.R*(1+rowLen p.C m.bits)
theorem EC (m:cZ)(k:Nat)(hk:k<7):Ky m.W m.H m.bits k=((if 0<(bY m k).C/\0<(bY m k).R then cM m (bY m k) else 0:Nat):Int):=by
 rw[Kz _ _ _ k hk,one,qJ _ _ _ (ww k),qJ _ _ _ (wx k)];unfold cM bY;dsimp only;generalize (m.W+(j5 k-1-oQ k))/j5 k=C;generalize (m.H+(mo k-1-o6 k))/mo k=R;by_cases h:0<C/\0<R
 ·rw[if_pos (by omega),if_pos h,ad];push_cast;rfl
 ·rw[if_neg (by omega),if_neg h];rfl
theorem nM (m:cZ):∀k,k<=7->ip m.W m.H m.bits k=(cj m k:Int)
 | 0,_=>rfl
 | k+1,h=>by
  unfold cj;have h1:=nM m k (by omega);rw[ip,h1,EC m k (by omega)];omega
theorem j8 (m:cZ)(k:Nat)(hk:k<7):cj m (k+1)=cj m k+if 0<(bY m k).C/\0<(bY m k).R then cM m (bY m k) else 0:=by
 have h1:=nM m (k+1) (by omega);rw[ip,nM m k (by omega),EC m k hk]at h1;omega
theorem ut (m:cZ)(k:Nat):∀d,k+d<=7->cj m k<=cj m (k+d)
 | 0,_=>Nat.le_refl _
 | d+1,h=>by
  have h1:=ut m k d (by omega);have h2:=j8 m (k+d) (by omega);have e:k+(d+1)=k+d+1:=by omega
  rw[e,h2];omega
theorem nN (m:cZ)(on:Bool):raw m.W m.H m.bits on=((if on=true then cj m 7 else cM m (j6 m):Nat):Int):=by
 cases on with
 | true=>exact nM m 7 (Nat.le_refl _)
 | false =>
  show ad m.W m.H m.bits=_;unfold ad cM j6;dsimp only;push_cast;rfl
theorem row_in (m:cZ)(p:Ps)(o j:Nat)(hj:j<p.R){N:Nat}(h:o+cM m p<=N):o+j*(1+rowLen p.C m.bits)+1+rowLen p.C m.bits<=N:=by
 unfold cM at h;have:(j+1)*(1+rowLen p.C m.bits)<=p.R*(1+rowLen p.C m.bits):=Nat.mul_le_mul_right _ hj;rw[Nat.succ_mul]at this;omega
theorem ED (m:cZ)(k:Nat)(hk:k<7)(h:0<(bY m k).C/\0<(bY m k).R):cj m k+cM m (bY m k)<=cj m 7:=by
 have h1:=j8 m k hk;rw[if_pos h]at h1;have h2:=ut m (k+1) (7-(k+1)) (by omega);rw[show k+1+(7-(k+1))=7 by omega]at h2;omega
def dQ (x y:Int):Int:=max (x-y) (y-x)
theorem GF (a b c:Int):wy a b c=if dQ b c<=dQ a c/\dQ b c<=dQ (a+b) (c+c) then a else if dQ a c<=dQ (a+b) (c+c) then b else c:=by
 have e1:mZ (a+b-c) a=dQ b c:=by unfold mZ dQ;split<;>omega
 have e2:mZ (a+b-c) b=dQ a c:=by unfold mZ dQ;split<;>omega
 have e3:mZ (a+b-c) c=dQ (a+b) (c+c):=by unfold mZ dQ;split<;>omega
 unfold wy;rw[e1,e2,e3]
def od (n st k:Nat):Nat:=k/n*(st*n)+k%n
theorem pO {n k:Nat}(hn:0<n)(h:k%n+1=n):(k+1)/n=k/n+1/\(k+1)%n=0:=by
 have h0:=Nat.div_add_mod k n;generalize k/n=q at *;generalize k%n=t at *;subst h0;rw[show n*q+t+1=n*(q+1) by rw[Nat.mul_succ];omega];exact⟨Nat.mul_div_cancel_left _ hn,Nat.mul_mod_right _ _⟩
theorem pP {n k:Nat}(hn:0<n)(h:k%n+1<n):(k+1)/n=k/n/\(k+1)%n=k%n+1:=by
 have h0:=Nat.div_add_mod k n;generalize k/n=q at *;generalize k%n=t at *;subst h0;rw[show n*q+t+1=(t+1)+n*q by omega];exact⟨by rw[Nat.add_mul_div_left _ _ hn,Nat.div_eq_of_lt h,Nat.zero_add],by rw[Nat.add_mul_mod_self_left,Nat.mod_eq_of_lt h]⟩
theorem KA {n k:Nat}(st:Nat)(hn:0<n)(h:k%n+1=n)(hs:1<=st):od n st (k+1)=od n st k+1+(st-1)*n:=by
 obtain⟨h1,h2⟩:=pO hn h;unfold od;rw[h1,h2,Nat.succ_mul];obtain⟨s,rfl⟩:∃s,st=s+1:=⟨st-1,by omega⟩
 rw[Nat.add_sub_cancel,Nat.succ_mul s n];omega
theorem KC {n k:Nat}(st:Nat)(hn:0<n)(h:k%n+1<n):od n st (k+1)=od n st k+1:=by
 obtain⟨h1,h2⟩:=pP hn h;unfold od;rw[h1,h2];omega
def rP (off n st:Nat)(v:Nat->Int)(out:List Int):Nat->List Int
 | 0=>out
 | k+1=>(rP off n st v out k).set (off+od n st k) (v k)
theorem nh (off n st:Nat)(v:Nat->Int)(out:List Int):∀k,(rP off n st v out k).length=out.length
 | 0=>rfl
 | k+1=>by rw[rP,List.length_set,nh off n st v out k]
def dC (p:Ps)(W n j:Nat):Nat:=((p.r0+j*p.rs)*W+p.c0)*n
theorem sD (p:Ps)(W n j k:Nat):p.idx W n j k=dC p W n j+od n p.cs k:=by
 unfold Ps.idx dC od;rw[<-Nat.add_assoc,Nat.add_mul _ (k/n*p.cs) n,Nat.mul_assoc (k/n),Nat.add_assoc]
theorem KE (p:Ps)(W n j:Nat)(v:Nat->Int)(out:List Int):∀k,oR p W n j v out k=rP (dC p W n j) n p.cs v out k
 | 0=>rfl
 | k+1=>by rw[oR,rP,KE p W n j v out k,sD]
theorem yi (C n dp k:Nat)(h:dp=1\/dp=2\/dp=4\/dp=8\/dp=16)(hk:k<C*n):(dp=16->2*k+1<rowLen C (n*dp))/\(dp≠16->k*dp/8<rowLen C (n*dp)):=by
 unfold rowLen;rw[<-Nat.mul_assoc];generalize C*n=N at *;constructor
 ·intro e;subst e;omega
 ·intro e;have h1:(k+1)*dp<=N*dp:=Nat.mul_le_mul_right _ hk;rw[Nat.succ_mul]at h1;generalize k*dp=A at *;generalize N*dp=B at *;omega
def leftV (f lead:Nat)(above r:Nat->Int)(i:Nat):Int:=(r i-gB f (cJ r i lead) (above i) (cJ above i lead))%256
theorem rC (f lead:Nat)(above r:Nat->Int)(i:Nat):0<=leftV f lead above r i/\leftV f lead above r i<256:=by unfold leftV;omega
theorem GG (L:List Int)(i j:Nat)(h:j<i):aj (L.take i) j=aj L j:=by
 unfold aj;rw[List.getD_eq_getElem?_getD,List.getD_eq_getElem?_getD,List.getElem?_take_of_lt h]
theorem EF (f lead:Nat)(above x:Nat->Int)(L:List Int)(hL:∀y∈L,0<=y/\y<256)(hl:1<=lead)(hx:∀i,i<L.length->x i=leftV f lead above (aj L) i):∀i,i<=L.length->m8 f lead above x i=L.take i
 | 0,_=>by rw[m8,List.take_zero]
 | i+1,h=>by
  have ih:=EF f lead above x L hL hl hx i (by omega);rw[m8,ih,hx i (by omega),List.take_add_one,List.getElem?_eq_getElem (by omega),Option.toList_some]
  congr 2
  have hp:cJ (aj (L.take i)) i lead=cJ (aj L) i lead:=by
   unfold cJ;split
   ·exact GG L i _ (by omega)
   ·rfl
  rw[hp];unfold leftV;have hr:=hL _ (List.getElem_mem (show i<L.length by omega))
  have hg:aj L i=L[i]'(by omega):=by
   unfold aj;rw[List.getD_eq_getElem?_getD,List.getElem?_eq_getElem (by omega)];rfl
  rw[hg];generalize gB f _ _ _=t;omega
def bq (v:Nat->Int)(dp size:Nat):Nat->List Int
 | 0=>List.replicate size 0
 | k+1=>if dp=16 then ((bq v dp size k).set (2*k) (v k/256)).set (2*k+1) (v k%256)
  else (bq v dp size k).set (k*dp/8) (aj (bq v dp size k) (k*dp/8)+v k*2^(8-k*dp%8-dp))
theorem iV (v:Nat->Int)(dp size:Nat):∀k,(bq v dp size k).length=size
 | 0=>by rw[bq,List.length_replicate]
 | k+1=>by
  rw[bq];split
  ·rw[List.length_set,List.length_set,iV v dp size k]
  ·rw[List.length_set,iV v dp size k]
theorem j9 (l:List Int)(i j:Nat)(x:Int)(h:i<l.length):aj (l.set i x) j=if i=j then x else aj l j:=by
 unfold aj;rw[List.getD_eq_getElem?_getD,List.getD_eq_getElem?_getD,List.getElem?_set];by_cases e:i=j
 ·subst e;rw[if_pos rfl,if_pos rfl,if_pos h];rfl
 ·rw[if_neg e,if_neg e]
theorem wG (n j:Nat):aj (List.replicate n 0) j=0:=by
 unfold aj;rw[List.getD_eq_getElem?_getD,List.getElem?_replicate];split<;>rfl
theorem NW (B v:Int)(b d:Nat)(h:B%2^(b+d)=0)(hv:0<=v/\v<2^d):(B+v*2^b)/2^b%2^d=v:=by
 have hb:=iq b;rw[Int.add_mul_ediv_right _ _ (by omega)]
 have e:B/2^b%2^d=0:=by
  have h1:=Int.emod_add_mul_ediv B (2^(b+d));rw[h,Int.zero_add,Int.pow_add,Int.mul_assoc]at h1;rw[<-h1,Int.mul_ediv_cancel_left _ (by omega),Int.mul_emod_right]
 rw[Int.add_emod,e,Int.zero_add,Int.emod_emod_of_dvd _ (Int.dvd_refl _)];exact Int.emod_eq_of_lt hv.1 hv.2
theorem Az (B v:Int)(b d e:Nat)(h:B%2^(b+d)=0)(hv:0<=v/\v<2^d)(he:b+d<=e):(B+v*2^b)/2^e=B/2^e:=by
 obtain⟨c,rfl⟩:∃c,e=b+d+c:=⟨e-(b+d),by omega⟩
 have hb:=iq b;have hbd:=iq (b+d);have h1:=Int.emod_add_mul_ediv B (2^(b+d));rw[h,Int.zero_add]at h1
 have h2:0<=v*2^b/\v*2^b<2^(b+d):=by
  refine⟨Int.mul_nonneg hv.1 (by omega),?_⟩;rw[Nat.add_comm b d,Int.pow_add];exact Int.mul_lt_mul_of_pos_right hv.2 hb
 rw[Int.pow_add,<-Int.ediv_ediv_of_nonneg (by omega),<-Int.ediv_ediv_of_nonneg (by omega)]
 congr 1
 generalize v*2^b=x at *;generalize (2:Int)^(b+d)=P at *;rw[<-h1];rw[Int.add_comm,Int.add_mul_ediv_left _ _ (by omega),Int.ediv_eq_zero_of_lt h2.1 h2.2,Int.mul_ediv_cancel_left _ (by omega),Int.zero_add]
theorem AA (B v:Int)(b d:Nat)(h:B%2^(b+d)=0)(hv:0<=v/\v<2^d)(hbd:b+d<=8)(hB:0<=B/\B<256):0<=B+v*2^b/\B+v*2^b<256:=by
 have hb:=iq b;have h2:0<=v*2^b:=Int.mul_nonneg hv.1 (by omega);refine⟨by omega,?_⟩;have h3:=Az B v b d 8 h hv hbd;have e:(2:Int)^8=256:=by decide
 rw[e]at h3;omega
theorem KG (B v:Int)(b d:Nat)(h:B%2^(b+d)=0):(B+v*2^b)%2^b=0:=by
 have h1:=Int.emod_add_mul_ediv B (2^(b+d));rw[h,Int.zero_add,Int.pow_add,Int.mul_assoc]at h1;rw[<-h1,<-Int.mul_comm (2^b) v,<-Int.mul_add];exact Int.mul_emod_right _ _
abbrev rD (dp:Nat):Prop:=dp=1\/dp=2\/dp=4\/dp=8\/dp=16
structure Packed (v:Nat->Int) (dp size k:Nat):Prop where
 byte:∀i,0<=aj (bq v dp size k) i/\aj (bq v dp size k) i<256
 low:dp≠16->aj (bq v dp size k) (k*dp/8)%2^(8-k*dp%8)=0
 zero:dp≠16->∀i,k*dp/8<i->aj (bq v dp size k) i=0
 Sj:∀j,j<k->cR (aj (bq v dp size k)) dp j=v j
theorem packed (v:Nat->Int)(dp size:Nat)(hd:rD dp)(K:Nat)(hv:∀k,k<K->0<=v k/\v k<2^dp)(hs:∀k,k<K->(dp=16->2*k+1<size)/\(dp≠16->k*dp/8<size)):∀k,k<=K->Packed v dp size k
 | 0,_=>by
  have e:∀i,aj (bq v dp size 0) i=0:=fun i=>by rw[bq];exact wG _ _
  exact⟨fun i=>by rw[e];omega,fun _=>by rw[e];exact Int.zero_emod _,fun _ i _=>e i,fun j hj=>absurd hj (by omega)⟩
 | k+1,hk=>by
  have ih:=packed v dp size hd K hv hs k (by omega);have hv:=hv k (by omega);obtain⟨s1,s2⟩:=hs k (by omega);have hlen:=iV v dp size k;by_cases h16:dp=16
  ·subst h16;have s1:=s1 rfl
   have e:∀i,aj (bq v 16 size (k+1)) i=if 2*k+1=i then v k%256 else if 2*k=i then v k/256 else aj (bq v 16 size k) i:=by
    intro i;rw[bq,if_pos rfl,j9 _ _ _ _ (by rw[List.length_set,hlen];exact s1),j9 _ _ _ _ (by rw[hlen];omega)]
   have hv2:v k<65536:=by
    have:(2:Int)^16=65536:=by decide
    omega
   refine⟨fun i=>?_,fun h=>absurd rfl h,fun h=>absurd rfl h,fun j hj=>?_⟩
   ·rw[e];have:=ih.byte i;split
    ·omega
    ·split<;>omega
   ·have i2:=ih.Sj j;unfold cR at i2 ⊢;rw[if_pos rfl]at i2 ⊢;rw[e,e];rcases Nat.lt_or_ge j k with h|h
    ·rw[if_neg (by omega),if_neg (by omega),if_neg (by omega),if_neg (by omega)];exact i2 h
    ·obtain rfl:j=k:=by omega
     rw[if_neg (by omega),if_pos rfl,if_pos rfl];omega
  ·have s2:=s2 h16;have low:=ih.low h16;have zero:=ih.zero h16;have hdp:dp=1\/dp=2\/dp=4\/dp=8:=by unfold rD at hd;omega
   have hfit:k*dp%8+dp<=8:=by rcases hdp with rfl|rfl|rfl|rfl<;>omega
   have e:∀i,aj (bq v dp size (k+1)) i=if k*dp/8=i then aj (bq v dp size k) (k*dp/8)+v k*2^(8-k*dp%8-dp) else aj (bq v dp size k) i:=by
    intro i;rw[bq,if_neg h16,j9 _ _ _ _ (by rw[hlen];exact s2)]
   have lw:aj (bq v dp size k) (k*dp/8)%2^(8-k*dp%8-dp+dp)=0:=by
    rw[show 8-k*dp%8-dp+dp=8-k*dp%8 by omega];exact low
   have bB:=ih.byte (k*dp/8);have nx:(k+1)*dp=k*dp+dp:=Nat.succ_mul k dp;refine⟨fun i=>?_,fun _=>?_,fun _ i hi=>?_,fun j hj=>?_⟩
   ·rw[e];split
    ·exact AA _ _ _ _ lw hv (by omega) bB
    ·exact ih.byte i
   ·rw[e,nx];by_cases hb:k*dp%8+dp=8
    ·rw[if_neg (by omega),zero _ (by omega)];exact Int.zero_emod _
    ·rw[if_pos (by omega),show 8-(k*dp+dp)%8=8-k*dp%8-dp by omega];exact KG _ _ _ _ lw
   ·rw[nx]at hi;rw[e,if_neg (by omega)];exact zero i (by omega)
   ·have i2:=ih.Sj j;unfold cR at i2 ⊢;rw[if_neg h16]at i2 ⊢;rw[e];rcases Nat.lt_or_ge j k with h|h
    ·by_cases hb:k*dp/8=j*dp/8
     ·rw[if_pos hb,Az _ _ _ _ _ lw hv (by
       have:(j+1)*dp<=k*dp:=Nat.mul_le_mul_right _ h;rw[Nat.succ_mul]at this;have:j*dp%8+dp<=8:=by rcases hdp with rfl|rfl|rfl|rfl<;>omega
       omega),hb]
      exact i2 h
     ·rw[if_neg hb];exact i2 h
    ·obtain rfl:j=k:=by omega
     rw[if_pos rfl];exact NW _ _ _ _ lw hv
structure GH (D:Nat->Prop) (out S:List Int):Prop where
 len:out.length=S.length
 at_:∀i,D i->out[i]?=S[i]?
theorem GH.put {D:Nat->Prop}{out S:List Int}(h:GH D out S)(p:Ps)(W n j:Nat)(v:Nat->Int):∀K,(∀k,k<K->S[p.idx W n j k]?=some (v k))->GH (fun i=>D i\/∃k,k<K/\i=p.idx W n j k) (oR p W n j v out K) S
 | 0,_=>⟨h.len,fun i hi=>by
   rcases hi with hi|⟨k,hk,_⟩
   ·exact h.at_ i hi
   ·omega⟩
 | K+1,hv=>by
  have ih:=GH.put h p W n j v K (fun k hk=>hv k (by omega));refine⟨by rw[oR,List.length_set];exact ih.len,fun i hi=>?_⟩;have hK:=hv K (by omega);rw[oR,List.getElem?_set];by_cases e:p.idx W n j K=i
  ·rw[if_pos e];subst e
   have hlt:p.idx W n j K<S.length:=by
    rw[List.getElem?_eq_some_iff]at hK;exact hK.1
   rw[ih.len,if_pos hlt,hK]
  ·rw[if_neg e];refine ih.at_ i ?_;rcases hi with hi|⟨k,hk,he⟩
   ·exact .inl hi
   ·rcases Nat.lt_or_ge k K with h1|h1
    ·exact .inr ⟨k,h1,he⟩
    ·obtain rfl:k=K:=by omega
     exact absurd he.symm e
theorem GH.mono {D E:Nat->Prop}{out S:List Int}(h:GH D out S)(k:∀i,E i->D i):GH E out S:=⟨h.len,fun i hi=>h.at_ i (k i hi)⟩
theorem GH.all {D:Nat->Prop}{out S:List Int}(h:GH D out S)(k:∀i,i<S.length->D i):out=S:=by
 refine List.ext_getElem? fun i=>?_;rcases Nat.lt_or_ge i S.length with hi|hi
 ·exact h.at_ i (k i hi)
 ·rw[List.getElem?_eq_none hi,List.getElem?_eq_none (by rw[h.len];exact hi)]
abbrev rQ (l:List Int)(i:Nat):Nat:=(aj l i).toNat
def yj (S:List Int)(p:Ps)(W n j k:Nat):Int:=aj S (p.idx W n j k)
def iD (m:cZ)(S:List Int)(p:Ps)(j:Nat):List Int:=bq (yj S p m.W m.n j) m.dp (rowLen p.C m.bits) (p.C*m.n)
def cF (m:cZ)(S:List Int)(p:Ps):Nat->List Int
 | 0=>List.replicate (rowLen p.C m.bits) 0
 | j+1=>iD m S p j
theorem nj (m:cZ)(S:List Int)(p:Ps)(j:Nat):(iD m S p j).length=rowLen p.C m.bits:=iV _ _ _ _
theorem uu (m:cZ)(S:List Int)(p:Ps):∀j,(cF m S p j).length=rowLen p.C m.bits
 | 0=>List.length_replicate
 | j+1=>nj m S p j
structure Fits (m:cZ) (S:List Int):Prop where
 len:S.length=m.W*m.H*m.n
 dep:rD m.dp
 val:∀y∈S,0<=y/\y<2^m.dp
theorem Fits.get {m:cZ}{S:List Int}(h:Fits m S)(i:Nat):0<=aj S i/\aj S i<2^m.dp:=by
 unfold aj;rw[List.getD_eq_getElem?_getD];rcases Nat.lt_or_ge i S.length with hi|hi
 ·rw[List.getElem?_eq_getElem hi];exact h.val _ (List.getElem_mem hi)
 ·rw[List.getElem?_eq_none hi];exact⟨Int.le_refl _,iq _⟩
theorem uv {m:cZ}{S:List Int}(h:Fits m S)(p:Ps)(j:Nat){k:Nat}(hk:k<=p.C*m.n):Packed (yj S p m.W m.n j) m.dp (rowLen p.C m.bits) k :=
 packed _ _ _ h.dep (p.C*m.n) (fun _ _=>h.get _) (fun k hk=>yi p.C m.n m.dp k h.dep hk) k hk
theorem uw {m:cZ}{S:List Int}(h:Fits m S)(p:Ps)(j:Nat):∀y∈iD m S p j,0<=y/\y<256:=by
 intro y hy;obtain⟨i,hi,rfl⟩:=List.mem_iff_getElem.1 hy;have:=(uv h p j (Nat.le_refl _)).byte i;unfold aj at this;rw[List.getD_eq_getElem?_getD]at this;have e:(bq (yj S p m.W m.n j) m.dp (rowLen p.C m.bits) (p.C*m.n))[i]?=some ((iD m S p j)[i]):=List.getElem?_eq_getElem hi;rw[e]at this;exact this
theorem C4 {m:cZ}{S:List Int}(h:Fits m S)(p:Ps):∀j,∀y∈cF m S p j,0<=y/\y<256
 | 0=>fun y hy=>by
  have:y=0:=(List.mem_replicate.1 hy).2;omega
 | j+1=>uw h p j
structure nk (m:cZ) (S:List Int) (p:Ps) (T:Nat->Nat) (o fl j:Nat):Prop where
 few:T (o+j*(1+rowLen p.C m.bits))<=4
 said:fl≠5->T (o+j*(1+rowLen p.C m.bits))=fl
 left:∀i,i<rowLen p.C m.bits->(T (o+j*(1+rowLen p.C m.bits)+1+i):Int)=leftV (T (o+j*(1+rowLen p.C m.bits))) m.lead (aj (cF m S p j)) (aj (iD m S p j)) i
theorem KH {m:cZ}(h:0<m.bits):1<=m.lead:=by unfold cZ.lead;omega
theorem rR {m:cZ}{S:List Int}(hf:Fits m S)(hb:0<m.bits){p:Ps}{T:Nat->Nat}{o fl j:Nat}(h:nk m S p T o fl j)(out:List Int): jB m T p o j ⟨aj (cF m S p j),out⟩=some ⟨aj (iD m S p j),oR p m.W m.n j (cR (aj (iD m S p j)) m.dp) out (p.C*m.n)⟩:=by
 have hu:m8 (T (o+j*(1+rowLen p.C m.bits))) m.lead (aj (cF m S p j)) (fun i=>(T (o+j*(1+rowLen p.C m.bits)+1+i):Int)) (rowLen p.C m.bits)=iD m S p j:=by
  have e:=EF (T (o+j*(1+rowLen p.C m.bits))) m.lead (aj (cF m S p j)) (fun i=>(T (o+j*(1+rowLen p.C m.bits)+1+i):Int)) (iD m S p j) (uw hf p j) (KH hb)
   (fun i hi=>h.left i (by rw[nj]at hi;exact hi)) (rowLen p.C m.bits) (by rw[nj];exact Nat.le_refl _)
  rw[e,<-nj m S p j,List.take_length]
 unfold jB;have h4:=h.few;rw[if_neg (by omega)];simp only[hu]
theorem aaL {m:cZ}{S:List Int}(hf:Fits m S){p:Ps}(hp:p.In m.W m.H){j k:Nat}(hj:j<p.R)(hk:k<p.C*m.n):S[p.idx m.W m.n j k]?=some (yj S p m.W m.n j k):=by
 have hlt:=Ps.C3 (n:=m.n) hp hj hk;rw[<-hf.len]at hlt;unfold yj aj;rw[List.getD_eq_getElem?_getD,List.getElem?_eq_getElem hlt];rfl
abbrev C5 (p:Ps)(W n J:Nat)(i:Nat):Prop:=∃j k,j<J/\k<p.C*n/\i=p.idx W n j k
theorem jQ {m:cZ}{S:List Int}(hf:Fits m S)(hb:0<m.bits){p:Ps}(hp:p.In m.W m.H){T:Nat->Nat}{o fl:Nat}{D:Nat->Prop}{out:List Int}(ho:GH D out S):∀J,J<=p.R->(∀j,j<J->nk m S p T o fl j) -> ∃out',ft m T p o out J=some ⟨aj (cF m S p J),out'⟩/\GH (fun i=>D i\/C5 p m.W m.n J i) out' S
 | 0,_,_=>by
  refine⟨out,?_,ho.len,fun i hi=>?_⟩
  ·rw[ft]
   congr 2
   funext i
   exact (wG _ _).symm
  ·rcases hi with hi|⟨j,k,hj,_⟩
   ·exact ho.at_ i hi
   ·omega
 | J+1,hJ,h=>by
  obtain⟨o1,e1,c1⟩:=jQ hf hb hp ho J (by omega) (fun j hj=>h j (by omega));refine⟨_,by rw[ft,e1,Option.bind_some,rR hf hb (h J (by omega))];rfl,?_⟩
  have hv:∀k,k<p.C*m.n->S[p.idx m.W m.n J k]?=some (cR (aj (iD m S p J)) m.dp k):=by
   intro k hk;rw[aaL hf hp (by omega) hk]
   congr 1
   exact ((uv hf p J (Nat.le_refl _)).Sj k hk).symm
  refine (c1.put p m.W m.n J _ _ hv).mono fun i hi=>?_;rcases hi with hi|⟨j,k,hj,hk,he⟩
  ·exact .inl (.inl hi)
  ·rcases Nat.lt_or_ge j J with h1|h1
   ·exact .inl (.inr ⟨j,k,h1,hk,he⟩)
   ·obtain rfl:j=J:=by omega
    exact .inr ⟨k,hk,he⟩
abbrev np (m:cZ)(S:List Int)(T:Nat->Nat)(fl k:Nat):Prop:=0<(bY m k).C->0<(bY m k).R->∀j,j<(bY m k).R->nk m S (bY m k) T (cj m k) fl j
abbrev AB (m:cZ)(K:Nat)(i:Nat):Prop:=∃k,k<K/\0<(bY m k).C/\0<(bY m k).R/\C5 (bY m k) m.W m.n (bY m k).R i
theorem wH {m:cZ}{S:List Int}(hf:Fits m S):GH (fun _=>False) (List.replicate (m.W*m.H*m.n) 0) S:=⟨by rw[List.length_replicate,hf.len],fun _ h=>h.elim⟩
theorem nt {m:cZ}{S:List Int}(hf:Fits m S)(hb:0<m.bits){T:Nat->Nat}{fl:Nat}:∀K,K<=7->(∀k,k<K->np m S T fl k)->∃out,eJ m T K=some out/\GH (AB m K) out S
 | 0,_,_=>⟨_,rfl,(wH hf).mono fun i ⟨k,hk,_⟩=>absurd hk (by omega)⟩
 | K+1,hK,h=>by
  obtain⟨o1,e1,c1⟩:=nt hf hb K (by omega) (fun k hk=>h k (by omega));rw[eJ,e1,Option.bind_some];unfold j7;by_cases hc:0<(bY m K).C/\0<(bY m K).R
  ·obtain⟨o2,e2,c2⟩:=jQ hf hb (yh m K) c1 _ (Nat.le_refl _) (h K (by omega) hc.1 hc.2);rw[if_pos hc,e2];refine⟨o2,rfl,c2.mono fun i ⟨k,hk,a,b,r⟩=>?_⟩;rcases Nat.lt_or_ge k K with h1|h1
   ·exact .inl ⟨k,h1,a,b,r⟩
   ·obtain rfl:k=K:=by omega
    exact .inr r
  ·rw[if_neg hc];refine⟨o1,rfl,c1.mono fun i ⟨k,hk,a,b,r⟩=>?_⟩;rcases Nat.lt_or_ge k K with h1|h1
   ·exact⟨k,h1,a,b,r⟩
   ·obtain rfl:k=K:=by omega
    exact absurd ⟨a,b⟩ hc
theorem GI (x y:Nat):∃k,k<7/\x%j5 k=oQ k/\y%mo k=o6 k:=by
 have hx:x%8<8:=Nat.mod_lt _ (by decide);have hy:y%8<8:=Nat.mod_lt _ (by decide);have key:∀a<8,∀b<8,∃k,k<7/\a%j5 k=oQ k/\b%mo k=o6 k:=by decide
 obtain⟨k,hk,h1,h2⟩:=key _ hx _ hy;refine⟨k,hk,?_,?_⟩
 ·have:∀k<7,8%j5 k=0:=by decide
  rw[<-h1,Nat.mod_mod_of_dvd _ (Nat.dvd_of_mod_eq_zero (this k hk))]
 ·have:∀k<7,8%mo k=0:=by decide
  rw[<-h2,Nat.mod_mod_of_dvd _ (Nat.dvd_of_mod_eq_zero (this k hk))]
theorem EG (s t e x:Nat)(h:s<t)(hx:x<e)(hm:x%t=s):x/t<(e+(t-1-s))/t:=by
 have h1:=Nat.div_add_mod x t;rw[hm]at h1;rw[Nat.lt_div_iff_mul_lt (by omega)];have:x/t*t=t*(x/t):=Nat.mul_comm _ _;omega
theorem KI (n i W:Nat):i=(i/n/W*W+i/n%W)*n+i%n:=by
 have h1:=Nat.div_add_mod i n;have h2:=Nat.div_add_mod (i/n) W;rw[Nat.mul_comm (i/n/W) W,h2,Nat.mul_comm];exact h1.symm
theorem KJ {p:Ps}{W n i:Nat}(hn:0<n)(r c:Nat)(hr:p.r0+r*p.rs=i/n/W)(hc:p.c0+c*p.cs=i/n%W):i=p.idx W n r (c*n+i%n):=by
 unfold Ps.idx;rw[Nat.mul_comm c n,Nat.add_comm (n*c),Nat.add_mul_div_left _ _ hn,Nat.div_eq_of_lt (Nat.mod_lt _ hn),Nat.zero_add,Nat.add_mul_mod_self_left,Nat.mod_mod,hr,hc];exact KI n i W
theorem EH {W H n i:Nat}(hi:i<W*H*n):i/n/W<H:=by
 rw[Nat.div_div_eq_div_mul];refine Nat.div_lt_of_lt_mul ?_;rw[Nat.mul_comm n W,Nat.mul_assoc,Nat.mul_comm n H,<-Nat.mul_assoc];exact hi
theorem KL {n C c i:Nat}(hn:0<n)(h:c<C):c*n+i%n<C*n:=by
 have h1:(c+1)*n<=C*n:=Nat.mul_le_mul_right _ h;rw[Nat.succ_mul]at h1;have:=Nat.mod_lt i hn;omega
theorem wI {s t x:Nat}(hm:x%t=s):s+x/t*t=x:=by
 have h1:=Nat.div_add_mod x t;rw[hm,Nat.mul_comm]at h1;omega
theorem all_in {m:cZ}(hn:0<m.n)(hW:0<m.W){i:Nat}(hi:i<m.W*m.H*m.n):AB m 7 i:=by
 obtain⟨k,hk,h1,h2⟩:=GI (i/m.n%m.W) (i/m.n/m.W);have hC:i/m.n%m.W/j5 k<(bY m k).C:=EG _ _ _ _ (ww k) (Nat.mod_lt _ hW) h1;have hR:i/m.n/m.W/mo k<(bY m k).R:=EG _ _ _ _ (wx k) (EH hi) h2;exact⟨k,hk,Nat.lt_of_le_of_lt (Nat.zero_le _) hC,Nat.lt_of_le_of_lt (Nat.zero_le _) hR,_,_,hR,KL hn hC,KJ hn _ _ (wI h2) (wI h1)⟩
theorem NY {m:cZ}(hn:0<m.n)(hW:0<m.W){i:Nat}(hi:i<m.W*m.H*m.n):C5 (j6 m) m.W m.n m.H i :=
 ⟨i/m.n/m.W,i/m.n%m.W*m.n+i%m.n,EH hi,KL (C:=m.W) hn (Nat.mod_lt _ hW),KJ (p:=j6 m) hn (i/m.n/m.W) (i/m.n%m.W) (by show 0+_*1=_;omega) (by show 0+_*1=_;omega)⟩
def Written (m:cZ)(S:List Int)(T:Nat->Nat)(fl:Nat)(on:Bool):Prop:=if on=true then ∀k,k<7->np m S T fl k else ∀j,j<m.H->nk m S (j6 m) T 0 fl j
theorem yk {m:cZ}{S:List Int}(hf:Fits m S)(hn:0<m.n)(hd:0<m.dp)(hW:0<m.W){T:Nat->Nat}{fl:Nat}{on:Bool}(h:Written m S T fl on):lu m T on=some S:=by
 have hb:0<m.bits:=Nat.mul_pos hn hd;unfold Written at h;unfold lu;split
 ·rename_i e;rw[if_pos e]at h;obtain⟨o,e1,c⟩:=nt hf hb 7 (Nat.le_refl _) h;rw[e1,c.all fun i hi=>all_in hn hW (by rw[<-hf.len];exact hi)]
 ·rename_i e;rw[if_neg e]at h;obtain⟨o,e1,c⟩:=jQ hf hb (ur m) (wH hf) m.H (Nat.le_refl _) h;rw[e1,Option.map_some,c.all fun i hi=>.inr (NY hn hW (by rw[<-hf.len];exact hi))]
theorem nk.congr {m:cZ}{S:List Int}{p:Ps}{T U:Nat->Nat}{o fl j:Nat}(h:nk m S p T o fl j)(e:∀i,i<o+(j+1)*(1+rowLen p.C m.bits)->U i=T i):nk m S p U o fl j:=by
 rw[Nat.succ_mul]at e;have e0:=e (o+j*(1+rowLen p.C m.bits)) (by omega);refine⟨by rw[e0];exact h.few,fun hne=>by rw[e0];exact h.said hne,fun i hi=>?_⟩;rw[e0,e _ (by omega)];exact h.left i hi
end Go.Proofs.YtmfijackgekioaaGreatDoor.Pm
