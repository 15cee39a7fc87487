import Derived.Test.YtmfijackgekioabGreatDoorQA
namespace Go.Proofs.YtmfijackgekioabGreatDoor.Rf
structure St where
 pos:Nat
 bad:Bool
 full:Bool
 out:List UInt8
 kinds:List Int
def bv (L:List Int)(p:Nat):Nat->Int
 | 0=>0
 | k+1=>bv L p k+L.getD (p+k) 0*2^k
def Bits (L:List Int):Prop:=∀j,L.getD j 0=0\/L.getD j 0=1
theorem tA {L:List Int}(h:Bits L)(p k:Nat):0<=bv L p k/\bv L p k<2^k:=by
 induction k with
 | zero=>simp[bv]
 | succ k ih =>
  simp only[bv];have e:(2:Int)^(k+1)=2*2^k:=by rw[Int.pow_succ];omega
  rw[e];rcases h (p+k) with h|h<;>rw[h]<;>omega
def take (L:List Int)(st:St)(n:Nat):Int×St :=
 if L.length<st.pos+n then (0,{ st with bad:=true }) else (bv L st.pos n,{ st with pos:=st.pos+n })
def room (limit:Int)(st:St)(n:Nat):Bool×St :=
 if 0<n/\limit<(st.out.length:Int)+n then (false,{ st with full:=true }) else (true,st)
structure Cs where
 next:Nat
 last:Nat
 out:List Int
def Cp (ls:List Int)(n:Nat)(c:Cs):Nat->Cs
 | 0=>c
 | i+1 =>
  let d:=Cp ls n c i
  if ls.getD i 0=n then { next:=d.next*2^(n-d.last)+1,last:=n,out:=d.out.set i (d.next*2^(n-d.last):Nat) } else d
def cOut (ls:List Int):Nat->Cs
 | 0=>{ next:=0,last:=0,out:=List.replicate ls.length 0 }
 | n+1=>Cp ls (n+1) (cOut ls n) ls.length
def codes (ls:List Int):List Int:=(cOut ls 15).out
theorem tB (ls:List Int)(n:Nat)(c:Cs)(i:Nat):(Cp ls n c i).out.length=c.out.length:=by
 induction i with
 | zero=>rfl
 | succ i ih=>simp only[Cp];split<;>simp[ih]
theorem zU (ls:List Int)(n:Nat):(cOut ls n).out.length=ls.length:=by
 induction n with
 | zero=>simp[cOut]
 | succ n ih=>simp only[cOut,tB,ih]
def fu (ls code:List Int)(n v:Int):Nat->Nat->Option Nat
 | 0,_=>none
 | f+1,i=>if ls.getD i 0=n/\code.getD i 0=v then some i else fu ls code n v f (i+1)
def find (ls code:List Int)(n v:Int):Option Nat:=fu ls code n v ls.length 0
def eg (L ls code:List Int):Nat->Nat->Int->St->Int×St
 | 0,_,_,st=>(0,{ st with bad:=true })
 | f+1,n,v,st =>
  let r:=take L st 1
  if r.2.bad then (0,r.2) else
  match find ls code ((n:Int)+1) (2*v+r.1) with
  | some i=>((i:Int),r.2)
  | none=>eg L ls code f (n+1) (2*v+r.1) r.2
def symbol (L ls code:List Int)(st:St):Int×St:=eg L ls code 15 0 0 st
def iX (L:List Int):Nat->St->St
 | 0,st=>st
 | f+1,st=>if st.bad then st else
  let r:=take L st 8
  iX L f { r.2 with out:=r.2.out++[UInt8.ofNat r.1.toNat] }
def plain (L:List Int)(limit:Int)(st:St):St :=
 let st1:={ st with pos:=(st.pos+7)/8*8 }
 let a:=take L st1 16
 let b:=take L a.2 16
 let dI:=if a.1+b.1=65535 then b.2 else { b.2 with bad:=true }
 if dI.bad then dI else
 let r:=room limit dI a.1.toNat
 if r.1 then iX L a.1.toNat r.2 else r.2
theorem take_one {L:List Int}(h:Bits L)(st:St):0<=(take L st 1).1/\(take L st 1).1<=1:=by
 unfold take;split
 ·simp
 ·have:=tA h st.pos 1;simp only;omega
theorem cQ (L:List Int)(st:St)(n:Nat)(h:st.pos<=L.length):(take L st n).2.pos<=L.length:=by
 unfold take;split
 ·exact h
 ·show st.pos+n<=_;omega
theorem take_range {L:List Int}(h:Bits L)(st:St)(n:Nat):0<=(take L st n).1/\(take L st n).1<2^n:=by
 unfold take;split
 ·have h1:(1:Nat)<=2^n:=Nat.one_le_two_pow;have e:((2:Int)^n)=((2^n:Nat):Int):=by simp
  rw[e];simp only;omega
 ·exact tA h st.pos n
theorem bd (L:List Int)(st:St)(n:Nat):(take L st n).2.out=st.out/\(take L st n).2.kinds=st.kinds/\(take L st n).2.full=st.full:=by
 unfold take;split<;>simp
theorem tC (limit:Int)(st:St)(n:Nat):(room limit st n).2.out=st.out/\(room limit st n).2.kinds=st.kinds/\(room limit st n).2.pos=st.pos/\(room limit st n).2.bad=st.bad:=by
 unfold room;split<;>simp
def fs (ls:List Int):Nat->Nat
 | 0=>0
 | k+1=>fs ls k+if 0<ls.getD k 0 then 32768/2^(ls.getD k 0).toNat else 0
theorem Vt (ls:List Int)(k:Nat):fs ls k<=32768*k:=by
 induction k with
 | zero=>simp[fs]
 | succ k ih =>
  simp only[fs];split
  ·have:=Nat.div_le_self 32768 (2^(ls.getD k 0).toNat);omega
  ·omega
def full (ls:List Int):Bool:=decide (fs ls ls.length=32768)
def CC (i:Nat):Int:=if i<144 then 8 else if i<256 then 9 else if i<280 then 7 else 8
def bV:List Int:=(List.range 288).map CC
def gv:List Int:=(List.range 32).map fun _=>5
def mH (L ls cd:List Int)(n:Nat):Nat->List Int->St->List Int×St
 | 0,out,st=>(out,st)
 | f+1,out,st =>
  if n<=out.length\/st.bad=true then (out,st) else
  let r:=symbol L ls cd st
  if r.2.bad=true then ([],r.2)
  else if r.1<16 then mH L ls cd n f (out++[r.1]) r.2
  else if r.1=16 then
   (if out=[] then ([],{ (take L r.2 2).2 with bad:=true }) else mH L ls cd n f (out++List.replicate (3+(take L r.2 2).1.toNat) (out.getD (out.length-1) 0)) (take L r.2 2).2)
  else if r.1=17 then mH L ls cd n f (out++List.replicate (3+(take L r.2 3).1.toNat) 0) (take L r.2 3).2
  else mH L ls cd n f (out++List.replicate (11+(take L r.2 7).1.toNat) 0) (take L r.2 7).2
def listed (L ls:List Int)(n:Nat)(st:St):List Int×St :=
 let r:=mH L ls (codes ls) n (n+1) [] st
 if r.1.length=n then r else (r.1,{ r.2 with bad:=true })
theorem rM (ls cd:List Int)(n v:Int):∀(f i j:Nat),fu ls cd n v f i=some j->j<i+f
 | 0,_,_,h=>by simp[fu]at h
 | f+1,i,j,h=>by
  rw[fu]at h;split at h
  ·cases h;omega
  ·have:=rM ls cd n v f (i+1) j h;omega
theorem tD (L ls cd:List Int):∀(f n:Nat) (v:Int) (st:St),0<=(eg L ls cd f n v st).1/\((eg L ls cd f n v st).2.bad=false->(eg L ls cd f n v st).1<ls.length)
 | 0,_,_,st=>by simp[eg]
 | f+1,n,v,st=>by
  rw[eg];split
  ·rename_i h;simp only;exact⟨ab2 _,fun h2=>by rw[h]at h2;cases h2⟩
  ·split
   ·rename_i i hi;have:=rM ls cd _ _ _ _ _ hi;exact⟨by simp only;omega,fun _=>by simp only;omega⟩
   ·exact tD L ls cd f (n+1) _ _
theorem gC (L ls cd:List Int)(st:St):0<=(symbol L ls cd st).1/\((symbol L ls cd st).2.bad=false->(symbol L ls cd st).1<ls.length):=tD L ls cd 15 0 0 st
def lenOf (L:List Int)(i:Nat)(st:St):Nat×St :=
 if i=28 then (258,st) else if 8<=i then ((4+i%4)*2^(i/4-1)+3+(take L st (i/4-1)).1.toNat,(take L st (i/4-1)).2) else (i+3,st)
def cm (L:List Int)(j:Nat)(st:St):Nat×St :=
 if 4<=j then ((2+j%2)*2^(j/2-1)+1+(take L st (j/2-1)).1.toNat,(take L st (j/2-1)).2) else (j+1,st)
def zV (d:Nat):Nat->List UInt8->List UInt8
 | 0,o=>o
 | k+1,o=>zV d k (o++[o.getD (o.length-d) 0])
def copied (L:List Int)(limit:Int)(i:Nat)(far code:List Int)(st:St):St :=
 if (lenOf L i st).2.bad=true then (lenOf L i st).2 else
 if (symbol L far code (lenOf L i st).2).2.bad=true\/29<(symbol L far code (lenOf L i st).2).1 then { (symbol L far code (lenOf L i st).2).2 with bad:=true } else
 if (cm L (symbol L far code (lenOf L i st).2).1.toNat (symbol L far code (lenOf L i st).2).2).2.bad=true \/
   (cm L (symbol L far code (lenOf L i st).2).1.toNat (symbol L far code (lenOf L i st).2).2).2.out.length<(cm L (symbol L far code (lenOf L i st).2).1.toNat (symbol L far code (lenOf L i st).2).2).1 then
  { (cm L (symbol L far code (lenOf L i st).2).1.toNat (symbol L far code (lenOf L i st).2).2).2 with bad:=true } else
 if (room limit (cm L (symbol L far code (lenOf L i st).2).1.toNat (symbol L far code (lenOf L i st).2).2).2 (lenOf L i st).1).1=true then
  { (room limit (cm L (symbol L far code (lenOf L i st).2).1.toNat (symbol L far code (lenOf L i st).2).2).2 (lenOf L i st).1).2 with
   out:=zV (cm L (symbol L far code (lenOf L i st).2).1.toNat (symbol L far code (lenOf L i st).2).2).1 (lenOf L i st).1 (room limit (cm L (symbol L far code (lenOf L i st).2).1.toNat (symbol L far code (lenOf L i st).2).2).2 (lenOf L i st).1).2.out }
 else (room limit (cm L (symbol L far code (lenOf L i st).2).1.toNat (symbol L far code (lenOf L i st).2).2).2 (lenOf L i st).1).2
theorem zW (L ls cd:List Int):∀(f n:Nat) (v:Int) (st:St),(eg L ls cd f n v st).2.out=st.out/\(eg L ls cd f n v st).2.kinds=st.kinds/\(eg L ls cd f n v st).2.full=st.full
 | 0,_,_,st=>by simp[eg]
 | f+1,n,v,st=>by
  have h:=bd L st 1;rw[eg];split
  ·exact h
  ·split
   ·exact h
   ·have h2:=zW L ls cd f (n+1) (2*v+(take L st 1).1) (take L st 1).2;exact⟨h2.1.trans h.1,h2.2.1.trans h.2.1,h2.2.2.trans h.2.2⟩
theorem fO (L ls cd:List Int)(st:St):(symbol L ls cd st).2.out=st.out/\(symbol L ls cd st).2.kinds=st.kinds/\(symbol L ls cd st).2.full=st.full:=zW L ls cd 15 0 0 st
def eo (L:List Int)(limit:Int)(ls cd far wx:List Int):Nat->St->St
 | 0,st=>st
 | f+1,st =>
  if (st.bad||st.full)=true then st else
  if (symbol L ls cd st).2.bad=true\/(symbol L ls cd st).1=256 then (symbol L ls cd st).2
  else if (symbol L ls cd st).1<256 then
   eo L limit ls cd far wx f (if (room limit (symbol L ls cd st).2 1).1=true then { (room limit (symbol L ls cd st).2 1).2 with out:=(room limit (symbol L ls cd st).2 1).2.out++[UInt8.ofNat (symbol L ls cd st).1.toNat] } else (room limit (symbol L ls cd st).2 1).2)
  else if 285<(symbol L ls cd st).1 then eo L limit ls cd far wx f { (symbol L ls cd st).2 with bad:=true }
  else eo L limit ls cd far wx f (copied L limit ((symbol L ls cd st).1-257).toNat far wx (symbol L ls cd st).2)
def symbols (L:List Int)(limit:Int)(ls far:List Int)(st:St):St:=eo L limit ls (codes ls) far (codes far) (L.length+2) st
theorem fh (L:List Int)(st:St)(n:Nat):st.pos<=(take L st n).2.pos:=by
 unfold take;split
 ·exact aaf _
 ·show st.pos<=st.pos+n;omega
theorem eQ (L:List Int)(st:St)(n:Nat)(h:(take L st n).2.bad=false):(take L st n).2.pos=st.pos+n/\st.bad=false:=by
 unfold take at *;split at h
 ·cases h
 ·rename_i hn;rw[aag hn];exact⟨rfl,h⟩
theorem qD (L ls cd:List Int):∀(f n:Nat) (v:Int) (st:St),st.pos<=(eg L ls cd f n v st).2.pos
 | 0,_,_,st=>by simp[eg]
 | f+1,n,v,st=>by
  have h:=fh L st 1;rw[eg];split
  ·exact h
  ·split
   ·exact h
   ·exact aba h (qD L ls cd f _ _ _)
theorem Jr (L ls cd:List Int):∀(f n:Nat) (v:Int) (st:St),(eg L ls cd f n v st).2.bad=false->st.pos<(eg L ls cd f n v st).2.pos
 | 0,_,_,st=>by simp[eg]
 | f+1,n,v,st=>by
  rw[eg];split
  ·rename_i h;intro h2;simp only at h2;rw[h]at h2;cases h2
  ·rename_i h;have hb:=eQ L st 1 (by simpa using h);split
   ·intro _;simp only;omega
   ·intro _;have:=qD L ls cd f (n+1) (2*v+(take L st 1).1) (take L st 1).2;omega
theorem tE (L ls cd:List Int)(st:St)(h:(symbol L ls cd st).2.bad=false):st.pos<(symbol L ls cd st).2.pos:=Jr L ls cd 15 0 0 st h
theorem jM (L ls cd:List Int)(st:St):st.pos<=(symbol L ls cd st).2.pos:=qD L ls cd 15 0 0 st
theorem pP (L ls cd:List Int):∀(f n:Nat) (v:Int) (st:St),st.pos<=L.length->(eg L ls cd f n v st).2.pos<=L.length
 | 0,_,_,st,h=>by simpa[eg]using h
 | f+1,n,v,st,h=>by
  have h1:=cQ L st 1 h;rw[eg];split
  ·exact h1
  ·split
   ·exact h1
   ·exact pP L ls cd f _ _ _ h1
theorem oR (d:Nat):∀(k:Nat) (o:List UInt8),(zV d k o).length=o.length+k
 | 0,o=>rfl
 | k+1,o=>by rw[zV,oR d k];simp;omega
theorem zX {L:List Int}(hb:Bits L)(i:Nat)(hi:i<=28)(st:St):(lenOf L i st).1<=258/\st.pos<=(lenOf L i st).2.pos/\(lenOf L i st).2.out=st.out:=by
 unfold lenOf;split
 ·simp
 ·split
  ·rename_i h1 h2;have ht:=take_range hb st (i/4-1);have hs:∀i:Nat,i<28->8<=i->(4+i%4)*2^(i/4-1)+2^(i/4-1)<=256:=by decide +kernel
   have hs:=hs i (by omega) h2;have e:((2:Int)^(i/4-1))=((2^(i/4-1):Nat):Int):=by simp
   rw[e]at ht;refine⟨?_,fh L st _,(bd L st _).1⟩;simp only;omega
  ·simp;omega
theorem wy (L:List Int)(j:Nat)(st:St):st.pos<=(cm L j st).2.pos/\(cm L j st).2.out=st.out:=by
 unfold cm;split
 ·exact⟨fh L st _,(bd L st _).1⟩
 ·simp
theorem Gn {L:List Int}(hb:Bits L)(limit:Int)(i:Nat)(hi:i<=28)(far code:List Int)(st:St): st.pos<=(copied L limit i far code st).pos/\(copied L limit i far code st).out.length<=st.out.length+258:=by
 have h1:=zX hb i hi st;unfold copied;generalize lenOf L i st=A at *;have h2:=jM L far code A.2;have h3:=(fO L far code A.2).1;generalize symbol L far code A.2=S at *;have h4:=wy L S.1.toNat S.2;generalize cm L S.1.toNat S.2=D at *;have h5:=tC limit D.2 A.1;generalize room limit D.2 A.1=R at *
 repeat' split
 ·exact⟨h1.2.1,by rw[h1.2.2];omega⟩
 ·exact⟨by simp only;omega,by simp only;rw[h3,h1.2.2];omega⟩
 ·exact⟨by simp only;omega,by simp only;rw[h4.2,h3,h1.2.2];omega⟩
 ·exact⟨by simp only;rw[h5.2.2.1];omega,by simp only;rw[oR,h5.1,h4.2,h3,h1.2.2];omega⟩
 ·exact⟨by rw[h5.2.2.1];omega,by rw[h5.1,h4.2,h3,h1.2.2];omega⟩
def order:List Nat:=[16,17,18,0,8,7,9,6,10,5,11,4,12,3,13,2,14,1,15]
def iD (L:List Int):Nat->Nat->List Int->St->List Int×St
 | 0,_,ls,st=>(ls,st)
 | f+1,i,ls,st=>if st.bad=true then (ls,st) else iD L f (i+1) (ls.set (order.getD i 0) (take L st 3).1) (take L st 3).2
def fk (far:List Int):Nat->Int
 | 0=>0
 | k+1=>fk far k+far.getD k 0
def mS (far:List Int):Nat->Nat
 | 0=>0
 | k+1=>mS far k+if far.getD k 0=1 then 1 else 0
def jm (l far:List Int):Bool :=
 decide (l.getD 256 0=0)||!full l||(!full far&&(decide (fk far far.length≠0)&&(decide (fk far far.length≠1)||decide (mS far far.length≠1))))
def own (L:List Int)(limit:Int)(st:St):St :=
 let h:=take L st 5
 let d:=take L h.2 5
 let k:=take L d.2 4
 let q:=iD L (k.1.toNat+4) 0 (List.replicate 19 0) k.2
 if q.2.bad=true\/29<h.1\/29<d.1\/full q.1=false then { q.2 with bad:=true } else
 let a:=listed L q.1 (h.1+d.1+258).toNat q.2
 if a.2.bad=true then a.2 else
 if jm (a.1.take (h.1.toNat+257)) (a.1.drop (h.1.toNat+257))=true then { a.2 with bad:=true } else
 symbols L limit (a.1.take (h.1.toNat+257)) (a.1.drop (h.1.toNat+257)) a.2
theorem pQ:∀i,order.getD i 0<19:=by
 intro i;by_cases h:i<19
 ·exact (show ∀i,i<19->order.getD i 0<19 by decide) i h
 ·have e:order.getD i 0=0:=by
   have hl:order.length<=i:=by simp[order];omega
   simp[List.getD,List.getElem?_eq_none hl]
  omega
def dR (ls:List Int)(b:Int):Prop:=∀j,0<=ls.getD j 0/\ls.getD j 0<=b
theorem qE (n:Nat)(b:Int)(hb:0<=b):dR (List.replicate n 0) b:=by
 intro j;have:(List.replicate n (0:Int)).getD j 0=0:=by simp[List.getD,List.getElem?_replicate];split<;>rfl
 omega
theorem CD {ls:List Int}{b:Int}(h:dR ls b)(i:Nat)(x:Int)(hx:0<=x/\x<=b):dR (ls.set i x) b:=by
 intro j;have:=h j;simp only[List.getD,List.getElem?_set]at *;split
 ·split
  ·simpa using hx
  ·simp;omega
 ·exact this
theorem iw {a c:List Int}{b:Int}(h1:dR a b)(h2:dR c b):dR (a++c) b:=by
 intro j;by_cases hj:j<a.length
 ·have:=h1 j;simpa[List.getD,List.getElem?_append_left hj]using this
 ·have:=h2 (j-a.length);simpa[List.getD,List.getElem?_append_right (show a.length<=j by omega)]using this
theorem lC (n:Nat)(x b:Int)(hx:0<=x/\x<=b):dR (List.replicate n x) b:=by
 intro j;simp only[List.getD,aci];split
 ·simpa using hx
 ·simp;omega
theorem zY {ls:List Int}{b:Int}(h:dR ls b)(n:Nat)(hb:0<=b):dR (ls.take n) b:=by
 intro j;simp only[List.getD,ab6];split
 ·exact h j
 ·simp;omega
theorem zZ {ls:List Int}{b:Int}(h:dR ls b)(n:Nat):dR (ls.drop n) b:=by
 intro j;have:=h (n+j);simpa[List.getD,List.getElem?_drop]using this
theorem rN (L:List Int):∀(f i:Nat) (ls:List Int) (st:St),(iD L f i ls st).1.length=ls.length
 | 0,_,_,_=>rfl
 | f+1,i,ls,st=>by
  rw[iD];split
  ·rfl
  ·rw[rN L f];simp
theorem jn {L:List Int}(hb:Bits L)(ls cd:List Int)(hl:ls.length=19)(n:Nat):∀(f:Nat) (out:List Int) (st:St),dR out 15->dR (mH L ls cd n f out st).1 15
 | 0,_,_,h=>h
 | f+1,out,st,h=>by
  have hs:=gC L ls cd st;have h0:dR [] 15:=fun j=>by simp
  simp only[mH];split
  ·exact h
  ·split
   ·exact h0
   ·rename_i hbad;split
    ·rename_i h16;refine jn hb ls cd hl n f _ _ (iw h ?_);exact lC 1 _ 15 ⟨hs.1,by omega⟩
    ·split
     ·split
      ·exact h0
      ·exact jn hb ls cd hl n f _ _ (iw h (lC _ _ 15 (h _)))
     ·split
      ·exact jn hb ls cd hl n f _ _ (iw h (lC _ _ 15 (by omega)))
      ·exact jn hb ls cd hl n f _ _ (iw h (lC _ _ 15 (by omega)))
theorem vQ {L:List Int}(hb:Bits L)(ls:List Int)(hl:ls.length=19)(n:Nat)(st:St):dR (listed L ls n st).1 15:=by
 have h:=jn hb ls (codes ls) hl n (n+1) [] st (fun j=>by simp);unfold listed;simp only;split
 ·exact h
 ·exact h
end Go.Proofs.YtmfijackgekioabGreatDoor.Rf
namespace Go.Proofs.YtmfijackgekioabGreatDoor.Mx
def ad:List UInt8->Int×Int->Int×Int
 | [],p=>p
 | c::r,p=>ad r ((p.1+c.toNat)%65521,(p.2+(p.1+c.toNat)%65521)%65521)
theorem EL (l:List UInt8)(c:UInt8)(p:Int×Int): ad (l++[c]) p=(((ad l p).1+c.toNat)%65521,((ad l p).2+((ad l p).1+c.toNat)%65521)%65521):=by
 induction l generalizing p with
 | nil=>rfl
 | cons x r ih=>exact ih _
def Je (l:List UInt8):Int:=(ad l (1,0)).1
def Nh (l:List UInt8):Int:=(ad l (1,0)).2
theorem kH (l:List UInt8)(p:Int×Int)(h1:0<=p.1/\p.1<=65520)(h2:0<=p.2/\p.2<=65520): (0<=(ad l p).1/\(ad l p).1<=65520)/\(0<=(ad l p).2/\(ad l p).2<=65520):=by
 induction l generalizing p with
 | nil=>exact⟨h1,h2⟩
 | cons x r ih=>exact ih _ (by simp only;omega) (by simp only;omega)
theorem qF (l:List UInt8):0<=Je l/\Je l<=65520:=(kH l (1,0) (by simp) (by simp)).1
theorem qG (l:List UInt8):0<=Nh l/\Nh l<=65520:=(kH l (1,0) (by simp) (by simp)).2
theorem Js (l:List UInt8)(c:UInt8):Je (l++[c])=(Je l+c.toNat)%65521:=by simp only[Je,EL]
theorem Jt (l:List UInt8)(c:UInt8):Nh (l++[c])=(Nh l+(Je l+c.toNat)%65521)%65521:=by simp only[Je,Nh,EL]
def eH (l:List UInt8):Int:=65536*Nh l+Je l
theorem qH (s:ByteArray)(k:Nat)(h:k<s.size):s.data.toList.take (k+1)=s.data.toList.take k++[s[k]]:=by
 rw[aa7 (by simpa using h)];rfl
def M5 (x:Nat):Nat:=(x/2)^^^(3988292384*(x%2))
def yi:Nat->Nat->Nat
 | 0,x=>x
 | k+1,x=>M5 (yi k x)
theorem Rq (x:Nat)(h:x<4294967296):M5 x<4294967296:=by
 unfold M5;have:x%2<=1:=by omega
 exact Nat.xor_lt_two_pow (n:=32) (by omega) (by omega)
theorem jN (k x:Nat)(h:x<4294967296):yi k x<4294967296:=by
 induction k with
 | zero=>exact h
 | succ k ih=>exact Rq _ ih
def reg:List UInt8->Nat->Nat
 | [],r=>r
 | c::l,r=>reg l (yi 8 (r^^^c.toNat))
theorem Ju (l:List UInt8)(c:UInt8)(r:Nat):reg (l++[c]) r=yi 8 (reg l r^^^c.toNat):=by
 induction l generalizing r with
 | nil=>rfl
 | cons x l ih=>exact ih _
def mT (l:List UInt8):Nat:=reg l 4294967295
theorem j7 (a b:Nat)(ha:a<4294967296)(hb:b<4294967296):a^^^b<4294967296:=Nat.xor_lt_two_pow (n:=32) ha hb
theorem Jv (l:List UInt8)(r:Nat)(h:r<4294967296):reg l r<4294967296:=by
 induction l generalizing r with
 | nil=>exact h
 | cons c l ih=>exact ih _ (jN _ _ (j7 _ _ h (by have:=c.toNat_lt;omega)))
theorem EM (l:List UInt8):mT l<4294967296:=Jv l _ (by omega)
theorem Gp (l:List UInt8)(c:UInt8):mT (l++[c])=yi 8 (mT l^^^c.toNat):=Ju l c _
def num:List UInt8->Nat
 | []=>0
 | c::l=>c.toNat+256*num l
def some (c:UInt8)(j:Nat):List Int:=(List.range j).map fun t=>((c.toNat/2^t%2:Nat):Int)
theorem jO (c:UInt8)(j:Nat):(some c j).length=j:=by simp[some]
def low:List UInt8->List Int
 | []=>[]
 | c::l=>some c 8++low l
theorem oS (l:List UInt8):(low l).length=8*l.length:=by
 induction l with
 | nil=>rfl
 | cons x l ih=>simp only[low,aae,jO,ih,aaw];omega
end Go.Proofs.YtmfijackgekioabGreatDoor.Mx
