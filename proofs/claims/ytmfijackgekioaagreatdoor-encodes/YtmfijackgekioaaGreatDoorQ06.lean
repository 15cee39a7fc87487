import Derived.Test.YtmfijackgekioaaGreatDoorQ02
import Derived.DeepKeys4
import Derived.Maps.OwnSet
import Derived.Deep.DeepCutAuto
import Derived.Deep.CutBlock
import Derived.Deep.RegionHeld3
import Derived.Deep.RegionWith
import Derived.Deep.RegionLaw
set_option maxHeartbeats 1000000
set_option maxRecDepth 100000
namespace Go.Proofs.YtmfijackgekioaaGreatDoor
open Go.RowKit
theorem one_cell {w:World}{b:Nat}{v:Value}{t:TypeId}(h:w.heap[b]?=some (.cells #[v] t (0,0))):w.cell? ⟨b,0,none⟩=some v/\w.frozen? ⟨b,0,none⟩=false/\b<w.heap.size :=
 ⟨aan _ _ _ _ _ _ h,aaE w b 0 _ _ h,aab h⟩
theorem one_set {w:World}{b:Nat}{v:Value}{t:TypeId}(h:w.heap[b]?=some (.cells #[v] t (0,0)))(u:Value):(w.setCell ⟨b,0,none⟩ u).heap[b]?=some (.cells #[u] t (0,0)):=(aat w b 0 _ _ u h).trans rfl
theorem d8 {w:World}{C:Nat}{cs:Array Value}{t:TypeId}(h:w.heap[C]?=some (.cells cs t (0,0)))(j:Nat):w.cell? ⟨C,j,none⟩=cs[j]?:=by
 simp[World.cell?,h]
theorem ag (w:World)(o:Obj):Below w.heap.size w (w.alloc o):=(aak _ _).alloc (aad _) _
theorem fX (b off j:Nat):(⟨b,off,none⟩:Addr).add j=⟨b,off+j,none⟩:=by
 unfold Addr.add;split
 ·next h=>rw[h,abQ]
 ·rfl
theorem aU {w:World}{base e n:Nat}{v:Value}{xs:List Value}(h:w.ownsRow base e 2 v n xs):∃ao cap,v=.slice ao n cap:=by
 rcases h.2 with⟨rfl,rfl⟩|⟨g,cap,cur,rfl,_⟩
 ·exact⟨_,_,rfl⟩
 ·exact⟨_,_,rfl⟩
theorem bK {w w':World}{base:Nat}{e:TypeId}{size:Nat}{v:Value}{n:Nat}{xs:List Value}(h:w.ownsRow base e size v n xs)(hk:∀g,v.ownBlock=some g->w'.heap[g]?=w.heap[g]?):w'.ownsRow base e size v n xs:=by
 refine⟨h.1,?_⟩;rcases h.2 with h'|⟨g,cap,cur,rfl,hb,hg,r⟩
 ·exact .inl h'
 ·exact .inr ⟨g,cap,cur,rfl,hb,(hk g rfl).trans hg,r⟩
def bM (w:World)(X:Nat)(v:Value)(t:TypeId):Prop:=w.heap[X]?=some (.cells #[v] t (0,0))
theorem bM.below {w w':World}{X:Nat}{v:Value}{t:TypeId}(h:bM w X v t)(k:Below w.heap.size w w'):bM w' X v t:=(k.block _ (aab h)).trans h
theorem bM.cell {w:World}{X:Nat}{v:Value}{t:TypeId}(h:bM w X v t):w.cell? ⟨X,0,none⟩=some v:=(one_cell h).1
theorem sf (w:World)(o0 o1 o2 o3:Obj):Below w.heap.size w ((((w.alloc o0).alloc o1).alloc o2).alloc o3)/\((((w.alloc o0).alloc o1).alloc o2).alloc o3).heap[w.heap.size]?=some o0/\((((w.alloc o0).alloc o1).alloc o2).alloc o3).heap[w.heap.size+1]?=some o1/\((((w.alloc o0).alloc o1).alloc o2).alloc o3).heap[w.heap.size+1+1]?=some o2/\((((w.alloc o0).alloc o1).alloc o2).alloc o3).heap[w.heap.size+1+1+1]?=some o3:=by
 have a1:=ak (w.alloc o0) o1;have a2:=ak ((w.alloc o0).alloc o1) o2;have a3:=ak (((w.alloc o0).alloc o1).alloc o2) o3;simp only[aaC]at a1 a2 a3;exact⟨((((aak _ _).alloc (aad _) _).alloc (by simp) _).alloc (by simp;omega) _).alloc (by simp;omega) _,aw (aw (aw (ak w o0) _) _) _,aw (aw a1 _) _,aw a2 _,a3⟩
theorem aQ {w:World}{T:Nat}{a b:Value}{t:TypeId}(h:w.heap[T]?=some (.cells #[a,b] t (0,0))): w.cell? ⟨T,0,none⟩=some a/\w.cell? ⟨T,1,none⟩=some b/\(∀j,w.frozen? ⟨T,j,none⟩=false)/\T<w.heap.size :=
 ⟨aan _ _ _ _ _ _ h,aan _ _ _ _ _ _ h,fun j=>aaE w T j _ _ h,aab h⟩
theorem vh (w:World)(o0 o1 o2 o3 o4 o5:Obj):Below w.heap.size w ((((((w.alloc o0).alloc o1).alloc o2).alloc o3).alloc o4).alloc o5)/\((((((w.alloc o0).alloc o1).alloc o2).alloc o3).alloc o4).alloc o5).heap[w.heap.size]?=some o0/\((((((w.alloc o0).alloc o1).alloc o2).alloc o3).alloc o4).alloc o5).heap[w.heap.size+1]?=some o1/\((((((w.alloc o0).alloc o1).alloc o2).alloc o3).alloc o4).alloc o5).heap[w.heap.size+1+1]?=some o2/\((((((w.alloc o0).alloc o1).alloc o2).alloc o3).alloc o4).alloc o5).heap[w.heap.size+1+1+1]?=some o3/\((((((w.alloc o0).alloc o1).alloc o2).alloc o3).alloc o4).alloc o5).heap[w.heap.size+1+1+1+1]?=some o4/\((((((w.alloc o0).alloc o1).alloc o2).alloc o3).alloc o4).alloc o5).heap[w.heap.size+1+1+1+1+1]?=some o5:=by
 have a1:=ak (w.alloc o0) o1;have a2:=ak ((w.alloc o0).alloc o1) o2;have a3:=ak (((w.alloc o0).alloc o1).alloc o2) o3;have a4:=ak ((((w.alloc o0).alloc o1).alloc o2).alloc o3) o4;have a5:=ak (((((w.alloc o0).alloc o1).alloc o2).alloc o3).alloc o4) o5;simp only[aaC]at a1 a2 a3 a4 a5;exact⟨((((((aak _ _).alloc (aad _) _).alloc (by simp) _).alloc (by simp;omega) _).alloc (by simp;omega) _).alloc (by simp;omega) _).alloc (by simp;omega) _,(aw (aw (aw (aw (aw (ak w o0) _) _) _) _) _),(aw (aw (aw (aw a1 _) _) _) _),(aw (aw (aw a2 _) _) _),(aw (aw a3 _) _),(aw a4 _),a5⟩
theorem bO (w:World)(o0 o1:Obj):Below w.heap.size w ((w.alloc o0).alloc o1)/\((w.alloc o0).alloc o1).heap[w.heap.size]?=some o0/\((w.alloc o0).alloc o1).heap[w.heap.size+1]?=some o1:=by
 have a1:=ak (w.alloc o0) o1;simp only[aaC]at a1;exact⟨((aak _ _).alloc (aad _) _).alloc (by simp) _,(aw (ak w o0) _),a1⟩
theorem gK {w:World}{b:Nat}{a c:Value}{t:TypeId}(h:w.heap[b]?=some (.cells #[a,c] t (0,0)))(x y:Value):((w.setCell ⟨b,0,none⟩ x).setCell ⟨b,1,none⟩ y).heap[b]?=some (.cells #[x,y] t (0,0)) :=
 (aat _ b 1 _ _ y ((aat w b 0 _ _ x h).trans rfl)).trans rfl
theorem sg (w:World)(o0 o1 o2 o3 o4:Obj):Below w.heap.size w (((((w.alloc o0).alloc o1).alloc o2).alloc o3).alloc o4)/\(((((w.alloc o0).alloc o1).alloc o2).alloc o3).alloc o4).heap[w.heap.size]?=some o0/\(((((w.alloc o0).alloc o1).alloc o2).alloc o3).alloc o4).heap[w.heap.size+1]?=some o1/\(((((w.alloc o0).alloc o1).alloc o2).alloc o3).alloc o4).heap[w.heap.size+1+1]?=some o2/\(((((w.alloc o0).alloc o1).alloc o2).alloc o3).alloc o4).heap[w.heap.size+1+1+1]?=some o3/\(((((w.alloc o0).alloc o1).alloc o2).alloc o3).alloc o4).heap[w.heap.size+1+1+1+1]?=some o4:=by
 have a1:=ak (w.alloc o0) o1;have a2:=ak ((w.alloc o0).alloc o1) o2;have a3:=ak (((w.alloc o0).alloc o1).alloc o2) o3;have a4:=ak ((((w.alloc o0).alloc o1).alloc o2).alloc o3) o4;simp only[aaC]at a1 a2 a3 a4;exact⟨(((((aak _ _).alloc (aad _) _).alloc (by simp) _).alloc (by simp;omega) _).alloc (by simp;omega) _).alloc (by simp;omega) _,(aw (aw (aw (aw (ak w o0) _) _) _) _),(aw (aw (aw a1 _) _) _),(aw (aw a2 _) _),(aw a3 _),a4⟩
theorem sh {P:Program}{f:FuncId}{args:Array Value}{w:World}{x:Nat}{v:Value}(h:Calls P f args (w.drewN x) fun e w'=>e=.returned v/\∃n,w'=(w.drewN x).drewN n):Calls P f args (w.drewN x) fun e w''=>e=.returned v/\∃n,w''=w.drewN n :=
 h.mono fun _ _ ⟨he,n,hn⟩=>⟨he,x+n,by rw[hn];simp⟩
theorem fY {w w':World}{Q:Nat->Prop}{X:Nat}{o:Obj}(h:w.heap[X]?=some o)(k:Kp Q w w')(hq:¬Q X):w'.heap[X]?=some o:=(k.block X (aab h) hq).trans h
theorem byte_at (T:ByteArray)(j:Nat)(h:j<T.size):T[j].toNat=(T.data.toList.getD j 0).toNat:=by
 rw[aaa,aai (by simpa using h)];rfl
theorem wP (T:ByteArray)(j:Nat)(h:j<T.size)(v:Int)(hv:v=(j:Int))(u:World):(Instr.index 9 (.string T) (.int .i64 v)).run Tryz.prog u=.ok (.int .u8 ((T.data.toList.getD j 0).toNat:Nat)) u:=by
 subst hv;rw[<-byte_at T j h];simp[go_sem,Instr.index,h]
abbrev dies (code:Int):Ending:=.panicked [{ v:=.iface 113 (.int .i64 code),recovered:=false }]
def bt (s:ByteArray)(j:Nat):Int:=(Mx.low s.data.toList).getD j 0
theorem Ld (c:UInt8)(j:Nat)(h:j<8):(Mx.some c 8).getD j 0=((c.toNat/2^j%2:Nat):Int):=by
 simp[Mx.some,List.getD,h]
theorem wQ (l:List UInt8)(j:Nat):(Mx.low l).getD j 0=(((l.getD (j/8) 0).toNat/2^(j%8)%2:Nat):Int):=by
 induction l generalizing j with
 | nil=>simp[Mx.low,List.getD]
 | cons c l ih =>
  by_cases h:j<8
  ·have e:(Mx.low (c::l)).getD j 0=(Mx.some c 8).getD j 0:=by
    simp only[Mx.low,List.getD];rw[aaS (by rw[Mx.i9];exact h)]
   rw[e,Ld c j h,show j/8=0 by omega,show j%8=j by omega];rfl
  ·have e:(Mx.low (c::l)).getD j 0=(Mx.low l).getD (j-8) 0:=by
    simp only[Mx.low,List.getD];rw[aaG (by rw[Mx.i9];omega),Mx.i9]
   rw[e,ih,show (j-8)/8=j/8-1 by omega,show (j-8)%8=j%8 by omega];obtain⟨q,hq⟩:∃q,j/8=q+1:=⟨j/8-1,by omega⟩
   rw[hq];rfl
abbrev lw (s:ByteArray):List Int:=Mx.low s.data.toList
end Go.Proofs.YtmfijackgekioaaGreatDoor
namespace Go.Proofs.YtmfijackgekioaaGreatDoor.Rf
def pP (ls:List Int)(n b:Nat):Nat->Nat
 | 0=>b
 | i+1=>pP ls n b i+if ls.getD i 0=(n:Int) then 1 else 0
def kP (ls:List Int):Nat->Nat
 | 0=>0
 | n+1=>pP ls (n+1) (2*kP ls n) ls.length
abbrev nx (ls:List Int)(n i:Nat):Nat:=pP ls (n+1) (2*kP ls n) i
theorem yK (ls:List Int)(n b i j:Nat)(h:i<=j):pP ls n b i<=pP ls n b j:=by
 induction j with
 | zero=>simp[show i=0 by omega]
 | succ j ih =>
  by_cases e:i=j+1
  ·rw[e];exact aad _
  ·have:=ih (by omega);simp only[pP];omega
theorem wR (ls:List Int)(n b i j:Nat)(h:i<j)(hi:ls.getD i 0=(n:Int)):pP ls n b i<pP ls n b j:=by
 have h1:=yK ls n b (i+1) j (by omega);simp only[pP,aaf hi]at h1;omega
theorem CY (ls:List Int)(n b:Nat)(c:Cs)(hl:c.last<=n)(hb:c.next*2^(n-c.last)=b)(i:Nat): (iX ls n c i).last<=n/\(iX ls n c i).next*2^(n-(iX ls n c i).last)=pP ls n b i:=by
 induction i with
 | zero=>exact⟨hl,hb⟩
 | succ i ih =>
  simp only[iX,pP];split
  ·exact⟨aad _,by simp only[Nat.sub_self,Nat.pow_zero,Nat.mul_one];rw[ih.2]⟩
  ·exact⟨ih.1,by rw[ih.2];rfl⟩
theorem Hg (ls:List Int)(n:Nat):(cOut ls n).last<=n/\(cOut ls n).next*2^(n-(cOut ls n).last)=kP ls n:=by
 induction n with
 | zero=>simp[cOut,kP]
 | succ n ih =>
  simp only[cOut,kP];refine CY ls (n+1) (2*kP ls n) _ (by omega) ?_ _;rw[<-ih.2,show n+1-(cOut ls n).last=(n-(cOut ls n).last)+1 by omega,ab1];rw[<-aa0,aaV]
theorem Hh (ls:List Int)(n i:Nat):(iX ls (n+1) (cOut ls n) i).next*2^(n+1-(iX ls (n+1) (cOut ls n) i).last)=nx ls n i:=by
 have h:=Hg ls n;refine (CY ls (n+1) (2*kP ls n) _ (by omega) ?_ i).2;rw[<-h.2,show n+1-(cOut ls n).last=(n-(cOut ls n).last)+1 by omega,ab1];rw[<-aa0,aaV]
theorem lO (l:List Int)(i j:Nat)(x:Int)(h:j≠i):(l.set i x).getD j 0=l.getD j 0:=by
 simp only[List.getD];rw[aca (Ne.symm h)]
theorem uC (l:List Int)(i:Nat)(x:Int)(h:i<l.length):(l.set i x).getD i 0=x:=by
 simp[List.getD,h]
theorem EC (ls:List Int)(n:Nat)(c:Cs)(i j:Nat)(h:ls.getD j 0≠(n:Int)\/i<=j):(iX ls n c i).out.getD j 0=c.out.getD j 0:=by
 induction i with
 | zero=>rfl
 | succ i ih =>
  simp only[iX];have ih':=ih (by omega);split
  ·rename_i hi;simp only;rw[lO _ _ _ _ (by rintro rfl;rcases h with h|h;exact h hi;omega)];exact ih'
  ·exact ih'
theorem ED (ls:List Int)(n:Nat)(c:Cs)(j k:Nat)(h:j<k):∀i,i=k->ls.getD j 0=(n:Int)->(iX ls n c i).out.getD j 0=(iX ls n c (j+1)).out.getD j 0:=by
 intro i hi hj;subst hi
 induction i with
 | zero=>omega
 | succ i ih =>
  by_cases e:i=j
  ·subst e;rfl
  ·have ih':=ih (by omega);rw[iX];split
   ·simp only;rw[lO _ _ _ _ (fun e2=>e e2.symm)];exact ih'
   ·exact ih'
theorem A3 (ls:List Int)(j m:Nat)(h:ls.getD j 0<=(m:Int)):∀k,(cOut ls (m+k)).out.getD j 0=(cOut ls m).out.getD j 0:=by
 intro k
 induction k with
 | zero=>rfl
 | succ k ih =>
  rw[show m+(k+1)=(m+k)+1 by omega,cOut,EC ls _ _ _ _ (.inl (by omega))];exact ih
theorem oQ (ls:List Int)(n j:Nat)(hn:n<15)(hj:j<ls.length)(h:ls.getD j 0=((n+1:Nat):Int)):(codes ls).getD j 0=((nx ls n j:Nat):Int):=by
 have e1:(codes ls).getD j 0=(cOut ls (n+1)).out.getD j 0:=by
  have:=A3 ls j (n+1) (by omega) (15-(n+1));rw[show n+1+(15-(n+1))=15 by omega]at this;exact this
 rw[e1,cOut,ED ls (n+1) _ j ls.length hj _ rfl h,iX];rw[aaf h];simp only;rw[uC _ _ _ (by rw[n9,lz];exact hj),Hh]
def AJ (ls:List Int)(n:Nat):Nat->Nat
 | 0=>0
 | k+1=>AJ ls n k+if 0<ls.getD k 0/\ls.getD k 0<=(n:Int) then 2^(15-(ls.getD k 0).toNat) else 0
theorem OC (ls:List Int)(hw:∀j,ls.getD j 0<=15)(n:Nat)(k:Nat):AJ ls n k<=fs ls k:=by
 induction k with
 | zero=>exact aad _
 | succ k ih =>
  simp only[AJ,fs]
  have e:(0<ls.getD k 0)->32768/2^(ls.getD k 0).toNat=2^(15-(ls.getD k 0).toNat):=fun h0=>by
   have h15:=hw k;have:(ls.getD k 0).toNat<=15:=by omega
   rw[show (32768:Nat)=2^15 from rfl,Nat.pow_div this (by omega)]
  by_cases h:0<ls.getD k 0
  ·rw[aaf h,e h];split
   ·omega
   ·exact aaz ih (Nat.le_add_right _ _)
  ·rw[aae h,aae (fun h2=>h h2.1)];omega
theorem Hj (ls:List Int)(n:Nat)(k:Nat):∀i,i<=k->AJ ls n k+AJ ls (n+1) i<=AJ ls (n+1) k+AJ ls n i:=by
 induction k with
 | zero=>intro i hi;simp[show i=0 by omega,AJ]
 | succ k ih =>
  intro i hi;by_cases e:i=k+1
  ·subst e;omega
  ·have:=ih i (by omega);simp only[AJ]
   have:(if 0<ls.getD k 0/\ls.getD k 0<=(n:Int) then 2^(15-(ls.getD k 0).toNat) else 0)<=(if 0<ls.getD k 0/\ls.getD k 0<=((n+1:Nat):Int) then 2^(15-(ls.getD k 0).toNat) else 0):=by
    split
    ·rw[aaf (by omega)];exact aad _
    ·omega
   omega
theorem CZ (ls:List Int)(n b:Nat)(hn:n<15)(i:Nat):pP ls (n+1) b i*2^(14-n)+AJ ls n i=b*2^(14-n)+AJ ls (n+1) i:=by
 induction i with
 | zero=>simp[pP,AJ]
 | succ i ih =>
  simp only[pP,AJ];by_cases h:ls.getD i 0=((n+1:Nat):Int)
  ·have e:(ls.getD i 0).toNat=n+1:=by omega
   rw[aaf h,aae (by omega),aaf (by omega),e,Nat.add_mul,show 15-(n+1)=14-n by omega];omega
  ·have e:(if 0<ls.getD i 0/\ls.getD i 0<=(n:Int) then 2^(15-(ls.getD i 0).toNat) else 0)=(if 0<ls.getD i 0/\ls.getD i 0<=((n+1:Nat):Int) then 2^(15-(ls.getD i 0).toNat) else 0):=by
    by_cases h2:0<ls.getD i 0/\ls.getD i 0<=(n:Int)
    ·rw[aaf h2,aaf (by omega)]
    ·rw[aae h2,aae (by omega)]
   rw[aae h,e,abQ];omega
theorem Hk (ls:List Int)(k:Nat):AJ ls 0 k=0:=by
 induction k with
 | zero=>rfl
 | succ k ih=>simp only[AJ,ih];rw[aae (by omega)]
theorem Le (ls:List Int)(n:Nat)(hn:n<=15):kP ls n*2^(15-n)=AJ ls n ls.length:=by
 induction n with
 | zero=>simp[kP,Hk]
 | succ n ih =>
  have h:=CZ ls n (2*kP ls n) (by omega) ls.length;have ih':=ih (by omega);rw[show 15-n=(14-n)+1 by omega,ab1]at ih'
  have e:2*kP ls n*2^(14-n)=kP ls n*(2^(14-n)*2):=by
   rw[aaV 2 (kP ls n),aa0,aaV 2]
  rw[e,ih']at h;simp only[kP];rw[show 15-(n+1)=14-n by omega];omega
theorem Nv (ls:List Int)(hw:∀j,ls.getD j 0<=15)(hf:fs ls ls.length<=32768)(n i:Nat)(hn:n<15)(hi:i<=ls.length):nx ls n i*2^(14-n)<=32768:=by
 have h:=CZ ls n (2*kP ls n) hn i;have ho:=Le ls n (by omega);rw[show 15-n=(14-n)+1 by omega,ab1]at ho
 have e:2*kP ls n*2^(14-n)=kP ls n*(2^(14-n)*2):=by
  rw[aaV 2 (kP ls n),aa0,aaV 2]
 rw[e,ho]at h;have h1:=Hj ls n ls.length i hi;have h2:=OC ls hw (n+1) ls.length;show pP ls (n+1) (2*kP ls n) i*2^(14-n)<=32768;omega
theorem sj (ls:List Int)(hw:∀j,ls.getD j 0<=15)(hf:fs ls ls.length<=32768)(n i:Nat)(hn:n<15)(hi:i<=ls.length):nx ls n i<=32768:=by
 have h:=Nv ls hw hf n i hn hi;have h2:1<=2^(14-n):=Nat.one_le_two_pow;have h3:=Nat.mul_le_mul_left (nx ls n i) h2;omega
theorem EF (ls:List Int)(hw:∀j,ls.getD j 0<=15)(hf:fs ls ls.length<=32768)(n:Nat)(hn:n<15):2*kP ls n<=32768:=sj ls hw hf n 0 hn (aaj _)
theorem nP (ls cd:List Int)(n v:Int):∀(f i j:Nat),cA ls cd n v f i=some j->i<=j/\j<i+f/\ls.getD j 0=n/\cd.getD j 0=v
 | 0,_,_,h=>by simp[cA]at h
 | f+1,i,j,h=>by
  rw[cA]at h;split at h
  ·rename_i hh;cases h;exact⟨aad _,by omega,hh.1,hh.2⟩
  ·have:=nP ls cd n v f (i+1) j h;exact⟨by omega,by omega,this.2.2⟩
theorem nQ (ls cd:List Int)(n v:Int):∀(f i:Nat),cA ls cd n v f i=none->∀j,i<=j->j<i+f->¬(ls.getD j 0=n/\cd.getD j 0=v)
 | 0,_,_,j,h1,h2=>by omega
 | f+1,i,h,j,h1,h2=>by
  rw[cA]at h;split at h
  ·cases h
  ·rename_i hh;by_cases e:j=i
   ·subst e;exact hh
   ·exact nQ ls cd n v f (i+1) h j (by omega) (by omega)
theorem vj {ls cd:List Int}{n v:Int}{j:Nat}(h:find ls cd n v=some j):j<ls.length/\ls.getD j 0=n/\cd.getD j 0=v:=by
 have:=nP ls cd n v _ _ _ h;exact⟨by omega,this.2.2⟩
theorem EG {ls cd:List Int}{n v:Int}(h:find ls cd n v=none)(j:Nat)(hj:j<ls.length):¬(ls.getD j 0=n/\cd.getD j 0=v):=nQ ls cd n v _ _ h j (aaj _) (by omega)
theorem EH (ls:List Int)(n i j:Nat)(hn:n<15)(hi:i<ls.length)(hj:j<ls.length)(h1:ls.getD i 0=((n+1:Nat):Int))(h2:ls.getD j 0=((n+1:Nat):Int))(h:(codes ls).getD i 0=(codes ls).getD j 0):i=j:=by
 rw[oQ ls n i hn hi h1,oQ ls n j hn hj h2]at h;have h':pP ls (n+1) (2*kP ls n) i=pP ls (n+1) (2*kP ls n) j:=Int.ofNat.inj h;by_cases e:i<j
 ·have:=wR ls (n+1) (2*kP ls n) i j e h1;omega
 ·by_cases e2:j<i
  ·have:=wR ls (n+1) (2*kP ls n) j i e2 h2;omega
  ·omega
theorem Lf {ls:List Int}{n j:Nat}(hn:n<15)(hj:j<ls.length)(h1:ls.getD j 0=((n+1:Nat):Int)):find ls (codes ls) ((n+1:Nat):Int) ((codes ls).getD j 0)=some j:=by
 cases h:find ls (codes ls) ((n+1:Nat):Int) ((codes ls).getD j 0) with
 | none=>exact absurd ⟨h1,rfl⟩ (EG h j hj)
 | some i =>
  obtain⟨a,b,c⟩:=vj h;rw[EH ls n i j hn a hj b h1 c]
end Go.Proofs.YtmfijackgekioaaGreatDoor.Rf
namespace Go.Proofs.YtmfijackgekioaaGreatDoor
open Go.RowKit Go.Maps
theorem laidOut:laidOutB Tryz.prog=true:=by kernel_rfl
theorem Lg:(230:TypeId)<Tryz.prog.types.size:=of_decide_eq_true (by kernel_rfl)
theorem iF (w:World):(zeroValue 3).run Tryz.prog w=.ok (.int .i64 0) w:=by kernel_rfl
abbrev Hl (a l:Nat):Value:=.agg #[.int .u16 a,.int .u16 l]
theorem vk:Tryz.prog.cellsOf 230=2:=by kernel_rfl
theorem Lh:Tryz.prog.cellsOf 162=1:=by kernel_rfl
theorem RW (a:Nat)(h:a<65536):(Lit.int .u16 (a:Int)).wf=true:=by
 have e1:IntKind.u16.min=0:=by decide
 have e2:IntKind.u16.max=65535:=by decide
 simp only[Lit.wf,e1,e2,aaJ,aaH];omega
theorem Hm:Tryz.prog.keyType 230=true:=by kernel_rfl
theorem yL (a l:Nat)(ha:a<65536)(hl:l<65536):∃x,keyOf Tryz.prog 230 (Hl a l)=some x:=by
  obtain⟨m,hm⟩:∃m,Tryz.prog.types.size=m+1:=⟨Tryz.prog.types.size-1,by have:0<Tryz.prog.types.size:=Nat.lt_of_le_of_lt (aaj _) Lg;omega⟩
  have h1:(Lit.int .u16 (a:Int)).wf=true:=RW a ha;have h2:(Lit.int .u16 (l:Int)).wf=true:=RW l hl;unfold keyOf;rw[Tryz.underlying230];simp only;rw[aaf (by rw[Hm];simp[Value.formed,Tryz.underlying230,vk]),hm];simp[Program.keyLits,Tryz.underlying230,Tryz.underlying162,vk,Lh,Value.cells,h1,h2]
theorem C0:∃f:Nat->Nat->Lit,∀a l,a<65536->l<65536->keyOf Tryz.prog 230 (Hl a l)=some (f a l) :=
 ⟨fun a l=>if h:a<65536/\l<65536 then Classical.choose (yL a l h.1 h.2) else .bool false,fun a l ha hl=>by
  simp only[dif_pos (And.intro ha hl)];exact Classical.choose_spec (yL a l ha hl)⟩
noncomputable def kl:Nat->Nat->Lit:=Classical.choose C0
theorem hkl (a l:Nat)(ha:a<65536)(hl:l<65536):keyOf Tryz.prog 230 (Hl a l)=some (kl a l):=Classical.choose_spec C0 a l ha hl
theorem Nw {w:World}{T:Nat}{a b:Value}{t:TypeId}(h:w.heap[T]?=some (.cells #[a,b] t (0,0)))(u:Value):(w.setCell ⟨T,0,none⟩ u).heap[T]?=some (.cells #[u,b] t (0,0)):=(aat w T 0 _ _ u h).trans rfl
theorem RX {w:World}{T:Nat}{a b:Value}{t:TypeId}(h:w.heap[T]?=some (.cells #[a,b] t (0,0)))(u:Value):(w.setCell ⟨T,1,none⟩ u).heap[T]?=some (.cells #[a,u] t (0,0)):=(aat w T 1 _ _ u h).trans rfl
theorem fq {w:World}{T:Nat}{a b:Value}{t:TypeId}(h:w.heap[T]?=some (.cells #[a,b] t (0,0))): w.cell? ⟨T,0,none⟩=some a/\w.cell? ⟨T,1,none⟩=some b/\(∀j,w.frozen? ⟨T,j,none⟩=false)/\T<w.heap.size :=
 ⟨aan _ _ _ _ _ _ h,aan _ _ _ _ _ _ h,fun j=>aaE w T j _ _ h,aab h⟩
end Go.Proofs.YtmfijackgekioaaGreatDoor
namespace Go.Proofs.YtmfijackgekioaaGreatDoor.Mx
def bit (x p:Nat):Int:=if x.testBit p then 1 else 0
theorem Hn (x p:Nat):bit x p=0\/bit x p=1:=by unfold bit;split<;>simp
theorem pQ (x p:Nat):0<=bit x p/\bit x p<=1:=by rcases Hn x p with h|h<;>omega
theorem yM (x:Nat):bit x 0=(x%2:Nat):=by
 unfold bit;rw[Nat.testBit_zero];rcases Nat.mod_two_eq_zero_or_one x with h|h<;>simp[h]
theorem EI {α:Type}(N p:Nat)(g:Nat->α)(u:α): ((List.range N).map g).set p u=(List.range N).map (fun q=>if q=p then u else g q):=by
 apply abt
 ·simp
 ·intro q h1 h2;simp only[List.getElem_set,abL,abP];by_cases h:p=q
  ·simp[h]
  ·rw[aae h,aae (fun e=>h e.symm)]
def val (i x p:Nat):Int:=if p<i then 0 else bit x (p-i)
theorem EJ (i x p:Nat):0<=val i x p/\val i x p<=1:=by
 unfold val;split
 ·omega
 ·exact pQ _ _
theorem val_zero (x p:Nat):val 0 x p=bit x p:=by simp[val]
def vm (k x p:Nat):Int:=if p<k then 1-bit x p else bit x p
theorem Ho (x p:Nat):vm 0 x p=bit x p:=by simp[vm]
theorem EK (k x p:Nat):0<=vm k x p/\vm k x p<=1:=by
 have:=pQ x p;unfold vm;split<;>omega
theorem sk (k x p:Nat):vm (k+1) x p=if p=k then 1-vm k x k else vm k x p:=by
 unfold vm;by_cases h:p=k
 ·subst h;simp
 ·by_cases h2:p<k
  ·simp[h,h2,show p<k+1 by omega]
  ·simp[h,h2,show ¬p<k+1 by omega]
theorem Li (x p:Nat):vm 32 x p=val 0 (x^^^4294967295) p:=by
 rw[val_zero];unfold vm bit;rw[Nat.testBit_xor,show 4294967295=2^32-1 from rfl,Nat.testBit_two_pow_sub_one];by_cases h:p<32<;>cases x.testBit p<;>simp[h]
theorem yN (x p:Nat):bit (x/2) p=bit x (p+1):=by
 unfold bit;rw[Nat.testBit_succ]
theorem Hp (i x p:Nat)(h:bit x 0=0):val (i+1) (AF x) p=val i x p:=by
 have h2:x%2=0:=by rw[yM]at h;omega
 have e:AF x=x/2:=by unfold AF;rw[h2];simp
 rw[e];unfold val;by_cases h1:p<i
 ·simp[h1,show p<i+1 by omega]
 ·by_cases h3:p=i
  ·subst h3;simp[h]
  ·rw[aae (by omega),aae h1,yN]
   congr 1;omega
theorem sq (i x p:Nat):(if p=i then 0 else val i x p)=val (i+1) (x/2) p:=by
 unfold val;by_cases h1:p<i
 ·simp[h1,show p<i+1 by omega]
 ·by_cases h3:p=i
  ·subst h3;simp
  ·rw[aae h3,aae (by omega),aae (by omega),yN]
   congr 1;omega
def pm:Nat->Nat
 | 0=>0
 | k+1=>if Nat.testBit 79764919 k then pm k^^^2^(31-k) else pm k
theorem OD:pm 32=3988292384:=by decide
theorem sr (i y k p:Nat)(_hk:k<32):val (i+1) (y^^^2^(31-k)) p=if p=i+32-k then 1-val (i+1) y (i+32-k) else val (i+1) y p:=by
 unfold val;by_cases h1:p<i+1
 ·rw[aaf h1,aae (by omega),aaf h1]
 ·rw[aae h1];by_cases h2:p=i+32-k
  ·rw[aaf h2,aae (by omega)];subst h2;unfold bit;rw[Nat.testBit_xor,Nat.testBit_two_pow,show i+32-k-(i+1)=31-k by omega];cases y.testBit (31-k)<;>simp
  ·rw[aae h2,aae h1];unfold bit;rw[Nat.testBit_xor,Nat.testBit_two_pow];have:decide (31-k=p-(i+1))=false:=by simp;omega
   rw[this];simp
theorem Lj (x:Nat)(h:bit x 0=1):x/2^^^pm 32=AF x:=by
 have h2:x%2=1:=by rw[yM]at h;omega
 unfold AF;rw[h2,OD]
theorem pO (c:UInt8):some c 8=(List.range 8).map (bit c.toNat):=by
 unfold some;apply abn;intro t _;unfold bit;rw[abV];rcases Nat.mod_two_eq_zero_or_one (c.toNat/2^t) with h|h<;>simp[h]
theorem yO (c:UInt8)(y p:Nat)(h:p<8):bit (c.toNat+256*y) p=bit c.toNat p:=by
 unfold bit;rw[wG _ _ (by have:=c.toNat_lt;omega),Nat.testBit_xor,show (256:Nat)=2^8 from rfl,Nat.testBit_two_pow_mul];simp[show ¬8<=p by omega]
theorem wS (c:UInt8)(y p:Nat):bit (c.toNat+256*y) (8+p)=bit y p:=by
 unfold bit;have h:c.toNat.testBit (8+p)=false:=Nat.testBit_lt_two_pow (aar (m:=2^8) c.toNat_lt (aa2 (by omega) (by omega)));rw[wG _ _ (by have:=c.toNat_lt;omega),Nat.testBit_xor,h,show (256:Nat)=2^8 from rfl,Nat.testBit_two_pow_mul];simp
theorem Hq (l:List UInt8):low l=(List.range (8*l.length)).map (bit (num l)):=by
 induction l with
 | nil=>rfl
 | cons c l ih =>
  simp only[low,num,aao];rw[show 8*(l.length+1)=8+8*l.length by omega,List.range_add,abo,ih,pO]
  congr 1
  ·apply abn;intro p hp;exact (yO c _ p (List.mem_range.1 hp)).symm
  ·rw[List.map_map];apply abn;intro p _;exact (wS c _ p).symm
theorem OE (l:List UInt8):num l<2^(8*l.length):=by
 induction l with
 | nil=>simp[num]
 | cons c l ih =>
  have:=c.toNat_lt;simp only[num,aao];rw[show 8*(l.length+1)=8+8*l.length by omega,Nat.pow_add];omega
theorem Hr (x m p:Nat)(h:x<2^m)(hp:m<=p):bit x p=0:=by
 unfold bit;rw[Nat.testBit_lt_two_pow (aar h (aa2 (by omega) hp))];simp
theorem Hs (x m:Nat)(hx:x<4294967296)(hm:m<32): 2*(((4294967295-x)/2^(m+1):Nat):Int)+1-bit x m=(((4294967295-x)/2^m:Nat):Int):=by
 have b:=Nat.testBit_two_pow_sub_succ (n:=32) (x:=x) (by omega) m;rw[show 2^32-(x+1)=4294967295-x by omega,abV]at b;have e:(4294967295-x)/2^(m+1)=(4294967295-x)/2^m/2:=by rw[ab1,Nat.div_div_eq_div_mul]
 rw[e];generalize (4294967295-x)/2^m=y at *;unfold bit;cases h:x.testBit m
 ·rw[h]at b;have b1:y%2=1:=by simpa[hm]using b
  rw[aae (by decide)];omega
 ·rw[h]at b;have b1:y%2=0:=by simpa[hm]using b
  rw[aaf rfl];omega
theorem Lk (l:List UInt8):fV (8*l.length) (num l^^^4294967295)=kZ l:=GV l _
end Go.Proofs.YtmfijackgekioaaGreatDoor.Mx
namespace Go.Proofs.YtmfijackgekioaaGreatDoor
open Go.RowKit
theorem EL {w:World}{base e n:Nat}{v:Value}{xs:List Value}(h:w.ownsRow base e 1 v n xs)(hn:0<n): ∃g cap,v=.slice (some ⟨g,0,none⟩) n cap/\n<=cap/\cap<=maxLen/\base<=g/\g<w.heap.size:=by
 have hlt:=h.lt;rcases h.2 with⟨h',hx⟩|⟨g,cap,cur,rfl,hb,hg,hnc,hcm,hcs,htake⟩
 ·omega
 ·exact⟨g,cap,rfl,hnc,hcm,hb,(hlt g rfl).2⟩
abbrev jp (N:Nat)(f:Nat->Int):List Value:=(List.range N).map fun p=>Value.int .i64 (f p)
theorem oR {N p:Nat}(f:Nat->Int)(h:p<N):(jp N f)[p]?=some (.int .i64 (f p)):=by simp[jp,h]
theorem su (N p:Nat)(f g:Nat->Int)(h:∀q,g q=if q=p then g p else f q):(jp N f).set p (.int .i64 (g p))=jp N g:=by
 rw[jp,Mx.EI];apply abn;intro q _;by_cases e:q=p
 ·subst e;simp
 ·rw[aae e,h q,aae e]
theorem od {N:Nat}{f g:Nat->Int}(h:∀q,f q=g q):jp N f=jp N g:=abn fun q _=>by rw[h q]
theorem RY (s:ByteArray)(n X:Nat)(w:World)(hs:s.size<=60000000)(hn:n=8*s.size)(hX:X=Mx.num s.data.toList): Calls Tryz.prog 77 #[.string s] w fun e w'=>∃v,e=.returned v/\w'.ownsRow w.heap.size 3 1 v n (jp n (Mx.bit X))/\Below w.heap.size w w':=by
 subst hn hX;refine (RN s w hs).mono ?_;rintro e w' ⟨v,rfl,h1,h2⟩;refine⟨v,rfl,?_,h2⟩;rw[Mx.Hq,List.map_map]at h1;simpa[jp,Function.comp_def]using h1
theorem EM (a j:Nat)(h:a.testBit j=false):bits .and .i64 ((a:Int)/2^j) 1=0:=by
 rw[rY];rw[abV]at h;simp at h;omega
theorem EN (a j:Nat)(h:a.testBit j=true):bits .and .i64 ((a:Int)/2^j) 1=1:=by
 rw[rY];rw[abV]at h;simp at h;omega
theorem WF (s:ByteArray)(n:Nat)(w:World)(hs:s.size<=60000000)(hn0:n=8*s.size): Calls Tryz.prog 71 #[.string s] w fun e w'=>e=.returned (.int .i64 (4294967295-(Mx.kZ s.data.toList:Int)))/\Below w.heap.size w w':=by
 obtain⟨i0,hi,hz0,hz1,hz2⟩:=aaX Tryz.info3;have hn:n<=480000000:=by omega
 have HN:Hid (n=8*s.size):=hn0;clear hn0;have hbz:∀p,n<=p->Mx.bit (Mx.num s.data.toList) p=0:=fun p hp=>Mx.Hr _ _ _ (Mx.OE _) (by have:=HN.out;simp;omega)
 have HE:Hid (Mx.fV n (Mx.num s.data.toList^^^4294967295)=Mx.kZ s.data.toList):=by
  rw[HN.out];have:=Mx.Lk s.data.toList;simpa[Hid]using this
 generalize hX:Mx.num s.data.toList=X at *;have HX:Hid (X=Mx.num s.data.toList):=hX.symm;clear hX;have HR:Hid (Mx.kZ s.data.toList<4294967296):=Mx.wE _;generalize Mx.kZ s.data.toList=C at *;generalize hB:w.heap.size=B at *
 go_enter Tryz.func71,Tryz.ntmps71
 go_wp2_with (go_at_call 77;refine (RY s n X _ hs HN.out HX.out).mono ?_;rintro e w1 ⟨v,rfl,hown,hbel⟩;obtain⟨ao,cap,rfl⟩:=aD hown;rw[hB]at hown hbel)
 go_loopw [3,5] (fun v i wr=>∃k:Nat,k<=32/\i=.int .i64 k/\wr.ownsRow B 3 1 v (n+k) (jp (n+k) (Mx.bit X))/\Below B w wr) (fun _ i _=>32-(intOf i).toNat)
 case atStart=>exact⟨0,aaj _,rfl,hown,hbel⟩
 case round =>
  clear hown hbel;obtain⟨k,hk,rfl,hown,hbel⟩:=hrel;by_cases hlt:k<32
  ·go_wp2_with (at_builtin;refine aax _ rfl _ _ 24 rfl B 3 i0 (.int .i64 0) 1 8 Tryz.underlying24 hi hz0 hz1 hz2 rfl (by decide) _ _ _ rfl (hown.alloc _) ⟨wr.heap.size,0,none⟩ 1 1 [.int .i64 0] rfl rfl ?c1 ?c2 ?c3 ?c4 ?c5 ?_)
   case c1=>exact aa1 _ _ _
   case c2=>intro u hu;simp at hu;subst hu;rfl
   case c3=>unfold maxLen;omega
   case c4=>omega
   case c5=>have:=hbel.size;simp;omega
   ·intro v' w2 hown' hgrow _
    have R:w2.ownsRow B 3 1 v' (n+(k+1)) (jp (n+(k+1)) (Mx.bit X))/\Below B w w2:=by
     refine⟨?_,(hbel.alloc (by have:=hbel.size;omega) _).grown hgrow (by have:=hbel.size;simp;omega) (fun b hb=>(hown.lt b hb).1)⟩
     have e:jp (n+(k+1)) (Mx.bit X)=jp (n+k) (Mx.bit X)++[.int .i64 0]:=by
      rw[<-abI,jp,List.range_succ,abo];simp[hbz (n+k) (by omega)]
     rw[e];exact hown'
    clear hown' hgrow hown hbel;go_wp2
    go_roundw
    case rel=>exact⟨k+1,by omega,by go_num,R.1,R.2⟩
    case measure=>simp[intOf];omega
  ·have hk2:k=32:=by omega
   subst hk2;obtain⟨g,cap2,rfl,hcap,hcm,hBg,hgs⟩:=EL hown (by omega);go_wp2
   go_loopw [6] (fun i wr=>∃k:Nat,k<=32/\i=.int .i64 k/\wr.ownsRow B 3 1 (.slice (some ⟨g,0,none⟩) (n+32) cap2) (n+32) (jp (n+32) (Mx.vm k X))/\Below B w wr) (fun i _=>32-(intOf i).toNat)
   case atStart=>exact⟨0,aaj _,rfl,by rw[od (Mx.Ho X)];exact hown,hbel⟩
   case round =>
    clear hown hbel;obtain⟨k,hk,rfl,hown,hbel⟩:=hrel;by_cases hlt:k<32
    ·have hcell:wr.cell? ⟨g,k,none⟩=some (.int .i64 (Mx.vm k X k)):=(hown.cellAt k (by omega)).trans (oR _ (by omega));have hfr:wr.frozen? ⟨g,k,none⟩=false:=hown.frozenAt k;have hr:=Mx.EK k X k;have R:=hown.stored k (.int .i64 (1-Mx.vm k X k));have hb2:=hbel.setCell (p:=⟨g,k,none⟩) hBg (.int .i64 (1-Mx.vm k X k));have es:=su (n+32) k (Mx.vm k X) (Mx.vm (k+1) X) (fun q=>by rw[Mx.sk k X q,Mx.sk k X k];simp);rw[Mx.sk k X k,aaf rfl]at es;rw[es]at R;have HR2:Hid ((wr.setCell ⟨g,k,none⟩ (.int .i64 (1-Mx.vm k X k))).ownsRow B 3 1 (.slice (some ⟨g,0,none⟩) (n+32) cap2) (n+32) (jp (n+32) (Mx.vm (k+1) X))/\Below B w (wr.setCell ⟨g,k,none⟩ (.int .i64 (1-Mx.vm k X k)))):=⟨R.1,hb2⟩
     clear R hb2 es;go_wp2
     go_roundw
     case rel=>exact⟨k+1,by omega,by go_num,HR2.out.1,HR2.out.2⟩
     case measure=>simp[intOf];omega
    ·have hk2:k=32:=by omega
     subst hk2;rw[od (Mx.Li X)]at hown;generalize X^^^4294967295=Y at *;go_wp2
     go_loopw [7] (fun i wr=>∃k:Nat,k<=n/\i=.int .i64 k/\wr.ownsRow B 3 1 (.slice (some ⟨g,0,none⟩) (n+32) cap2) (n+32) (jp (n+32) (Mx.val k (Mx.fV k Y)))/\Below B w wr) (fun i _=>n-(intOf i).toNat)
     case atStart=>exact⟨0,aaj _,rfl,hown,hbel⟩
     case round =>
      clear hown hbel;obtain⟨i,hin,rfl,hown,hbel⟩:=hrel;by_cases hlt:i<n
      ·have hcell:wr.cell? ⟨g,i,none⟩=some (.int .i64 (Mx.bit (Mx.fV i Y) 0)):=(hown.cellAt i (by omega)).trans ((oR _ (by omega)).trans (by simp[Mx.val]));have hfr:wr.frozen? ⟨g,i,none⟩=false:=hown.frozenAt i;have HS:Hid (Mx.fV (i+1) Y=Mx.AF (Mx.fV i Y)):=rfl;generalize Mx.fV i Y=x at *;rcases Mx.Hn x 0 with h01|h01
       ·rw[h01]at hcell;go_wp2
        go_roundw
        case rel=>exact⟨i+1,by omega,by go_num,by rw[HS.out,od (fun p=>Mx.Hp i x p h01)];exact hown,hbel⟩
        case measure=>simp[intOf];omega
       ·rw[h01]at hcell;have R:=hown.stored i (.int .i64 0);have hb2:=hbel.setCell (p:=⟨g,i,none⟩) hBg (.int .i64 0);have es:=su (n+32) i (Mx.val i x) (Mx.val (i+1) (x/2)) (fun q=>by rw[<-Mx.sq i x q,<-Mx.sq i x i];simp);rw[<-Mx.sq i x i,aaf rfl]at es;rw[es]at R;have HR2:Hid ((wr.setCell ⟨g,i,none⟩ (.int .i64 0)).ownsRow B 3 1 (.slice (some ⟨g,0,none⟩) (n+32) cap2) (n+32) (jp (n+32) (Mx.val (i+1) (x/2)))/\Below B w (wr.setCell ⟨g,i,none⟩ (.int .i64 0))):=⟨R.1,hb2⟩
        clear R hb2 es;go_wp2
        go_loopw [8] (fun kk wr=>∃k:Nat,k<=32/\kk=.int .i64 k/\wr.ownsRow B 3 1 (.slice (some ⟨g,0,none⟩) (n+32) cap2) (n+32) (jp (n+32) (Mx.val (i+1) (x/2^^^Mx.pm k)))/\Below B w wr) (fun kk _=>32-(intOf kk).toNat)
        case atStart=>exact⟨0,aaj _,rfl,by simpa[Mx.pm]using HR2.out.1,HR2.out.2⟩
        case round =>
         clear hown hbel HR2 hcell hfr;obtain⟨k,hk,rfl,hown,hbel⟩:=hrel;by_cases hlt2:k<32
         ·cases hD:Nat.testBit 79764919 k
          ·have eD:bits .and .i64 (79764919/2^k) 1=0:=EM 79764919 k hD;have HP:Hid (Mx.pm (k+1)=Mx.pm k):=by show Mx.pm (k+1)=Mx.pm k;rw[Mx.pm,hD];rfl
           clear hD;go_wp2
           go_roundw
           case rel=>exact⟨k+1,by omega,by go_num,by rw[HP.out];exact hown,hbel⟩
           case measure=>simp[intOf];omega
          ·have eD:bits .and .i64 (79764919/2^k) 1=1:=EN 79764919 k hD;have HP:Hid (Mx.pm (k+1)=Mx.pm k^^^2^(31-k)):=by show Mx.pm (k+1)=_;rw[Mx.pm,hD];rfl
           clear hD;have hcell:wr.cell? ⟨g,i+32-k,none⟩=some (.int .i64 (Mx.val (i+1) (x/2^^^Mx.pm k) (i+32-k))):=(hown.cellAt (i+32-k) (by omega)).trans (oR _ (by omega));have hfr:wr.frozen? ⟨g,i+32-k,none⟩=false:=hown.frozenAt _;have hr:=Mx.EJ (i+1) (x/2^^^Mx.pm k) (i+32-k);have R:=hown.stored (i+32-k) (.int .i64 (1-Mx.val (i+1) (x/2^^^Mx.pm k) (i+32-k)));have hb2:=hbel.setCell (p:=⟨g,i+32-k,none⟩) hBg (.int .i64 (1-Mx.val (i+1) (x/2^^^Mx.pm k) (i+32-k)));have es:=su (n+32) (i+32-k) (Mx.val (i+1) (x/2^^^Mx.pm k)) (Mx.val (i+1) ((x/2^^^Mx.pm k)^^^2^(31-k))) (fun q=>by rw[Mx.sr i _ k q hlt2,Mx.sr i _ k (i+32-k) hlt2];simp);rw[Mx.sr i _ k (i+32-k) hlt2,aaf rfl]at es;rw[es]at R;have HR2:Hid ((wr.setCell ⟨g,i+32-k,none⟩ (.int .i64 (1-Mx.val (i+1) (x/2^^^Mx.pm k) (i+32-k)))).ownsRow B 3 1 (.slice (some ⟨g,0,none⟩) (n+32) cap2) (n+32) (jp (n+32) (Mx.val (i+1) ((x/2^^^Mx.pm k)^^^2^(31-k))))/\Below B w (wr.setCell ⟨g,i+32-k,none⟩ (.int .i64 (1-Mx.val (i+1) (x/2^^^Mx.pm k) (i+32-k))))):=⟨R.1,hb2⟩
           clear R hb2 es;generalize Mx.val (i+1) (x/2^^^Mx.pm k) (i+32-k)=y at *;go_wp2
           go_roundw
           case rel=>exact⟨k+1,by omega,by go_num,by rw[HP.out,<-Nat.xor_assoc];exact HR2.out.1,HR2.out.2⟩
           case measure=>simp[intOf];omega
         ·have hk2:k=32:=by omega
          subst hk2;go_wp2
          go_roundw
          case rel=>exact⟨i+1,by omega,by go_num,by rw[HS.out,<-Mx.Lj x h01];exact hown,hbel⟩
          case measure=>simp[intOf];omega
      ·have hk2:i=n:=by omega
       subst hk2;rw[HE.out]at hown;have hC:=HR.out;go_wp2
       go_loopw [9,10] (fun v kk wr=>((∃m:Nat,m<32/\kk=.int .i64 m/\v=.int .i64 (((4294967295-C)/2^(m+1):Nat):Int))\/kk=.int .i64 (-1)/\v=.int .i64 (4294967295-(C:Int)))/\wr.ownsRow B 3 1 (.slice (some ⟨g,0,none⟩) (i+32) cap2) (i+32) (jp (i+32) (Mx.val i C))/\Below B w wr) (fun _ kk _=>(intOf kk+1).toNat)
       case atStart=>exact⟨.inl ⟨31,by omega,rfl,by rw[show (4294967295-C)/2^(31+1)=0 from abm (by omega)];rfl⟩,hown,hbel⟩
       case round =>
        clear hown hbel;obtain⟨hm,hown,hbel⟩:=hrel;rcases hm with⟨m,hm,rfl,rfl⟩|⟨rfl,rfl⟩
        ·have hcell:wr.cell? ⟨g,i+m,none⟩=some (.int .i64 (Mx.bit C m)):=(hown.cellAt (i+m) (by omega)).trans ((oR _ (by omega)).trans (by simp[Mx.val,show ¬i+m<i by omega]));have hr:=Mx.pQ C m;have HO:Hid (2*(((4294967295-C)/2^(m+1):Nat):Int)+1-Mx.bit C m=(((4294967295-C)/2^m:Nat):Int)):=Mx.Hs C m hC hm;have hv:(4294967295-C)/2^(m+1)<=4294967295:=aaz (Nat.div_le_self _ _) (by omega);generalize (4294967295-C)/2^(m+1)=y at *;go_wp2
         go_roundw
         case rel =>
          refine⟨?_,hown,hbel⟩;rw[HO.out]
          match m,hm with
          | 0,_=>exact .inr ⟨rfl,by rw[Nat.pow_zero,Nat.div_one];go_num⟩
          | m'+1,hm=>exact .inl ⟨m',by omega,by go_num,rfl⟩
         case measure=>simp[intOf]
        ·go_wp2
         go_ret
         exact⟨rfl,hbel⟩
end Go.Proofs.YtmfijackgekioaaGreatDoor
