import Derived.Test.YtmfijackgekioabGreatDoorQ02
import Derived.DeepKeys4
import Derived.Maps.OwnSet
set_option maxHeartbeats 1000000
set_option maxRecDepth 100000
namespace Go.Proofs.YtmfijackgekioabGreatDoor
open Go.RowKit
abbrev dies (code:Int):Ending:=.panicked [{ v:=.iface 63 (.int .i64 code),recovered:=false }]
def Rd (w:World)(R:Nat)(s:ByteArray)(pos:Nat):Prop:=w.heap[R]?=some (.cells #[.string s,.int .i64 pos] 107 (0,0))
theorem Rd.cells {w:World}{R:Nat}{s:ByteArray}{pos:Nat}(h:Rd w R s pos): w.cell? ⟨R,0,none⟩=some (.string s)/\w.cell? ⟨R,1,none⟩=some (.int .i64 pos)/\(∀j,w.frozen? ⟨R,j,none⟩=false)/\R<w.heap.size :=
 ⟨aat _ _ _ _ _ _ h,aat _ _ _ _ _ _ h,fun j=>aaI w R j _ _ h,aaa h⟩
theorem Rd.drewN {w:World}{R:Nat}{s:ByteArray}{pos:Nat}(h:Rd w R s pos)(n:Nat):Rd (w.drewN n) R s pos:=h
theorem Rd.set {w:World}{R:Nat}{s:ByteArray}{pos:Nat}(h:Rd w R s pos)(q:Nat):Rd (w.setCell ⟨R,1,none⟩ (.int .i64 q)) R s q :=
 (aau w R 1 _ _ _ h).trans rfl
theorem Rd.kept {w w':World}{R:Nat}{s:ByteArray}{pos:Nat}{S:Nat->Prop}(h:Rd w R s pos)(k:Kp S w w')(hS:¬S R):Rd w' R s pos:=(k.block R (aaa h) hS).trans h
theorem Kp.QO {R:Nat}{a w:World}(h:Kp (·=R) a w)(j:Nat)(u:Value):Kp (·=R) a (w.setCell ⟨R,j,none⟩ u):=h.setCell (p:=⟨R,j,none⟩) (.inl rfl) u
def bt (s:ByteArray)(j:Nat):Int:=(Mx.low s.data.toList).getD j 0
theorem MR (c:UInt8)(j:Nat)(h:j<8):(Mx.some c 8).getD j 0=((c.toNat/2^j%2:Nat):Int):=by
 simp[Mx.some,List.getD,h]
theorem oI (l:List UInt8)(j:Nat):(Mx.low l).getD j 0=(((l.getD (j/8) 0).toNat/2^(j%8)%2:Nat):Int):=by
 induction l generalizing j with
 | nil=>simp[Mx.low,List.getD]
 | cons c l ih =>
  by_cases h:j<8
  ·have e:(Mx.low (c::l)).getD j 0=(Mx.some c 8).getD j 0:=by
    simp only[Mx.low,List.getD];rw[abn (by rw[Mx.jB];exact h)]
   rw[e,MR c j h,show j/8=0 by omega,show j%8=j by omega];rfl
  ·have e:(Mx.low (c::l)).getD j 0=(Mx.low l).getD (j-8) 0:=by
    simp only[Mx.low,List.getD];rw[aaM (by rw[Mx.jB];omega),Mx.jB]
   rw[e,ih,show (j-8)/8=j/8-1 by omega,show (j-8)%8=j%8 by omega];obtain⟨q,hq⟩:∃q,j/8=q+1:=⟨j/8-1,by omega⟩
   rw[hq];rfl
theorem MS (n:Int):bits .and .u8 n 1=n%2:=by
 have h1:(BitVec.ofInt 8 1).toNat=2^1-1:=by decide
 have key:(BitVec.ofInt 8 n&&&BitVec.ofInt 8 1).toNat=(n%((2^8:Nat):Int)).toNat%2^1:=by
  rw[BitVec.toNat_and,acd,h1,Nat.and_two_pow_sub_one_eq_mod]
 show IntKind.u8.wrap ((BitVec.ofInt 8 n&&&BitVec.ofInt 8 1).toNat:Nat)=n%2;rw[key,ab2];omega
theorem UX (s:ByteArray)(j:Nat):bits .and .u8 (((s.data.toList.getD (j/8) 0).toNat:Int)/2^(j%8)) 1=bt s j:=by
 rw[MS,bt,oI];simp
theorem pB (s:ByteArray)(j:Nat):0<=bt s j/\bt s j<=1:=by
 rw[bt,oI];omega
theorem Ji (s:ByteArray)(pos:Nat)(h:pos/8<s.size)(w:World): (Instr.index 9 (.string s) (.int .i64 ((pos:Int)/8))).run Tryz.prog w=.ok (.int .u8 ((s.data.toList.getD (pos/8) 0).toNat:Int)) w:=by
 rw[run_index_string _ 9 s .i64 _ Tryz.underlying9,dif_pos (by omega)];have e:((pos:Int)/8).toNat=pos/8:=by omega
 have e2:s.data.toList.getD (pos/8) 0=s[pos/8]:=by
  have hl:pos/8<s.data.toList.length:=by simpa using h
  rw[List.getD,aan hl];rfl
 rw[e2];simp only[e]
theorem Jj (s:ByteArray)(R pos:Nat)(w:World)(hr:Rd w R s pos)(hs:s.size<=5000000)(hp:pos=8*s.size): Calls Tryz.prog 105 #[.pointer (some ⟨R,0,none⟩)] w fun e w'=>e=dies 6/\Kp (·=R) w w':=by
 obtain⟨c0,c1,fz,hlt⟩:=hr.cells;have h1:(s.size:Int)<=(pos:Int)/8:=by omega
 have h2:(pos:Int)<=40000000:=by omega
 clear hp
 go_enter Tryz.func105,Tryz.ntmps105
 go_wp2
 go_quiet (fail)
 go_wp2;exact⟨rfl,rfl,(Kp.refl (·=R) w).drewN _⟩
theorem En (s:ByteArray)(R pos:Nat)(w:World)(hr:Rd w R s pos)(hs:s.size<=5000000)(hp:pos<8*s.size): Calls Tryz.prog 105 #[.pointer (some ⟨R,0,none⟩)] w fun e w'=>e=.returned (.int .i64 (bt s pos))/\Rd w' R s (pos+1)/\Kp (·=R) w w':=by
 obtain⟨c0,c1,fz,hlt⟩:=hr.cells;have h1:(pos:Int)/8<(s.size:Int):=by omega
 have h2:(pos:Int)<=40000000:=by omega
 have hix:=Ji s pos (by omega);have hb:=UX s pos;have hbr:=pB s pos;generalize bt s pos=x at *;have hc:(s.data.toList.getD (pos/8) 0).toNat<256:=(s.data.toList.getD (pos/8) 0).toNat_lt;generalize (s.data.toList.getD (pos/8) 0).toNat=c at *;have wq:IntKind.i64.wrap ((pos:Int)/8)=(pos:Int)/8:=aao _ (by omega)
 go_enter Tryz.func105,Tryz.ntmps105
 go_wp2
 go_quiet (fail)
 go_wp2
 go_quiet (fail)
 go_wp2
 go_ret
 exact⟨rfl,(hr.drewN _).set (pos+1),((Kp.refl (·=R) w).drewN _).QO _ _⟩
abbrev lw (s:ByteArray):List Int:=Mx.low s.data.toList
theorem aw (s:ByteArray):(lw s).length=8*s.size:=by rw[Mx.oF];simp
theorem cQ (s:ByteArray):Rf.Bits (lw s):=fun j=>by have h:0<=(lw s).getD j 0/\(lw s).getD j 0<=1:=pB s j;omega
theorem Ci (a x:Int)(k:Nat)(hk:k<16)(ha:0<=a/\a<2^k)(hx:x=0\/x=1):bits .or .i64 a (x*2^k)=a+x*2^k:=by
 obtain⟨n,rfl⟩:∃n:Nat,a=(n:Int):=⟨a.toNat,by omega⟩
 have hp:(2:Nat)^k<=2^15:=abs (by omega) (by omega);have e2:((2:Int)^k)=((2^k:Nat):Int):=by simp
 have hn:n<2^k:=by have:=ha.2;rw[e2]at this;omega
 rcases hx with rfl|rfl
 ·have key:(BitVec.ofInt 64 (n:Int)|||BitVec.ofInt 64 (0*2^k)).toNat=n:=by
   rw[BitVec.toNat_or,acd,Int.zero_mul];have:((n:Int)%((2^64:Nat):Int)).toNat=n:=by omega
   rw[this];simp
  show IntKind.i64.wrap ((BitVec.ofInt 64 (n:Int)|||BitVec.ofInt 64 (0*2^k)).toNat:Nat)=_;rw[key,acX];omega
 ·have h1:((2:Nat)^k*1+n)=2^k*1|||n:=Nat.two_pow_add_eq_or_of_lt hn 1
  have key:(BitVec.ofInt 64 (n:Int)|||BitVec.ofInt 64 (1*2^k)).toNat=n+2^k:=by
   rw[BitVec.toNat_or,acd,acd,Int.one_mul,e2];have t1:((n:Int)%((2^64:Nat):Int)).toNat=n:=by omega
   have t2:(((2^k:Nat):Int)%((2^64:Nat):Int)).toNat=2^k:=by omega
   rw[t1,t2,Nat.or_comm,<-Nat.mul_one (2^k),<-h1];omega
  show IntKind.i64.wrap ((BitVec.ofInt 64 (n:Int)|||BitVec.ofInt 64 (1*2^k)).toNat:Nat)=_;rw[key,acX,e2];omega
theorem dQ (n:Nat)(s:ByteArray)(R:Nat)(st:Rf.St)(w:World)(hr:Rd w R s st.pos)(hs:s.size<=5000000)(hp:st.pos<=8*s.size)(hb:st.bad=false)(hn:n<=16): Calls Tryz.prog 73 #[.pointer (some ⟨R,0,none⟩),.int .i64 n] w fun e w' =>
   ((Rf.take (lw s) st n).2.bad=false/\e=.returned (.int .i64 (Rf.take (lw s) st n).1)/\Rd w' R s (Rf.take (lw s) st n).2.pos/\Kp (·=R) w w') \/
   ((Rf.take (lw s) st n).2.bad=true/\e=dies 6/\Kp (·=R) w w'):=by
 have HL:Hid ((lw s).length=8*s.size):=aw s;have HT1:Hid (st.pos+n<=8*s.size->Rf.take (lw s) st n=(Rf.bv (lw s) st.pos n,{ st with pos:=st.pos+n })):=fun h=>by rw[Rf.take,aai (by rw[HL.out];omega)]
 have HT2:Hid (8*s.size<st.pos+n->(Rf.take (lw s) st n).2.bad=true):=fun h=>by rw[Rf.take,aaj (by rw[HL.out];omega)]
 have HB:Hid (st.bad=false):=hb;clear hb
 go_enter Tryz.func73,Tryz.ntmps73
 go_wp2
 go_loopw [5,8] (fun v i wr=>∃k:Nat,k<=n/\st.pos+k<=8*s.size/\i=.int .i64 k/\v=.int .i64 (Rf.bv (lw s) st.pos k)/\Rd wr R s (st.pos+k)/\Kp (·=R) w wr) (fun _ i _=>n-(intOf i).toNat)
 case atStart=>exact⟨0,aaq _,hp,rfl,rfl,hr,Kp.refl _ _⟩
 case round =>
  obtain⟨k,hk,hpk,rfl,rfl,hr2,hkp⟩:=hrel;by_cases hlt:k<n
  ·by_cases hlt2:st.pos+k<8*s.size
   ·have hbv:=Rf.sQ (cQ s) st.pos k;have h01:=cQ s (st.pos+k);have hor:=Ci (Rf.bv (lw s) st.pos k) (bt s (st.pos+k)) k (by omega) hbv h01;have HV:Hid (Rf.bv (lw s) st.pos (k+1)=Rf.bv (lw s) st.pos k+bt s (st.pos+k)*2^k):=rfl;have hpw:=nK k (by omega);obtain⟨x,hx⟩:∃x:Int,x=bt s (st.pos+k):=⟨_,rfl⟩
    have hc:=En s R (st.pos+k) wr hr2 hs hlt2;rw[<-hx]at HV hor hc;have UY:x=0\/x=1:=by rw[hx];exact h01
    clear h01 hx;obtain⟨y,hy⟩:∃y:Int,y=x*2^k:=⟨_,rfl⟩
    have hyr:0<=y/\y<=32768:=by rcases UY with h0|h0<;>rw[hy,h0]<;>omega
    have w1:IntKind.i64.wrap (x*2^k)=y:=by rw[<-hy];exact aao _ (by omega)
    have w2:wrap64 (x*2^k)=y:=by rw[<-hy];exact IntWalk.wrap64_in _ (by omega)
    rw[<-hy]at hor HV;clear hy UY hpw;go_wp2_with fail;refine hc.mono ?_;rintro e w' ⟨rfl,hr3,hk3⟩;go_wp2
    go_roundw
    case rel=>exact⟨k+1,by omega,by omega,by go_num,by rw[HV.out],hr3,hkp.trans hk3⟩
    case measure=>simp[intOf];omega
   ·go_wp2_with fail;refine (Jj s R (st.pos+k) wr hr2 hs (by omega)).mono ?_;rintro e w' ⟨rfl,hk3⟩;go_wp2;exact⟨rfl,.inr ⟨HT2.out (by omega),rfl,hkp.trans hk3⟩⟩
  ·have hkn:k=n:=by omega
   subst hkn;go_wp2
   go_ret
   have e:=HT1.out hpk;exact .inl ⟨by rw[e];exact HB.out,aI (by rw[e]),by rw[e];exact hr2,hkp⟩
theorem Jk (s:ByteArray)(R pos:Nat)(w:World)(hr:Rd w R s pos)(hp:pos<=40000000): Calls Tryz.prog 77 #[.pointer (some ⟨R,0,none⟩)] w fun e w'=>e=.returned (.int .i64 (((pos+7)/8:Nat):Int))/\w'=w:=by
 obtain⟨c0,c1,fz,hlt⟩:=hr.cells
 go_enter Tryz.func77,Tryz.ntmps77
 go_wp2
 go_ret
 exact⟨aI (by omega),rfl⟩
theorem QP (s:ByteArray)(R pos:Nat)(w:World)(hr:Rd w R s pos)(hp:pos<=40000000): Calls Tryz.prog 106 #[.pointer (some ⟨R,0,none⟩)] w fun e w'=>e=.returned (.tuple #[])/\Rd w' R s ((pos+7)/8*8)/\Kp (·=R) w w':=by
 obtain⟨c0,c1,fz,hlt⟩:=hr.cells;obtain⟨q,hq⟩:∃q:Nat,q=(pos+7)/8:=⟨_,rfl⟩
 have hc:=Jk s R pos w hr hp;rw[<-hq]at hc ⊢;have hqr:q<=5000000:=by omega
 clear hq
 go_enter Tryz.func106,Tryz.ntmps106
 go_wp2_with fail;refine hc.mono ?_;rintro e w' ⟨rfl,rfl⟩;go_wp2
 go_end0
 refine⟨rfl,?_,(Kp.refl (·=R) _).QO _ _⟩;have h:=hr.set (q*8);rw[show ((q*8:Nat):Int)=8*(q:Int) by omega]at h;exact h
theorem Jl (s:ByteArray)(R q n:Nat)(w:World)(hr:Rd w R s (8*q))(hs:s.size<=5000000)(hq:q<=s.size)(hn:n<=65535)(h:s.size<q+n): Calls Tryz.prog 107 #[.pointer (some ⟨R,0,none⟩),.int .i64 n] w fun e w'=>e=dies 6/\w'=w:=by
 obtain⟨c0,c1,fz,hlt⟩:=hr.cells;have e1:((8*q:Nat):Int)/8=(q:Int):=by omega
 have h':(s.size:Int)-(q:Int)<(n:Int):=by omega
 go_enter Tryz.func107,Tryz.ntmps107
 go_wp2;exact⟨rfl,rfl,rfl⟩
theorem FM (s:ByteArray)(R q n:Nat)(w:World)(hr:Rd w R s (8*q))(hs:s.size<=5000000)(hn:n<=65535)(h:q+n<=s.size): Calls Tryz.prog 107 #[.pointer (some ⟨R,0,none⟩),.int .i64 n] w fun e w'=>e=.returned (.string (s.extract q (q+n)))/\Rd w' R s (8*(q+n))/\Kp (·=R) w w':=by
 obtain⟨c0,c1,fz,hlt⟩:=hr.cells;have h':(n:Int)<=(s.size:Int)-(q:Int):=by omega
 go_enter Tryz.func107,Tryz.ntmps107
 go_wp2
 go_ret
 refine⟨rfl,?_,(Kp.refl (·=R) _).QO _ _⟩;have h:=hr.set (8*(q+n));rw[show ((8*(q+n):Nat):Int)=8*(q:Int)+8*(n:Int) by omega]at h;exact h
end Go.Proofs.YtmfijackgekioabGreatDoor
namespace Go.Proofs.YtmfijackgekioabGreatDoor.Rf
def pC (ls:List Int)(n b:Nat):Nat->Nat
 | 0=>b
 | i+1=>pC ls n b i+if ls.getD i 0=(n:Int) then 1 else 0
def jZ (ls:List Int):Nat->Nat
 | 0=>0
 | n+1=>pC ls (n+1) (2*jZ ls n) ls.length
abbrev nx (ls:List Int)(n i:Nat):Nat:=pC ls (n+1) (2*jZ ls n) i
theorem zE (ls:List Int)(n b i j:Nat)(h:i<=j):pC ls n b i<=pC ls n b j:=by
 induction j with
 | zero=>simp[show i=0 by omega]
 | succ j ih =>
  by_cases e:i=j+1
  ·rw[e];exact aah _
  ·have:=ih (by omega);simp only[pC];omega
theorem xM (ls:List Int)(n b i j:Nat)(h:i<j)(hi:ls.getD i 0=(n:Int)):pC ls n b i<pC ls n b j:=by
 have h1:=zE ls n b (i+1) j (by omega);simp only[pC,aaj hi]at h1;omega
theorem Eo (ls:List Int)(n b:Nat)(c:Cs)(hl:c.last<=n)(hb:c.next*2^(n-c.last)=b)(i:Nat): (BN ls n c i).last<=n/\(BN ls n c i).next*2^(n-(BN ls n c i).last)=pC ls n b i:=by
 induction i with
 | zero=>exact⟨hl,hb⟩
 | succ i ih =>
  simp only[BN,pC];split
  ·exact⟨aah _,by simp only[Nat.sub_self,Nat.pow_zero,Nat.mul_one];rw[ih.2]⟩
  ·exact⟨ih.1,by rw[ih.2];rfl⟩
theorem Jm (ls:List Int)(n:Nat):(cOut ls n).last<=n/\(cOut ls n).next*2^(n-(cOut ls n).last)=jZ ls n:=by
 induction n with
 | zero=>simp[cOut,jZ]
 | succ n ih =>
  simp only[cOut,jZ];refine Eo ls (n+1) (2*jZ ls n) _ (by omega) ?_ _;rw[<-ih.2,show n+1-(cOut ls n).last=(n-(cOut ls n).last)+1 by omega,acP];rw[<-abv,abk]
theorem Jn (ls:List Int)(n i:Nat):(BN ls (n+1) (cOut ls n) i).next*2^(n+1-(BN ls (n+1) (cOut ls n) i).last)=nx ls n i:=by
 have h:=Jm ls n;refine (Eo ls (n+1) (2*jZ ls n) _ (by omega) ?_ i).2;rw[<-h.2,show n+1-(cOut ls n).last=(n-(cOut ls n).last)+1 by omega,acP];rw[<-abv,abk]
theorem mJ (l:List Int)(i j:Nat)(x:Int)(h:j≠i):(l.set i x).getD j 0=l.getD j 0:=by
 simp only[List.getD];rw[acY (acN h)]
theorem vu (l:List Int)(i:Nat)(x:Int)(h:i<l.length):(l.set i x).getD i 0=x:=by
 simp[List.getD,h]
theorem FO (ls:List Int)(n:Nat)(c:Cs)(i j:Nat)(h:ls.getD j 0≠(n:Int)\/i<=j):(BN ls n c i).out.getD j 0=c.out.getD j 0:=by
 induction i with
 | zero=>rfl
 | succ i ih =>
  simp only[BN];have ih':=ih (by omega);split
  ·rename_i hi;simp only;rw[mJ _ _ _ _ (by rintro rfl;rcases h with h|h;exact h hi;omega)];exact ih'
  ·exact ih'
theorem FQ (ls:List Int)(n:Nat)(c:Cs)(j k:Nat)(h:j<k):∀i,i=k->ls.getD j 0=(n:Int)->(BN ls n c i).out.getD j 0=(BN ls n c (j+1)).out.getD j 0:=by
 intro i hi hj;subst hi
 induction i with
 | zero=>omega
 | succ i ih =>
  by_cases e:i=j
  ·subst e;rfl
  ·have ih':=ih (by omega);rw[BN];split
   ·simp only;rw[mJ _ _ _ _ (fun e2=>e e2.symm)];exact ih'
   ·exact ih'
theorem Cj (ls:List Int)(j m:Nat)(h:ls.getD j 0<=(m:Int)):∀k,(cOut ls (m+k)).out.getD j 0=(cOut ls m).out.getD j 0:=by
 intro k
 induction k with
 | zero=>rfl
 | succ k ih =>
  rw[show m+(k+1)=(m+k)+1 by omega,cOut,FO ls _ _ _ _ (.inl (by omega))];exact ih
theorem mK (ls:List Int)(n j:Nat)(hn:n<15)(hj:j<ls.length)(h:ls.getD j 0=((n+1:Nat):Int)):(codes ls).getD j 0=((nx ls n j:Nat):Int):=by
 have e1:(codes ls).getD j 0=(cOut ls (n+1)).out.getD j 0:=by
  have:=Cj ls j (n+1) (by omega) (15-(n+1));rw[show n+1+(15-(n+1))=15 by omega]at this;exact this
 rw[e1,cOut,FQ ls (n+1) _ j ls.length hj _ rfl h,BN];rw[aaj h];simp only;rw[vu _ _ _ (by rw[sR,zu];exact hj),Jn]
def BO (ls:List Int)(n:Nat):Nat->Nat
 | 0=>0
 | k+1=>BO ls n k+if 0<ls.getD k 0/\ls.getD k 0<=(n:Int) then 2^(15-(ls.getD k 0).toNat) else 0
theorem QQ (ls:List Int)(hw:∀j,ls.getD j 0<=15)(n:Nat)(k:Nat):BO ls n k<=fs ls k:=by
 induction k with
 | zero=>exact aah _
 | succ k ih =>
  simp only[BO,fs]
  have e:(0<ls.getD k 0)->32768/2^(ls.getD k 0).toNat=2^(15-(ls.getD k 0).toNat):=fun h0=>by
   have Pw:=hw k;have:(ls.getD k 0).toNat<=15:=by omega
   rw[show (32768:Nat)=2^15 from rfl,Nat.pow_div this (by omega)]
  by_cases h:0<ls.getD k 0
  ·rw[aaj h,e h];split
   ·omega
   ·exact abe ih (Nat.le_add_right _ _)
  ·rw[aai h,aai (fun h2=>h h2.1)];omega
theorem Jo (ls:List Int)(n:Nat)(k:Nat):∀i,i<=k->BO ls n k+BO ls (n+1) i<=BO ls (n+1) k+BO ls n i:=by
 induction k with
 | zero=>intro i hi;simp[show i=0 by omega,BO]
 | succ k ih =>
  intro i hi;by_cases e:i=k+1
  ·subst e;omega
  ·have:=ih i (by omega);simp only[BO]
   have:(if 0<ls.getD k 0/\ls.getD k 0<=(n:Int) then 2^(15-(ls.getD k 0).toNat) else 0)<=(if 0<ls.getD k 0/\ls.getD k 0<=((n+1:Nat):Int) then 2^(15-(ls.getD k 0).toNat) else 0):=by
    split
    ·rw[aaj (by omega)];exact aah _
    ·omega
   omega
theorem Ep (ls:List Int)(n b:Nat)(hn:n<15)(i:Nat):pC ls (n+1) b i*2^(14-n)+BO ls n i=b*2^(14-n)+BO ls (n+1) i:=by
 induction i with
 | zero=>simp[pC,BO]
 | succ i ih =>
  simp only[pC,BO];by_cases h:ls.getD i 0=((n+1:Nat):Int)
  ·have e:(ls.getD i 0).toNat=n+1:=by omega
   rw[aaj h,aai (by omega),aaj (by omega),e,Nat.add_mul,show 15-(n+1)=14-n by omega];omega
  ·have e:(if 0<ls.getD i 0/\ls.getD i 0<=(n:Int) then 2^(15-(ls.getD i 0).toNat) else 0)=(if 0<ls.getD i 0/\ls.getD i 0<=((n+1:Nat):Int) then 2^(15-(ls.getD i 0).toNat) else 0):=by
    by_cases h2:0<ls.getD i 0/\ls.getD i 0<=(n:Int)
    ·rw[aaj h2,aaj (by omega)]
    ·rw[aai h2,aai (by omega)]
   rw[aai h,e,acz];omega
theorem Jp (ls:List Int)(k:Nat):BO ls 0 k=0:=by
 induction k with
 | zero=>rfl
 | succ k ih=>simp only[BO,ih];rw[aai (by omega)]
theorem MT (ls:List Int)(n:Nat)(hn:n<=15):jZ ls n*2^(15-n)=BO ls n ls.length:=by
 induction n with
 | zero=>simp[jZ,Jp]
 | succ n ih =>
  have h:=Ep ls n (2*jZ ls n) (by omega) ls.length;have ih':=ih (by omega);rw[show 15-n=(14-n)+1 by omega,acP]at ih'
  have e:2*jZ ls n*2^(14-n)=jZ ls n*(2^(14-n)*2):=by
   rw[abk 2 (jZ ls n),abv,abk 2]
  rw[e,ih']at h;simp only[jZ];rw[show 15-(n+1)=14-n by omega];omega
theorem Px (ls:List Int)(hw:∀j,ls.getD j 0<=15)(hf:fs ls ls.length<=32768)(n i:Nat)(hn:n<15)(hi:i<=ls.length):nx ls n i*2^(14-n)<=32768:=by
 have h:=Ep ls n (2*jZ ls n) hn i;have ho:=MT ls n (by omega);rw[show 15-n=(14-n)+1 by omega,acP]at ho
 have e:2*jZ ls n*2^(14-n)=jZ ls n*(2^(14-n)*2):=by
  rw[abk 2 (jZ ls n),abv,abk 2]
 rw[e,ho]at h;have h1:=Jo ls n ls.length i hi;have h2:=QQ ls hw (n+1) ls.length;show pC ls (n+1) (2*jZ ls n) i*2^(14-n)<=32768;omega
theorem mL (ls:List Int)(hw:∀j,ls.getD j 0<=15)(hf:fs ls ls.length<=32768)(n i:Nat)(hn:n<15)(hi:i<=ls.length):nx ls n i<=32768:=by
 have h:=Px ls hw hf n i hn hi;have h2:1<=2^(14-n):=Nat.one_le_two_pow;have h3:=Nat.mul_le_mul_left (nx ls n i) h2;omega
theorem vV (ls:List Int)(hw:∀j,ls.getD j 0<=15)(hf:fs ls ls.length<=32768)(n:Nat)(hn:n<15):2*jZ ls n<=32768:=mL ls hw hf n 0 hn (aaq _)
theorem og (ls cd:List Int)(n v:Int):∀(f i j:Nat),fm ls cd n v f i=some j->i<=j/\j<i+f/\ls.getD j 0=n/\cd.getD j 0=v
 | 0,_,_,h=>by simp[fm]at h
 | f+1,i,j,h=>by
  rw[fm]at h;split at h
  ·rename_i hh;cases h;exact⟨aah _,by omega,hh.1,hh.2⟩
  ·have:=og ls cd n v f (i+1) j h;exact⟨by omega,by omega,this.2.2⟩
theorem oh (ls cd:List Int)(n v:Int):∀(f i:Nat),fm ls cd n v f i=none->∀j,i<=j->j<i+f->¬(ls.getD j 0=n/\cd.getD j 0=v)
 | 0,_,_,j,h1,h2=>by omega
 | f+1,i,h,j,h1,h2=>by
  rw[fm]at h;split at h
  ·cases h
  ·rename_i hh;by_cases e:j=i
   ·subst e;exact hh
   ·exact oh ls cd n v f (i+1) h j (by omega) (by omega)
theorem fX {ls cd:List Int}{n v:Int}{j:Nat}(h:find ls cd n v=some j):j<ls.length/\ls.getD j 0=n/\cd.getD j 0=v:=by
 have:=og ls cd n v _ _ _ h;exact⟨by omega,this.2.2⟩
theorem vW {ls cd:List Int}{n v:Int}(h:find ls cd n v=none)(j:Nat)(hj:j<ls.length):¬(ls.getD j 0=n/\cd.getD j 0=v):=oh ls cd n v _ _ h j (aaq _) (by omega)
theorem qn (ls:List Int)(n i j:Nat)(hn:n<15)(hi:i<ls.length)(hj:j<ls.length)(h1:ls.getD i 0=((n+1:Nat):Int))(h2:ls.getD j 0=((n+1:Nat):Int))(h:(codes ls).getD i 0=(codes ls).getD j 0):i=j:=by
 rw[mK ls n i hn hi h1,mK ls n j hn hj h2]at h;have h':pC ls (n+1) (2*jZ ls n) i=pC ls (n+1) (2*jZ ls n) j:=Int.ofNat.inj h;by_cases e:i<j
 ·have:=xM ls (n+1) (2*jZ ls n) i j e h1;omega
 ·by_cases e2:j<i
  ·have:=xM ls (n+1) (2*jZ ls n) j i e2 h2;omega
  ·omega
theorem xN {ls:List Int}{n j:Nat}(hn:n<15)(hj:j<ls.length)(h1:ls.getD j 0=((n+1:Nat):Int)):find ls (codes ls) ((n+1:Nat):Int) ((codes ls).getD j 0)=some j:=by
 cases h:find ls (codes ls) ((n+1:Nat):Int) ((codes ls).getD j 0) with
 | none=>exact absurd ⟨h1,rfl⟩ (vW h j hj)
 | some i =>
  obtain⟨a,b,c⟩:=fX h;rw[qn ls n i j hn a hj b h1 c]
theorem qo (L ls cd:List Int)(m:Nat)(hm:∀j,j<ls.length->ls.getD j 0<=(m:Int)):∀(f n:Nat) (v:Int) (st:St),m<=n->(d7 L ls cd f n v st).2.bad=true
 | 0,_,_,_,_=>rfl
 | f+1,n,v,st,h=>by
  rw[d7];split
  ·assumption
  ·have e:find ls cd ((n:Int)+1) (2*v+(take L st 1).1)=none:=by
    cases h2:find ls cd ((n:Int)+1) (2*v+(take L st 1).1) with
    | none=>rfl
    | some i =>
     obtain⟨a,b,_⟩:=fX h2;have:=hm i a;omega
   rw[e];exact qo L ls cd m hm f (n+1) _ _ (by omega)
end Go.Proofs.YtmfijackgekioabGreatDoor.Rf
namespace Go.Proofs.YtmfijackgekioabGreatDoor
open Go.RowKit Go.Maps
theorem laidOut:laidOutB Tryz.prog=true:=by kernel_rfl
theorem Er:(178:TypeId)<Tryz.prog.types.size:=of_decide_eq_true (by kernel_rfl)
theorem Jq:(match Tryz.prog.underlying 178 with|some (.array _ _)|some (.struct _)=>true|_=>false)=true:=by kernel_rfl
theorem i5:Keyed Tryz.prog 178:=Keyed.of_law (deep_law_laid laidOut (m:=3) (by omega) Er (by kernel_rfl) Jq)
theorem im (w:World):(zeroValue 3).run Tryz.prog w=.ok (.int .i64 0) w:=by kernel_rfl
abbrev pD (a l:Nat):Value:=.agg #[.int .u16 a,.int .u16 l]
theorem vX:Tryz.prog.cellsOf 178=2:=by kernel_rfl
theorem MU:Tryz.prog.cellsOf 119=1:=by kernel_rfl
theorem UZ (a:Nat)(h:a<65536):(Lit.int .u16 (a:Int)).wf=true:=by
 have e1:IntKind.u16.min=0:=by decide
 have e2:IntKind.u16.max=65535:=by decide
 simp only[Lit.wf,e1,e2,aaS,aaW];omega
theorem Jr:Tryz.prog.keyType 178=true:=by kernel_rfl
theorem zF (a l:Nat)(ha:a<65536)(hl:l<65536):∃x,keyOf Tryz.prog 178 (pD a l)=some x:=by
  obtain⟨m,hm⟩:∃m,Tryz.prog.types.size=m+1:=⟨Tryz.prog.types.size-1,by have:0<Tryz.prog.types.size:=Nat.lt_of_le_of_lt (aaq _) Er;omega⟩
  have h1:(Lit.int .u16 (a:Int)).wf=true:=UZ a ha;have h2:(Lit.int .u16 (l:Int)).wf=true:=UZ l hl;unfold keyOf;rw[Tryz.underlying178];simp only;rw[aaj (by rw[Jr];simp[Value.formed,Tryz.underlying178,vX]),hm];simp[Program.keyLits,Tryz.underlying178,Tryz.underlying119,vX,MU,Value.cells,h1,h2]
theorem Es:∃f:Nat->Nat->Lit,∀a l,a<65536->l<65536->keyOf Tryz.prog 178 (pD a l)=some (f a l) :=
 ⟨fun a l=>if h:a<65536/\l<65536 then Classical.choose (zF a l h.1 h.2) else .bool false,fun a l ha hl=>by
  simp only[dif_pos (And.intro ha hl)];exact Classical.choose_spec (zF a l ha hl)⟩
noncomputable def kl:Nat->Nat->Lit:=Classical.choose Es
theorem hkl (a l:Nat)(ha:a<65536)(hl:l<65536):keyOf Tryz.prog 178 (pD a l)=some (kl a l):=Classical.choose_spec Es a l ha hl
theorem Js {a l a' l':Nat}(ha:a<65536)(hl:l<65536)(ha':a'<65536)(hl':l'<65536)(h:kl a l=kl a' l'):a=a'/\l=l':=by
 have e:=i5.inj (hkl a l ha hl) (by rw[h];exact hkl a' l' ha' hl');simp only[pD,Value.agg.injEq,Array.mk.injEq,List.cons.injEq,Value.int.injEq,acm,and_true]at e;omega
theorem QR {a l:Nat}(ha:a<65536)(hl:l<65536):WideAt.IsKeyLit (kl a l):=i5.key (hkl a l ha hl)
def Done (ls:List Int)(n i j:Nat):Prop:=j<ls.length/\0<ls.getD j 0/\(ls.getD j 0<=(n:Int)\/ls.getD j 0=((n+1:Nat):Int)/\j<i)
theorem Done.next {ls:List Int}{n i j:Nat}(h:ls.getD i 0≠((n+1:Nat):Int)):Done ls n (i+1) j↔Done ls n i j:=by
 unfold Done;constructor
 ·rintro⟨a,b,c⟩;refine⟨a,b,c.imp id fun⟨x,y⟩=>⟨x,?_⟩⟩;by_cases e:j=i
  ·subst e;exact absurd x h
  ·omega
 ·rintro⟨a,b,c⟩;exact⟨a,b,c.imp id fun⟨x,y⟩=>⟨x,by omega⟩⟩
theorem Done.row {ls:List Int}{n j:Nat}:Done ls n ls.length j↔Done ls (n+1) 0 j:=by
 unfold Done;constructor
 ·rintro⟨a,b,c⟩;exact⟨a,b,by omega⟩
 ·rintro⟨a,b,c⟩;exact⟨a,b,by omega⟩
structure mt (D:DataW Unit) (ls:List Int) (n i sh lo:Nat):Prop where
 tidy:Tidy D
 none:∀a l:Nat,a<65536->l<65536->(∀j,Done ls n i j->ls.getD j 0=(l:Int)->(Rf.codes ls).getD j 0≠(a:Int))->Maps.has D (kl a l)=false
 some:∀j a l:Nat,a<65536->l<65536->Done ls n i j->ls.getD j 0=(l:Int)->(Rf.codes ls).getD j 0=(a:Int)->Maps.has D (kl a l)=true/\D.atKey (kl a l) (.lit (.int .i64 0))=.lit (.int .i64 (j:Int))
 empty:Maps.size D=0->∀j,¬Done ls n i j
 short:Maps.size D≠0->∀j,Done ls n i j->(sh:Int)<=ls.getD j 0
 long:∀j,Done ls n i j->ls.getD j 0<=(lo:Int)
 FT:lo<=15
 zG:sh<=15
 QS:sh<=n+1
theorem mt.start (ls:List Int):mt (.map []) ls 0 0 0 0 where
 tidy:=tidy_empty
 none _ _ _ _ _:=rfl
 some j a l _ _ h:=by unfold Done at h;omega
 empty _ j h:=by unfold Done at h;omega
 short h:=absurd rfl h
 long j h:=by unfold Done at h;omega
 FT:=by omega
 zG:=by omega
 QS:=by omega
theorem mt.next {D:DataW Unit}{ls:List Int}{n i sh lo:Nat}(h:mt D ls n i sh lo)(hi:ls.getD i 0≠((n+1:Nat):Int)):mt D ls n (i+1) sh lo where
 tidy:=h.tidy
 none a l ha hl hh:=h.none a l ha hl fun j hj=>hh j ((Done.next hi).2 hj)
 some j a l ha hl hj:=h.some j a l ha hl ((Done.next hi).1 hj)
 empty e j hj:=h.empty e j ((Done.next hi).1 hj)
 short e j hj:=h.short e j ((Done.next hi).1 hj)
 long j hj:=h.long j ((Done.next hi).1 hj)
 FT:=h.FT
 zG:=h.zG
 QS:=h.QS
theorem mt.row {D:DataW Unit}{ls:List Int}{n sh lo:Nat}(h:mt D ls n ls.length sh lo):mt D ls (n+1) 0 sh lo where
 tidy:=h.tidy
 none a l ha hl hh:=h.none a l ha hl fun j hj=>hh j (Done.row.1 hj)
 some j a l ha hl hj:=h.some j a l ha hl (Done.row.2 hj)
 empty e j hj:=h.empty e j (Done.row.2 hj)
 short e j hj:=h.short e j (Done.row.2 hj)
 long j hj:=h.long j (Done.row.2 hj)
 FT:=h.FT
 zG:=h.zG
 QS:=by have:=h.QS;omega
theorem mt.put {D:DataW Unit}{ls:List Int}{n i sh lo:Nat}(h:mt D ls n i sh lo)(hn:n<15)(hi:i<ls.length)(hl:ls.getD i 0=((n+1:Nat):Int))(hs:Rf.nx ls n i<65536): mt (D.put (kl (Rf.nx ls n i) (n+1)) (.lit (.int .i64 (i:Int)))) ls n (i+1) (if Maps.size D=0 then n+1 else sh) (n+1):=by
 have hc:=Rf.mK ls n i hn hi hl;have hD:=h.tidy.isMap;have key:=QR hs (show n+1<65536 by omega);have hnew:¬Done ls n i i:=by unfold Done;omega
 have hsplit:∀j,Done ls n (i+1) j->j=i\/Done ls n i j:=by
  rintro j ⟨a,b,c⟩;by_cases e:j=i
  ·exact .inl e
  ·exact .inr ⟨a,b,c.imp id fun⟨x,y⟩=>⟨x,by omega⟩⟩
 have hold:∀j,Done ls n i j->Done ls n (i+1) j:=fun j ⟨a,b,c⟩=>⟨a,b,c.imp id fun⟨x,y⟩=>⟨x,by omega⟩⟩
 have hself:Done ls n (i+1) i:=⟨hi,by omega,.inr ⟨hl,by omega⟩⟩
 have hfree:Maps.has D (kl (Rf.nx ls n i) (n+1))=false:=h.none _ _ hs (by omega) fun j hj hlj hcj=>by
  have e:=Rf.qn ls n j i hn hj.1 hi hlj hl (by rw[hcj,hc]);subst e;exact hnew hj
 refine⟨h.tidy.put key _,?_,?_,?_,?_,?_,by omega,by have:=h.zG;split<;>omega,by have:=h.QS;split<;>omega⟩
 ·intro a l ha hl' hh;by_cases e:kl a l=kl (Rf.nx ls n i) (n+1)
  ·obtain⟨rfl,rfl⟩:=Js ha hl' hs (by omega) e;exact absurd hc (hh i hself hl)
  ·rw[has_put_other e];exact h.none a l ha hl' fun j hj=>hh j (hold j hj)
 ·intro j a l ha hl' hj hlj hcj;rcases hsplit j hj with rfl|hj'
  ·have e1:l=n+1:=by omega
   have e2:a=Rf.nx ls n j:=by rw[hc]at hcj;exact (Int.ofNat.inj hcj).symm
   subst e1 e2;exact⟨has_put_same hD key _,atKey_put_same hD key _ _⟩
  ·have e:kl a l≠kl (Rf.nx ls n i) (n+1):=fun e=>by
    obtain⟨rfl,rfl⟩:=Js ha hl' hs (by omega) e;have e:=Rf.qn ls n j i hn hj'.1 hi hlj hl (by rw[hcj,hc]);subst e;exact hnew hj'
   rw[has_put_other e,atKey_put_other e];exact h.some j a l ha hl' hj' hlj hcj
 ·intro e;rw[size_put h.tidy,aai (by rw[hfree];decide)]at e;omega
 ·intro _ j hj;split
  ·rename_i e0;rcases hsplit j hj with rfl|hj'
   ·omega
   ·exact absurd hj' (h.empty e0 j)
  ·rename_i e0;rcases hsplit j hj with rfl|hj'
   ·have:=h.QS;omega
   ·exact h.short e0 j hj'
 ·intro j hj;rcases hsplit j hj with rfl|hj'
  ·omega
  ·have:=hj'.2.2;omega
structure Fill (w:World) (T M:Nat) (ls:List Int) (n i q:Nat):Prop where
 ex:∃(D:DataW Unit) (sh lo:Nat),w.heap[T]?=some (.cells #[.map (some M),.int .u16 sh,.int .u16 lo] 121 (0,0))/\w.ownsMap Tryz.prog 178 (plainElem Tryz.prog 3) M q D/\mt D ls n i sh lo
theorem dR {w:World}{T:Nat}{a b c:Value}{t:TypeId}(h:w.heap[T]?=some (.cells #[a,b,c] t (0,0))): w.cell? ⟨T,0,none⟩=some a/\w.cell? ⟨T,1,none⟩=some b/\w.cell? ⟨T,2,none⟩=some c/\(∀j,w.frozen? ⟨T,j,none⟩=false)/\T<w.heap.size :=
 ⟨aat _ _ _ _ _ _ h,aat _ _ _ _ _ _ h,aat _ _ _ _ _ _ h,fun j=>aaI w T j _ _ h,aaa h⟩
theorem U0 {w:World}{T:Nat}{a b c:Value}{t:TypeId}(h:w.heap[T]?=some (.cells #[a,b,c] t (0,0)))(u:Value):(w.setCell ⟨T,1,none⟩ u).heap[T]?=some (.cells #[a,u,c] t (0,0)):=(aau w T 1 _ _ u h).trans rfl
theorem Py {w:World}{T:Nat}{a b c:Value}{t:TypeId}(h:w.heap[T]?=some (.cells #[a,b,c] t (0,0)))(u:Value):(w.setCell ⟨T,2,none⟩ u).heap[T]?=some (.cells #[a,b,u] t (0,0)):=(aau w T 2 _ _ u h).trans rfl
theorem U1 (T M:Nat)(ls:List Int)(n i q:Nat)(w:World)(hF:Fill w T M ls n i q)(QT:M≠T)(hn:n<15)(hi:i<ls.length)(hlen:ls.length<=320)(hl:ls.getD i 0=((n+1:Nat):Int))(hs:Rf.nx ls n i<=32768)(hq:q<=100000): Calls Tryz.prog 140 #[.int .i64 i,pD (Rf.nx ls n i) (n+1),.pointer (some ⟨T,0,none⟩)] w fun e w'=>e=.returned (.tuple #[])/\Fill w' T M ls n (i+1) (q+1)/\Kp (fun k=>k=T\/k=M) w w':=by
 obtain⟨D,sh,lo,hT,hM,hH⟩:=hF;obtain⟨c0,c1,c2,fz,hlt⟩:=dR hT;have vw:=hM.lt;have HP:Hid (mt (D.put (kl (Rf.nx ls n i) (n+1)) (.lit (.int .i64 (i:Int)))) ls n (i+1) (if Maps.size D=0 then n+1 else sh) (n+1)):=hH.put hn hi hl (by omega);have hkey:=hkl (Rf.nx ls n i) (n+1) (by omega) (by omega);have hsz:=hM.size_le;have ec:((n+1:Nat):Int)=(n:Int)+1:=by omega
 generalize Rf.nx ls n i=a at *;rw[pD,ec]at hkey;rw[pD,ec];have U2:(Lit.int .i64 (i:Int)).wf=true:=WalkArith.wf_i64 (by omega);by_cases h0:Maps.size D=0
 ·have h0':((Maps.size D:Nat):Int)=0:=by omega
  rw[aaj h0]at HP
  go_enter Tryz.func140,Tryz.ntmps140
  go_wp2_with (first
   | (at_len;refine wpList_len_own _ rfl _ 118 rfl 178 3 Tryz.underlying118 _ M q D rfl (hM.alloc _) ?_)
   | (at_mapUpdate;refine acO _ rfl _ _ _ 118 rfl 178 3 i5 Tryz.underlying118 _ M q D rfl (((hM.setCell (a:=⟨T,1,none⟩) QT _).setCell (a:=⟨T,2,none⟩) QT _).alloc _) (by unfold maxLen;omega) _ _ _ rfl rfl hkey _ [] (ac2 Tryz.underlying3 U2) ?_;intro w1 hown1 ti))
  go_end0
  have IR:=Py (U0 hT (.int .u16 ((n:Int)+1))) (.int .u16 ((n:Int)+1));have Zu:=(ti.block T (by simp;omega) (fun e=>QT (aaH e).symm)).trans (ak IR (.cells #[.int .u16 a,.int .u16 ((n:Int)+1)] 178));exact⟨rfl,⟨_,n+1,n+1,Zu,hown1,HP.out⟩,((((Kp.refl _ w).setCell (p:=⟨T,1,none⟩) (.inl (.inl rfl)) _).setCell (p:=⟨T,2,none⟩) (.inl (.inl rfl)) _).alloc _).grown ti (fun k e=>by cases e;exact .inl (.inr rfl))⟩
 ·have h0':¬((Maps.size D:Nat):Int)=0:=by omega
  rw[aai h0]at HP
  go_enter Tryz.func140,Tryz.ntmps140
  go_wp2_with (first
   | (at_len;refine wpList_len_own _ rfl _ 118 rfl 178 3 Tryz.underlying118 _ M q D rfl (hM.alloc _) ?_)
   | (at_mapUpdate;refine acO _ rfl _ _ _ 118 rfl 178 3 i5 Tryz.underlying118 _ M q D rfl ((hM.setCell (a:=⟨T,2,none⟩) QT _).alloc _) (by unfold maxLen;omega) _ _ _ rfl rfl hkey _ [] (ac2 Tryz.underlying3 U2) ?_;intro w1 hown1 ti))
  go_end0
  have IR:=Py hT (.int .u16 ((n:Int)+1));have Zu:=(ti.block T (by simp;omega) (fun e=>QT (aaH e).symm)).trans (ak IR (.cells #[.int .u16 a,.int .u16 ((n:Int)+1)] 178));exact⟨rfl,⟨_,sh,n+1,Zu,hown1,HP.out⟩,(((Kp.refl _ w).setCell (p:=⟨T,2,none⟩) (.inl (.inl rfl)) _).alloc _).grown ti (fun k e=>by cases e;exact .inl (.inr rfl))⟩
end Go.Proofs.YtmfijackgekioabGreatDoor
