import Derived.Test.YtmfijackgekioaaGreatDoorQ10
import Derived.Laws.BytesArg
import Derived.Laws.IdiomStrings
import Derived.Laws.EntriesVeiled
import Derived.Defers
import Derived.Recover
import Derived.Maps.AppendAt
import Derived.Lib.AppendZeros
import Derived.Test.YtmfijackgekioaaGreatDoorLs
set_option maxHeartbeats 2000000
set_option maxRecDepth 100000
namespace Go.Proofs.YtmfijackgekioaaGreatDoor
section
open Go.RowKit Go.Maps
theorem dI {w:World}{base n:Nat}{v:Value}{l:List UInt8}(h:w.ownsRow base 5 1 v n (l.map bG))(hn:l.length=n):(convert 107 9 v).run Tryz.prog w=.ok (.string ⟨l.toArray⟩) w:=by
 subst hn;rcases h.2 with⟨rfl,h0⟩|⟨g,cap,cur,rfl,hb,hg,h1,h2,h3,ht⟩
 ·have e:l=[]:=aau h0;subst e;exact run_convert_bytes_nil (P:=Tryz.prog) w 107 5 Tryz.underlying107 Tryz.underlying5 0 0 9 Tryz.underlying9
 ·refine run_convert_bytes_back (P:=Tryz.prog) w 107 9 5 ⟨g,0,none⟩ cap l Tryz.underlying107 Tryz.underlying5 Tryz.underlying9 (fun j hj=>?_);rw[Addr.add_mid,aaF,h.cellAt j (by omega)];simp[hj]
theorem oS (a:Int)(h:a=0\/a=1):(a==1)=decide (a≠0):=by rcases h with rfl|rfl<;>rfl
end
section
open Go.RowKit
theorem PO (s:ByteArray)(w:World)(hs:s.size<=maxLen): Calls Tryz.prog 99 #[.string s] w fun e w'=>e=.returned (.int .i64 (Mx.eg s.data.toList))/\w'=w:=by
 unfold maxLen at hs
 go_enter Tryz.func99,Tryz.ntmps99
 go_wp2
 go_loop [3,4,8] (fun x y i=>∃k:Nat,k<=s.size/\i=.int .i64 k/\x=.int .i64 (Mx.AE (s.data.toList.take k))/\y=.int .i64 (Mx.Gv (s.data.toList.take k))) (fun _ _ i=>s.size-(intOf i).toNat)
 case atStart=>exact⟨0,aaj _,rfl,rfl,rfl⟩
 case round =>
  obtain⟨k,hk,rfl,rfl,rfl⟩:=hrel;have h1:=Mx.mW (s.data.toList.take k);have h2:=Mx.mX (s.data.toList.take k);by_cases hlt:k<s.size
  ·have hc:(s[k].toNat:Int)<256:=by have:=s[k].toNat_lt;omega
   have HS:Hid (Mx.AE (s.data.toList.take (k+1))=(Mx.AE (s.data.toList.take k)+s[k].toNat)%65521):=by rw[Mx.fU s k hlt];exact Mx.yz _ _
   have HT:Hid (Mx.Gv (s.data.toList.take (k+1))=(Mx.Gv (s.data.toList.take k)+(Mx.AE (s.data.toList.take k)+s[k].toNat)%65521)%65521):=by rw[Mx.fU s k hlt];exact Mx.yA _ _
   go_wp2
   go_round
   case rel=>exact⟨k+1,by omega,by go_num,by rw[HS.out],by rw[HT.out]⟩
   case measure=>simp[intOf];omega
  ·go_wp2
   go_ret
   exact⟨aC (by rw[aav (by simp;omega)];rfl),rfl⟩
def four (a:Int):List UInt8:=[UInt8.ofNat (a/16777216%256).toNat,UInt8.ofNat (a/65536%256).toNat,UInt8.ofNat (a/256%256).toNat,UInt8.ofNat (a%256).toNat]
def jA (x y:Nat):Prop:=x%16=8/\x/16<=7/\y/32%2=0/\(256*x+y)%31=0
instance (x y:Nat):Decidable (jA x y):=by unfold jA;infer_instance
def ae (s:ByteArray)(i:Nat):Nat:=(s.data.toList.getD i 0).toNat
theorem aY (s:ByteArray)(i:Nat)(h:i<s.size):s[i].toNat=ae s i:=by
 unfold ae;rw[aaa,aai (by simpa using h)];rfl
def mid (s:ByteArray)(limit:Int):Rf.St:=Rf.inflate (lw (s.extract 2 s.size)) limit
def jM (s:ByteArray)(limit:Int):Int :=
 if s.size<2\/¬jA (ae s 0) (ae s 1) then 8
 else if ((mid s limit).bad||(mid s limit).full)=true then code (mid s limit)
 else if s.size≠((mid s limit).pos+7)/8+6 then 8
 else if s.data.toList.drop (((mid s limit).pos+7)/8+2)≠four (Mx.eg (mid s limit).out) then 9 else 0
def DQ (s:ByteArray)(limit:Int):Prop:=2<=s.size->jA (ae s 0) (ae s 1)->((mid s limit).bad||(mid s limit).full)=false->(mid s limit).pos<=40000000/\(mid s limit).out.length<=11000000000
def aM (s:ByteArray)(i:Nat):Int:=ae s i*16777216+ae s (i+1)*65536+ae s (i+2)*256+ae s (i+3)
theorem aZ (s:ByteArray)(i:Nat):ae s i<256:=UInt8.toNat_lt _
theorem Fx (s:ByteArray)(k:Nat)(h:s.size=k+4):s.data.toList.drop k=[s[k],s[k+1],s[k+2],s[k+3]]:=by
 have hl:s.data.toList.length=k+4:=by rw[aaN];exact h
 rw[abB (by omega),abB (by omega),abB (by omega),abB (by omega),List.drop_of_length_le (by omega)];rfl
theorem Je (s:ByteArray)(k:Nat)(h:s.size=k+4)(a:Int)(h0:0<=a)(h1:a<4294967296):s.data.toList.drop k=four a↔aM s k=a:=by
 rw[Fx s k h,four];have e0:=aY s k (by omega);have e1:=aY s (k+1) (by omega);have e2:=aY s (k+2) (by omega);have e3:=aY s (k+3) (by omega);have l0:=aZ s k;have l1:=aZ s (k+1);have l2:=aZ s (k+2);have l3:=aZ s (k+3)
 have e8:∀(b:UInt8) (n:Int),0<=n->n<256->(b=UInt8.ofNat n.toNat↔((b.toNat:Nat):Int)=n):=fun b n p0 p1=>by
  rw[<-UInt8.toNat_inj,acq];have:=b.toNat_lt;omega
 simp only[List.cons.injEq,and_true];rw[e8 _ _ (by omega) (by omega),e8 _ _ (by omega) (by omega),e8 _ _ (by omega) (by omega),e8 _ _ (by omega) (by omega),e0,e1,e2,e3];unfold aM;omega
end
structure Ch where
 name:ByteArray
 data:ByteArray
def c9 (c:Nat):Bool:=(decide (65<=c)&&decide (c<=90))||(decide (97<=c)&&decide (c<=122))
def nK (s:ByteArray):Int:=4294967295-(Mx.kZ s.data.toList:Int)
def ik (b:ByteArray):Nat:=(aM b 0).toNat
theorem pj (b:ByteArray)(i:Nat):0<=aM b i/\aM b i<4294967296:=by
 have h0:=aZ b i;have h1:=aZ b (i+1);have h2:=aZ b (i+2);have h3:=aZ b (i+3);unfold aM;omega
theorem tR (b:ByteArray):aM b 0=(ik b:Int):=by have:=pj b 0;unfold ik;omega
def d7 (b:ByteArray)(i:Nat):Bool:=c9 (ae b i)&&(c9 (ae b (i+1))&&(c9 (ae b (i+2))&&c9 (ae b (i+3))))
def nL (b:ByteArray):Bool:=decide (12<=b.size)&&(decide (ik b<=2147483647)&&(decide (ik b+12<=b.size)&&(d7 b 4&&decide (aM b (8+ik b)=nK (b.extract 4 (8+ik b))))))
def nM (b:ByteArray):Ch:=⟨b.extract 4 8,b.extract 8 (8+ik b)⟩
def eJ (b:ByteArray):ByteArray:=b.extract (12+ik b) b.size
def Jf:Nat->ByteArray->Option (List Ch)
 | 0,_=>none
 | f+1,b=>if b.size=0 then some [] else if nL b=true then (Jf f (eJ b)).map (fun l=>nM b::l) else none
def aL (b:ByteArray):Option (List Ch):=Jf (b.size+1) b
theorem vU {b:ByteArray}(h:nL b=true):12<=b.size/\ik b+12<=b.size/\ik b<=2147483647:=by
 simp only[nL,aaJ,aaH]at h;exact⟨h.1,h.2.2.1,h.2.1⟩
theorem ji {b:ByteArray}(h:nL b=true):(eJ b).size+12+ik b=b.size:=by
 have:=vU h;unfold eJ;rw[aa7];omega
theorem zT:∀(f g:Nat) (b:ByteArray),b.size<f->b.size<g->Jf f b=Jf g b
 | 0,_,_,h,_=>absurd h (by omega)
 | _+1,0,_,_,h=>absurd h (by omega)
 | f+1,g+1,b,h1,h2=>by
  rw[Jf,Jf];split
  ·rfl
  ·split
   ·rename_i h;have:=ji h;rw[zT f g (eJ b) (by omega) (by omega)]
   ·rfl
theorem tS {b:ByteArray}(h:b.size=0):aL b=some []:=by rw[aL,Jf,aaf h]
theorem qT {b:ByteArray}(h0:b.size≠0)(h:nL b=true):aL b=(aL (eJ b)).map (fun l=>nM b::l):=by
 have:=ji h;rw[aL,Jf,aae h0,aaf h,zT b.size ((eJ b).size+1) (eJ b) (by omega) (by omega)];rfl
theorem BQ {b:ByteArray}(h0:b.size≠0)(h:nL b=false):aL b=none:=by rw[aL,Jf,aae h0,aae (by rw[h];decide)]
section
open Go.RowKit
def zU (c:Nat):Bool:=decide (65<=c)&&decide (c<=90)
theorem iP (b:ByteArray)(i j k:Nat)(h1:i+k<j)(_h2:j<=b.size):ae (b.extract i j) k=ae b (i+k):=by
 unfold ae;rw[ab2,acg,abO];simp only[aaa];rw[abx,aaf (by omega),List.getElem?_drop]
end
section
open Go.RowKit Go.Maps
def zV (s:ByteArray):Bool:=decide (8<=s.size)&&((s.extract 0 8).toList==[137,80,78,71,13,10,26,10])
def ed (L:List Ch):List Value:=L.flatMap fun c=>[.string c.name,.string c.data]
theorem xN (L:List Ch)(c:Ch):ed (L++[c])=ed L++[.string c.name,.string c.data]:=by simp[ed]
theorem tT (L:List Ch):(ed L).length=L.length*2:=by
 induction L with
 | nil=>rfl
 | cons x l ih=>simp only[ed,List.flatMap_cons,aac,aao,abS]at *;omega
def PP:Value->Nat|.string s=>s.size|_=>0
end
abbrev fS:List UInt8:=[73,72,68,82]
abbrev bQ:List UInt8:=[80,76,84,69]
abbrev aP:List UInt8:=[73,68,65,84]
abbrev jN:List UInt8:=[73,69,78,68]
def eK (s:ByteArray)(l:List UInt8):Bool:=s.toList==l
theorem tU {s:ByteArray}{l:List UInt8}(h:eK s l=true):s.data.toList=l:=by
 unfold eK at h;rw[ab3]at h;exact eq_of_beq h
theorem fE {s:ByteArray}{l m:List UInt8}(h:eK s l=true)(hne:l≠m):eK s m=false:=by
 rw[Bool.eq_false_iff];intro hm;exact hne ((tU h).symm.trans (tU hm))
def mF:ByteArray->List ByteArray->Option ByteArray->List Ch->Option (List ByteArray×Option ByteArray)
 | _,d,p,[]=>some (d,p)
 | a,d,p,c::r =>
  if (eK c.name aP&&(d.isEmpty||eK a aP))=true then mF c.name (d++[c.data]) p r
  else if (eK c.name bQ&&d.isEmpty&&p.isNone)=true then mF c.name d (some c.data) r
  else if zU (ae c.name 0)=true then none
  else mF c.name d p r
def oF:List ByteArray->ByteArray
 | []=>⟨#[]⟩
 | x::r=>x++oF r
structure vV where
 head:ByteArray
 aK:Option ByteArray
 data:ByteArray
def ew (L:List Ch):Ch:=L.getD (L.length-1) ⟨⟨#[]⟩,⟨#[]⟩⟩
def dR (L:List Ch):Ch:=L.getD 0 ⟨⟨#[]⟩,⟨#[]⟩⟩
def gv (L:List Ch):List Ch:=(L.take (L.length-1)).drop 1
def kH (L:List Ch):Bool:=decide (2<=L.length)&&(eK (dR L).name fS&&(eK (ew L).name jN&&(ew L).data.toList.isEmpty))
def pk (L:List Ch):Option vV :=
 if kH L=true then
  match mF (dR L).name [] none (gv L) with
  | some (d,p)=>if d.isEmpty=true then none else some ⟨(dR L).data,p,oF d⟩
  | none=>none
 else none
def uy:Nat->Nat->Int->Int->Nat->List Ch->Bool
 | _,p,f,l,d,[]=>decide (p<=1)&&(decide (0<d)&&decide (l-f+1=(d:Int)))
 | i,p,f,l,d,c::r =>
  if eK c.name bQ=true then (if 0<=f then false else uy (i+1) (p+1) f l d r)
  else if eK c.name aP=true then uy (i+1) p (if f<0 then (i:Int) else f) (i:Int) (d+1) r
  else if ae c.name 0<=90 then false
  else uy (i+1) p f l d r
def gw (L:List Ch):Bool:=kH L&&uy 1 0 (-1) (-1) 0 (gv L)
theorem mG:∀(r:List Ch) (i p:Nat) (f l:Int) (d:Nat),(2<=p\/(0<=f/\l<=(i:Int)-1/\(d:Int)<l-f+1/\0<d))->uy i p f l d r=false
 | [],i,p,f,l,d,h=>by
  rw[uy];rcases h with h|h
  ·rw[aa4 (by omega),abX]
  ·rw[aa4 (show ¬l-f+1=(d:Int) by omega),acw,acw]
 | c::r,i,p,f,l,d,h=>by
  rw[uy];split
  ·split
   ·rfl
   ·refine mG r _ _ _ _ _ ?_;rcases h with h|h
    ·exact .inl (by omega)
    ·exact .inr ⟨h.1,by omega,h.2.2⟩
  ·split
   ·refine mG r _ _ _ _ _ ?_;rcases h with h|h
    ·exact .inl h
    ·right
     rw[aae (by omega)];omega
   ·split
    ·rfl
    ·refine mG r _ _ _ _ _ ?_;rcases h with h|h
     ·exact .inl h
     ·exact .inr ⟨h.1,by omega,h.2.2⟩
def zW:Option ByteArray->Nat|none=>0|some _=>1
theorem pw:∀(r:List Ch) (a:ByteArray) (d:List ByteArray) (p:Option ByteArray) (i:Nat) (f l:Int),(∀c∈r,c9 (ae c.name 0)=true) -> (d=[]->f=-1/\l=-1)->(d≠[]->0<=f/\l<=(i:Int)-1/\l-f+1=(d.length:Int)/\(eK a aP=true↔l=(i:Int)-1)) -> uy i (zW p) f l d.length r=(match mF a d p r with|some (d',_)=>!d'.isEmpty|none=>false)
 | [],a,d,p,i,f,l,_,h0,h1=>by
  rw[uy,mF];simp only;cases d with
  | nil =>
   obtain⟨rfl,rfl⟩:=h0 rfl;simp
  | cons x y =>
   obtain⟨a1,a2,a3,_⟩:=h1 (by simp);rw[aaw a3,aaw (show 0<(x::y).length by simp),aaw (show zW p<=1 by cases p<;>simp[zW])];rfl
 | c::r,a,d,p,i,f,l,hl,h0,h1=>by
  have hlr:∀c∈r,c9 (ae c.name 0)=true:=fun x hx=>hl x (abN _ hx);have hlc:=hl c (abJ);rw[uy,mF];by_cases hI:eK c.name aP=true
  ·have hP:eK c.name bQ=false:=fE hI (by decide)
   have hcap:zU (ae c.name 0)=true:=by
    have:=tU hI;unfold ae;rw[this];rfl
   rw[aae (by rw[hP];decide),aaf hI];by_cases hgo:(d.isEmpty||eK a aP)=true
   ·rw[aaf (show (eK c.name aP&&(d.isEmpty||eK a aP))=true by rw[hI,hgo];rfl)]
    have:=pw r c.name (d++[c.data]) p (i+1) (if f<0 then (i:Int) else f) (i:Int) hlr (fun e=>absurd e (by simp)) (fun _=>by
     rw[aac,abb];cases d with
     | nil =>
      obtain⟨rfl,rfl⟩:=h0 rfl;rw[aaf (by decide)];refine⟨by omega,by omega,by simp,?_⟩;rw[hI];simp
     | cons x y =>
      obtain⟨a1,a2,a3,a4⟩:=h1 (by simp);have:eK a aP=true:=by simpa using hgo
      have:=a4.1 this;rw[aae (by omega)];refine⟨a1,by omega,by omega,?_⟩;rw[hI]
      simp)
    rw[aac,abb]at this;exact this
   ·have hgo':(d.isEmpty||eK a aP)=false:=by simpa using hgo
    rw[aae (show ¬(eK c.name aP&&(d.isEmpty||eK a aP))=true by rw[hgo',acw];decide),aae (show ¬(eK c.name bQ&&d.isEmpty&&p.isNone)=true by rw[hP];simp),aaf hcap];simp only;have hd:d≠[]:=fun e=>by subst e;simp at hgo'
    obtain⟨a1,a2,a3,a4⟩:=h1 hd
    have hna:¬l=(i:Int)-1:=fun e=>by
     have:=a4.2 e;rw[this,Bool.or_true]at hgo';cases hgo'
    refine mG r _ _ _ _ _ (.inr ?_);rw[aae (by omega)];have:0<d.length:=List.length_pos_iff.2 hd;omega
  ·have hI':eK c.name aP=false:=by simpa using hI
   rw[aae (show ¬(eK c.name aP&&(d.isEmpty||eK a aP))=true by rw[hI',abX];decide)];by_cases hP:eK c.name bQ=true
   ·have hcap:zU (ae c.name 0)=true:=by
     have:=tU hP;unfold ae;rw[this];rfl
    rw[aaf hP,hP,acu];cases d with
    | nil =>
     obtain⟨rfl,rfl⟩:=h0 rfl;rw[aae (by decide)];cases p with
     | none =>
      rw[aaf (by rfl)];exact pw r c.name [] (some c.data) (i+1) (-1) (-1) hlr (fun _=>⟨rfl,rfl⟩) (fun e=>absurd rfl e)
     | some q =>
      rw[aae (by simp),aaf hcap];simp only;exact mG r _ _ _ _ _ (.inl (by show 2<=1+1;omega))
    | cons x y =>
     obtain⟨a1,_⟩:=h1 (by simp);rw[aaf a1,aae (by simp),aaf hcap]
   ·have hP':eK c.name bQ=false:=by simpa using hP
    rw[aae hP,aae hI,aae (show ¬(eK c.name bQ&&d.isEmpty&&p.isNone)=true by rw[hP',abX,abX];decide)]
    have hcb:zU (ae c.name 0)=decide (ae c.name 0<=90):=by
     unfold c9 at hlc;unfold zU;rw[aa3];simp at hlc ⊢;omega
    by_cases hc:ae c.name 0<=90
    ·rw[aaf hc,aaf (by rw[hcb];exact aaw hc)]
    ·rw[aae hc,aae (by rw[hcb,aa4 hc];decide)];refine pw r c.name d p (i+1) f l hlr h0 (fun hd=>?_);obtain⟨a1,a2,a3,a4⟩:=h1 hd;refine⟨a1,by omega,a3,?_⟩;rw[hI'];simp;omega
theorem Ms (L:List Ch)(hl:∀c∈L,c9 (ae c.name 0)=true):gw L=(pk L).isSome:=by
 unfold gw pk;cases he:kH L with
 | false=>simp
 | true =>
  have:=pw (gv L) (dR L).name [] none 1 (-1) (-1) (fun c hc=>hl c (acb (List.mem_of_mem_drop hc))) (fun _=>⟨rfl,rfl⟩) (fun e=>absurd rfl e);have this:uy 1 0 (-1) (-1) 0 (gv L)=_:=this;rw[acu,this,aaf rfl];cases mF (dR L).name [] none (gv L) with
  | none=>rfl
  | some x =>
   obtain⟨d,p⟩:=x;simp only;cases d<;>rfl
section
open Go.RowKit Go.Maps
structure Rx (w:World) (v:Value) (L:List Ch):Prop where
 shape:(L=[]/\v=.slice none 0 0)\/∃g cap,v=.slice (some ⟨g,0,none⟩) L.length cap/\g<w.heap.size/\L.length<=cap/\∀j,j<L.length->w.cell? ⟨g,j*2,none⟩=some (.string (L.getD j ⟨⟨#[]⟩,⟨#[]⟩⟩).name)/\w.cell? ⟨g,j*2+1,none⟩=some (.string (L.getD j ⟨⟨#[]⟩,⟨#[]⟩⟩).data)
theorem TM (L:List Ch)(j:Nat)(h:j<L.length):(ed L)[j*2]?=some (.string (L.getD j ⟨⟨#[]⟩,⟨#[]⟩⟩).name)/\(ed L)[j*2+1]?=some (.string (L.getD j ⟨⟨#[]⟩,⟨#[]⟩⟩).data):=by
 induction L generalizing j with
 | nil=>simp at h
 | cons x r ih =>
  have e:ed (x::r)=[.string x.name,.string x.data]++ed r:=by simp[ed]
  cases j with
  | zero=>rw[e];exact⟨rfl,rfl⟩
  | succ j =>
   have:=ih j (by simpa using h);rw[e,show (j+1)*2=2+j*2 by omega,show 2+j*2+1=2+(j*2+1) by omega];rw[aaG (by simp),aaG (by simp)];simpa using this
theorem tV {L:List Ch}{n:Nat}(hn:L.length=n+2):(gv L).length=n:=by
 unfold gv;rw[abv,aaQ];omega
theorem Jg {L:List Ch}{n k:Nat}(hn:L.length=n+2)(hk:k<n):(gv L).drop k=L.getD (k+1) ⟨⟨#[]⟩,⟨#[]⟩⟩::(gv L).drop (k+1):=by
 have hm:=tV hn;rw[abB (by omega)]
 congr 1
 unfold gv;rw[List.getElem_drop,List.getElem_take,aaa,aai (by omega)];simp only[acr]
 congr 1
 omega
theorem mid_end {L:List Ch}{n:Nat}(hn:L.length=n+2):(gv L).drop n=[]:=List.drop_eq_nil_of_le (by rw[tV hn];exact aad _)
def mH (L:List Ch):Nat:=(L.map fun c=>c.data.size).sum
theorem vW:∀(f:Nat) (b:ByteArray) (L:List Ch),Jf f b=some L->12*L.length+mH L=b.size/\∀c∈L,c.name.size=4/\c9 (ae c.name 0)=true
 | 0,_,_,h=>by cases h
 | f+1,b,L,h=>by
  rw[Jf]at h;split at h
  ·rename_i h0;injection h with h;subst h;exact⟨by rw[h0];rfl,fun c hc=>absurd hc (abC)⟩
  ·split at h
   ·rename_i hk;obtain⟨l,hl,rfl⟩:=acm.mp h;have hs:=ji hk;have hz:=vU hk;obtain⟨a1,a2⟩:=vW f (eJ b) l hl
    have e1:(nM b).data.size=ik b:=by
     show (b.extract 8 (8+ik b)).size=_;rw[aa7];omega
    have e2:(nM b).name.size=4:=by
     show (b.extract 4 8).size=_;rw[aa7];omega
    have e3:mH (nM b::l)=(nM b).data.size+mH l:=by simp[mH]
    refine⟨by rw[e3,e1,aao];omega,fun c hc=>?_⟩;rcases ab0.mp hc with rfl|hc
    ·refine⟨e2,?_⟩;simp only[nL,aaJ]at hk;have h4:=hk.2.2.2.1;simp only[d7,aaJ]at h4
     have e4:ae (nM b).name 0=ae b 4:=by
      show ae (b.extract 4 8) 0=_;rw[iP]
      all_goals omega
     rw[e4];exact h4.1
    ·exact a2 c hc
   ·cases h
theorem px {b:ByteArray}{L:List Ch}(h:aL b=some L):12*L.length+mH L=b.size/\∀c∈L,c.name.size=4/\c9 (ae c.name 0)=true:=vW _ _ _ h
def partsOf (b:ByteArray):Except Int vV :=
 if zV b=true then
  match aL (b.extract 8 b.size) with
  | none=>.error 11
  | some L=>match pk L with
   | none=>.error 12
   | some P=>.ok P
 else .error 10
theorem Jh {b:ByteArray}{L:List Ch}{P:vV}(h:zV b=true)(hc:aL (b.extract 8 b.size)=some L)(ho:pk L=some P):partsOf b=.ok P:=by unfold partsOf;rw[aaf h,hc];dsimp only;rw[ho]
end
def cK (nm:List UInt8)(L:List Ch):ByteArray:=L.foldl (fun s c=>if eK c.name nm=true then s++c.data else s) ⟨#[]⟩
def dx (nm:List UInt8)(L:List Ch):Nat:=L.foldl (fun n c=>if eK c.name nm=true then n+1 else n) 0
theorem kI (nm:List UInt8)(L:List Ch)(c:Ch):cK nm (L++[c])=if eK c.name nm=true then cK nm L++c.data else cK nm L:=by
 unfold cK;rw[List.foldl_append];rfl
theorem tW (nm:List UInt8)(L:List Ch)(c:Ch):dx nm (L++[c])=if eK c.name nm=true then dx nm L+1 else dx nm L:=by
 unfold dx;rw[List.foldl_append];rfl
theorem iA (b:ByteArray):(⟨#[]⟩:ByteArray)++b=b:=ByteArray.ext (by simp[ByteArray.data_append])
theorem kJ (b:ByteArray):b++(⟨#[]⟩:ByteArray)=b:=ByteArray.ext (by simp[ByteArray.data_append])
theorem qi (a b c:ByteArray):a++b++c=a++(b++c):=ByteArray.ext (by simp[ByteArray.data_append])
theorem oG (nm:List UInt8):∀(L:List Ch) (s:ByteArray),L.foldl (fun s c=>if eK c.name nm=true then s++c.data else s) s=s++cK nm L
 | [],s=>(kJ s).symm
 | c::r,s=>by
  have e:cK nm (c::r)=(if eK c.name nm=true then (⟨#[]⟩:ByteArray)++c.data else ⟨#[]⟩)++cK nm r:=by
   show List.foldl _ _ (c::r)=_;rw[List.foldl_cons,oG nm r]
  rw[List.foldl_cons,oG nm r,e];split
  ·rw[iA,qi]
  ·rw[iA]
theorem oH (nm:List UInt8):∀(L:List Ch) (n:Nat),L.foldl (fun n c=>if eK c.name nm=true then n+1 else n) n=n+dx nm L
 | [],n=>rfl
 | c::r,n=>by
  have e:dx nm (c::r)=(if eK c.name nm=true then 0+1 else 0)+dx nm r:=by
   show List.foldl _ _ (c::r)=_;rw[List.foldl_cons,oH nm r]
  rw[List.foldl_cons,oH nm r,e];split<;>omega
theorem gx (nm:List UInt8)(c:Ch)(r:List Ch):cK nm (c::r)=if eK c.name nm=true then c.data++cK nm r else cK nm r:=by
 rw[cK,List.foldl_cons,oG];split
 ·rw[iA]
 ·rw[iA]
theorem kK (nm:List UInt8)(c:Ch)(r:List Ch):dx nm (c::r)=if eK c.name nm=true then dx nm r+1 else dx nm r:=by
 rw[dx,List.foldl_cons,oH];split<;>omega
theorem zX (d:List ByteArray)(x:ByteArray):oF (d++[x])=oF d++x:=by
 induction d with
 | nil=>show x++_=_;rw[show oF []=⟨#[]⟩ from rfl,kJ,iA]
 | cons y r ih=>show y++oF (r++[x])=y++oF r++x;rw[ih,qi]
theorem Ji {c:Ch}{nm:List UInt8}(h:eK c.name nm=true)(h0:(nm.getD 0 0).toNat<=90)(h1:65<=(nm.getD 0 0).toNat):zU (ae c.name 0)=true:=by
 have:=tU h;unfold ae;rw[this];unfold zU;simp at h0 h1 ⊢;omega
theorem nB:∀(r:List Ch) (a:ByteArray) (d:List ByteArray) (p:Option ByteArray) (d':List ByteArray) (p':Option ByteArray),mF a d p r=some (d',p') -> oF d'=oF d++cK aP r/\dx bQ r+zW p=zW p'/\(p=none->cK bQ r=p'.getD ⟨#[]⟩)/\(∀x,p=some x->p'=some x)
 | [],a,d,p,d',p',h=>by
  rw[mF]at h;injection h with h;injection h with h1 h2;subst h1 h2;refine⟨(kJ _).symm,aaF _,fun e=>?_,fun x e=>e⟩;rw[e];rfl
 | c::r,a,d,p,d',p',h=>by
  rw[mF]at h;rw[gx,kK,gx];by_cases h1:(eK c.name aP&&(d.isEmpty||eK a aP))=true
  ·rw[aaf h1]at h;obtain⟨b1,b2,b3,b4⟩:=nB r c.name _ p d' p' h;have hI:eK c.name aP=true:=by rw[aaJ]at h1;exact h1.1
   have hP:eK c.name bQ=false:=fE hI (by decide);rw[aaf hI,aae (by rw[hP];decide),aae (by rw[hP];decide)];refine⟨?_,b2,b3,b4⟩;rw[b1,zX,qi]
  ·rw[aae h1]at h;by_cases h2:(eK c.name bQ&&d.isEmpty&&p.isNone)=true
   ·rw[aaf h2]at h;obtain⟨b1,b2,b3,b4⟩:=nB r c.name d (some c.data) d' p' h;simp only[aaJ]at h2;obtain⟨⟨hP,_⟩,hp⟩:=h2;have hI:eK c.name aP=false:=fE hP (by decide);have hp':p=none:=by cases p with|none=>rfl|some x=>cases hp
    subst hp';rw[aae (by rw[hI];decide),aaf hP,aaf hP];have e:=b4 _ rfl;subst e;have b2':dx bQ r+1=1:=b2;refine⟨b1,?_,fun _=>?_,fun x e=>by cases e⟩
    ·show dx bQ r+1+0=1;omega
    ·have:cK bQ r=⟨#[]⟩:=join_none bQ r (by omega);rw[this,kJ];rfl
   ·rw[aae h2]at h;by_cases h3:zU (ae c.name 0)=true
    ·rw[aaf h3]at h;cases h
    ·rw[aae h3]at h;obtain⟨b1,b2,b3,b4⟩:=nB r c.name d p d' p' h;have hI:¬eK c.name aP=true:=fun e=>h3 (Ji e (by decide) (by decide));have hP:¬eK c.name bQ=true:=fun e=>h3 (Ji e (by decide) (by decide));rw[aae hI,aae hP,aae hP];exact⟨b1,b2,b3,b4⟩
 where
 join_none (nm:List UInt8):∀(r:List Ch),dx nm r=0->cK nm r=⟨#[]⟩
  | [],_=>rfl
  | c::r,h=>by
   rw[kK]at h;rw[gx];split
   ·rename_i e;rw[aaf e]at h;omega
   ·rename_i e;rw[aae e]at h;exact join_none nm r h
theorem BR {L:List Ch}(h:2<=L.length):L=dR L::(gv L++[ew L]):=by
 cases L with
 | nil=>simp at h
 | cons x r =>
  have hr:r≠[]:=fun e=>by subst e;simp at h
  have e1:gv (x::r)=r.dropLast:=by
   unfold gv;rw[aao,Nat.add_sub_cancel];obtain⟨n,hn⟩:∃n,r.length=n+1:=⟨r.length-1,by have:=List.length_pos_iff.2 hr;omega⟩
   rw[hn,List.take_succ_cons,List.drop_succ_cons,acv,List.dropLast_eq_take,hn];rfl
  have e2:ew (x::r)=r.getLast hr:=by
   unfold ew;rw[aao,Nat.add_sub_cancel];obtain⟨n,hn⟩:∃n,r.length=n+1:=⟨r.length-1,by have:=List.length_pos_iff.2 hr;omega⟩
   rw[hn,List.getD_cons_succ,List.getLast_eq_getElem,aaa,aai (by omega)];simp only[acr,hn,Nat.add_sub_cancel]
  show x::r=x::_;rw[e1,e2,List.dropLast_concat_getLast]
theorem tX {L:List Ch}{P:vV}(h:pk L=some P):cK aP L=P.data/\dx bQ L=zW P.aK/\cK bQ L=P.aK.getD ⟨#[]⟩:=by
 unfold pk at h;split at h
 ·rename_i he;simp only[kH,aaJ,aaH]at he;obtain⟨h2,hf,hl,_⟩:=he;cases ho:mF (dR L).name [] none (gv L) with
  | none=>rw[ho]at h;cases h
  | some x =>
   obtain⟨d,p⟩:=x;rw[ho]at h;simp only at h;split at h
   ·cases h
   ·injection h with h;subst h;obtain⟨b1,b2,b3,_⟩:=nB _ _ _ _ _ _ ho;have hs:=BR h2;have fI:eK (dR L).name aP=false:=fE hf (by decide);have fP:eK (dR L).name bQ=false:=fE hf (by decide);have lI:eK (ew L).name aP=false:=fE hl (by decide);have lP:eK (ew L).name bQ=false:=fE hl (by decide);rw[hs];generalize dR L=x at *;generalize ew L=z at *;generalize gv L=mid at *;rw[gx,gx,kK,kI,kI,tW];simp only[fI,fP,lI,lP,abl,acA];refine⟨?_,b2,b3 rfl⟩;show cK aP mid=oF d;rw[b1];exact (iA _).symm
 ·cases h
section
open Go.RowKit
def nZ (s:ByteArray)(limit:Int):ByteArray:=if jM s limit=0 then ⟨(mid s limit).out.toArray⟩ else ⟨#[]⟩
theorem Fy (n:Nat)(hn:n<4294967296):(four (n:Int)).map bG=[.int .u8 ((n:Int)/16777216),.int .u8 ((n:Int)/65536%256),.int .u8 ((n:Int)/256%256),.int .u8 ((n:Int)%256)]:=by
 have h:∀x:Int,0<=x->x<256->((UInt8.ofNat x.toNat).toNat:Int)=x:=fun x h0 h1=>by
  rw[acq];have:x.toNat%2^8=x.toNat:=abp (by omega);rw[this];omega
 simp only[four,ach,List.map_nil,bG];rw[h _ (by omega) (by omega),h _ (by omega) (by omega),h _ (by omega) (by omega),h _ (by omega) (by omega)];rw[show (n:Int)/16777216%256=(n:Int)/16777216 by omega]
theorem zY (n:Nat)(hn:n<4294967296)(w:World):(convert 107 9 (.slice (some ⟨w.heap.size,0,none⟩) 4 4)).run Tryz.prog (w.alloc (.cells #[.int .u8 ((n:Int)/16777216),.int .u8 ((n:Int)/65536%256),.int .u8 ((n:Int)/256%256),.int .u8 ((n:Int)%256)] 5)) = .ok (.string ⟨(four (n:Int)).toArray⟩) (w.alloc (.cells #[.int .u8 ((n:Int)/16777216),.int .u8 ((n:Int)/65536%256),.int .u8 ((n:Int)/256%256),.int .u8 ((n:Int)%256)] 5)):=by
 refine dI (base:=w.heap.size) (n:=4) (l:=four (n:Int)) ⟨rfl,.inr ⟨w.heap.size,4,_,rfl,aad _,ak w _,aad _,by unfold maxLen;omega,rfl,?_⟩⟩ rfl;rw[Fy n hn];rfl
theorem py (n:Nat)(w:World)(hn:n<4294967296): Calls Tryz.prog 98 #[.int .i64 n] w fun e w'=>e=.returned (.string ⟨(four n).toArray⟩)/\Below w.heap.size w w':=by
 have hcv:=zY n hn w
 go_enter Tryz.func98,Tryz.ntmps98
 go_wp2
 go_ret
 exact⟨rfl,ag w _⟩
end
end Go.Proofs.YtmfijackgekioaaGreatDoor
