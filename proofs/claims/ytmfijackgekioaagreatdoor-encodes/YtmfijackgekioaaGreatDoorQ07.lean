import Derived.Test.YtmfijackgekioaaGreatDoorQ06
namespace Go.Proofs.YtmfijackgekioaaGreatDoor.Rf
theorem sx (d:Nat)(h1:1<=d)(h2:d<=32768):gJ d<=29/\cR (gJ d)<=d/\d-cR (gJ d)<2^db (gJ d):=by
 by_cases h4:d<=4
 ·have:∀d:Fin 5,1<=d.val->gJ d.val<=29/\cR (gJ d.val)<=d.val/\d.val-cR (gJ d.val)<2^db (gJ d.val):=by decide +kernel
  exact this ⟨d,by omega⟩ h1
 ·obtain⟨a,rfl⟩:∃a,d=a+1:=⟨d-1,by omega⟩
  have l1:=Nat.log2_self_le (n:=a) (by omega);have l2:=Nat.lt_log2_self (n:=a);have hb:k7 a=a.log2+1:=by rw[k7,aae (by omega)]
  generalize a.log2=k at *
  have hk2:2<=k:=by
   rcases aaL k 2 with h|h
   ·have:2^(k+1)<=2^2:=aa2 (by omega) (by omega);omega
   ·exact h
  have aci:k<=14:=by
   rcases aaL 14 k with h|h
   ·have:2^15<=2^k:=aa2 (by omega) (by omega);omega
   ·exact h
  obtain⟨e,rfl⟩:∃e,k=e+1:=⟨k-1,by omega⟩
  have p1:2^(e+1)=2*2^e:=by rw[ab1];omega
  have p2:2^(e+1+1)=4*2^e:=by rw[ab1,p1];omega
  rw[p1]at l1;rw[p2]at l2;have hP:0<2^e:=Nat.pow_pos (by omega)
  have hx:gJ (a+1)=2*e+a/2^e:=by
   rw[gJ,Nat.add_sub_cancel,hb,show e+1+1-2=e by omega]
  have q1:2<=a/2^e:=(Nat.le_div_iff_mul_le hP).2 l1;have q2:a/2^e<4:=(Nat.div_lt_iff_lt_mul hP).2 l2;have hm:=Nat.div_add_mod a (2^e);have hr:=acj a hP;rw[hx];generalize a/2^e=q at *;have hq:q=2\/q=3:=by omega
  have e1:db (2*e+q)=e:=by rw[db,aaf (by omega)];omega
  have e2:cR (2*e+q)=q*2^e+1:=by
   rw[cR,aaf (by omega),show (2*e+q)/2-1=e by omega,show 2+(2*e+q)%2=q by omega]
  rw[e1,e2,aaV q];omega
theorem nS {L:List Int}{limit:Int}{ls far:List Int}{sb fb:Nat->List Int}{T:List UInt8}(hlim:(T.length:Int)<=limit){S:List (Nat×Nat)}{p q:Nat}{st:St}(hS:S.length<L.length+2)(hfit:Fits T p S q)(hk:r9 ls far sb fb T p S)(hb:st.bad=false)(hf:st.full=false)(ho:st.out=T.take p)(ha:At L st.pos (dl sb fb T p S)): symbols L limit ls far st={ st with pos:=st.pos+(dl sb fb T p S).length,out:=T.take q } :=
 lJ hlim sx S p q _ st hS hfit hk hb hf ho ha
theorem EO {L:List Int}{limit:Int}{f l k:Nat}{st:St}(hl:l<2)(hk:k<4)(hb:st.bad=false)(hf:st.full=false)(ha:At L st.pos (nb l 1++nb k 2)): nH L limit (f+1) 0 st=nH L limit f (l:Int) (block L limit (k:Int) { st with pos:=st.pos+3,kinds:=st.kinds++[(k:Int)] }):=by
 have h1:=fg ha.left;have hr:=ha.right;rw[aF]at hr;have h2:=fg (st:={ st with pos:=st.pos+1 }) hr;rw[abp (by omega)]at h1 h2;rw[nH,aae (by rw[hb,hf];rintro (q|q);exact q rfl;cases q)];simp only;rw[h1];simp only;rw[h2];simp only;rw[aae (by rw[hb];decide)]
theorem Ht (ls:List Int)(n b i:Nat):b<=pP ls n b i:=yK ls n b 0 i (aaj _)
theorem yP (ls:List Int)(m:Nat):∀k,2^k*kP ls m<=kP ls (m+k)
 | 0=>by simp
 | k+1=>by
  have h1:=yP ls m k;have h2:2*kP ls (m+k)<=kP ls (m+k+1):=Ht ls (m+k+1) _ ls.length;rw[ab1,aaV (2^k),aa0];exact aaz (Nat.mul_le_mul_left 2 h1) h2
theorem EP (ls:List Int)(m n i j:Nat)(hm:m<n)(hi:i<ls.length)(h1:ls.getD i 0=((m+1:Nat):Int)): nx ls m i<nx ls n j/2^(n-m):=by
 have a1:nx ls m i<kP ls (m+1):=wR ls (m+1) _ i ls.length hi h1;have a2:=yP ls (m+1) (n-(m+1));rw[show m+1+(n-(m+1))=n by omega]at a2;have a3:2*kP ls n<=nx ls n j:=Ht ls (n+1) _ j;have hP:0<2^(n-m):=Nat.pow_pos (by omega);refine aar a1 ((Nat.le_div_iff_mul_le hP).2 ?_)
 have e:2^(n-m)=2*2^(n-(m+1)):=by
  rw[show n-m=n-(m+1)+1 by omega,ab1];omega
 rw[e,aaV,aa0];exact aaz (Nat.mul_le_mul_left 2 a2) a3
theorem RZ (ls:List Int)(hw:∀j,ls.getD j 0<=15)(hf:fs ls ls.length<=32768)(n j:Nat)(hn:n<15)(hj:j<ls.length)(h1:ls.getD j 0=((n+1:Nat):Int)): nx ls n j<2^(n+1):=by
 have a1:nx ls n j<nx ls n ls.length:=wR ls (n+1) _ j ls.length hj h1;have a2:=Nv ls hw hf n ls.length hn (aad _);have e:(32768:Nat)=2^(n+1)*2^(14-n):=by rw[<-Nat.pow_add,show n+1+(14-n)=15 by omega]
 rw[e]at a2;have:=Nat.le_of_mul_le_mul_right a2 (Nat.pow_pos (by omega));omega
theorem A5 (ls:List Int)(hw:∀j,ls.getD j 0<=15)(hf:fs ls ls.length<=32768)(n j:Nat)(hn:n<15)(hj:j<ls.length)(h1:ls.getD j 0=((n+1:Nat):Int)): Reads ls j (cb (nx ls n j) (n+1)):=by
 intro L st hb ha;have h0:nx ls n j/2^(n+1)=0:=abm (RZ ls hw hf n j hn hj h1);have hfind:=Lf hn hj h1;rw[oQ ls n j hn hj h1]at hfind
 have:=CQ (L:=L) (ls:=ls) (code:=codes ls) (c:=nx ls n j) (i:=j) n 15 0 st hb hn ha (fun m hm=>by
  cases h:find ls (codes ls) (((0:Nat):Int)+1+m) ((nx ls n j/2^(n-m):Nat):Int) with
  | none=>rfl
  | some i =>
   obtain⟨b1,b2,b3⟩:=vj h;have b2':ls.getD i 0=((m+1:Nat):Int):=by rw[b2];omega
   rw[oQ ls m i (by omega) b1 b2']at b3;have:=EP ls m n i j hm b1 b2'
   omega) (by rw[<-hfind];congr 1;omega)
 rw[h0]at this;rw[symbol,fC];exact this
def vo (T:List UInt8)(limit:Int)(W:List Int)(p n:Nat)(ks:List Int):Prop :=
 n<=W.length/\∀L,At L 0 W->inflate L limit=nH L limit (L.length+2-n) 0 ⟨W.length,false,false,T.take p,ks⟩
def Whole (T:List UInt8)(limit:Int)(W:List Int)(ks:List Int):Prop :=
 ∀L,At L 0 W->inflate L limit=⟨W.length,false,false,T,ks⟩
def jq (T:List UInt8)(limit:Int)(at_ p q k:Nat)(B:List Int):Prop :=
 ∀(L:List Int) (st:St),st.bad=false->st.full=false->st.out=T.take p->st.pos=at_->At L st.pos B->block L limit (k:Int) st={ st with pos:=st.pos+B.length,out:=T.take q }
theorem A6 (T:List UInt8)(limit:Int):vo T limit [] 0 0 []:=⟨aad _,fun _ _=>rfl⟩
theorem sA {T:List UInt8}{limit:Int}{W B ks:List Int}{p q n k l:Nat}(h:vo T limit W p n ks)(hl:l<2)(hk:k<4)(hB:jq T limit (W.length+3) p q k B)(L:List Int)(ha:At L 0 (W++((nb l 1++nb k 2)++B))): inflate L limit=nH L limit (L.length+2-(n+1)) (l:Int) ⟨(W++((nb l 1++nb k 2)++B)).length,false,false,T.take q,ks++[(k:Int)]⟩:=by
 obtain⟨hn,h⟩:=h;have ha1:=ha.left;have ha2:=ha.right;have hlen:=ha1.1;rw[aaF]at ha2 hlen;have Zq:=ha2.right;rw[aac,aF,aF]at Zq;rw[h L ha1,show L.length+2-n=(L.length+2-(n+1))+1 by omega];rw[EO (st:=⟨W.length,false,false,T.take p,ks⟩) hl hk rfl rfl ha2.left];rw[hB L { pos:=W.length+3,bad:=false,full:=false,out:=T.take p,kinds:=ks++[(k:Int)] } rfl rfl rfl rfl Zq];simp only[aac,aF]
 congr 2
 omega
theorem yQ {T:List UInt8}{limit:Int}{W B ks:List Int}{p q n k:Nat}(h:vo T limit W p n ks)(hk:k<4)(hB:jq T limit (W.length+3) p q k B): vo T limit (W++((nb 0 1++nb k 2)++B)) q (n+1) (ks++[(k:Int)]):=by
 refine⟨?_,fun L ha=>sA (l:=0) h (by decide) hk hB L ha⟩;have:=h.1;simp only[aac,aF];omega
theorem yR {T:List UInt8}{limit:Int}{W B ks:List Int}{p n k:Nat}(h:vo T limit W p n ks)(hk:k<4)(hB:jq T limit (W.length+3) p T.length k B): Whole T limit (W++((nb 1 1++nb k 2)++B)) (ks++[(k:Int)]):=by
 intro L ha;rw[sA (l:=1) h (by decide) hk hB L ha,List.take_length];cases L.length+2-(n+1) with
 | zero=>rfl
 | succ f=>rw[nH,aaf (.inl (by decide))]
theorem wT {T:List UInt8}{limit:Int}{at_ p q:Nat}(pad:List Int)(hp:at_+pad.length=(at_+7)/8*8)(hpq:p<=q)(hq:q<=T.length)(h6:q-p<=65535)(hlim:(T.length:Int)<=limit): jq T limit at_ p q 0 (pad++(nb (q-p) 16++(nb (65535-(q-p)) 16++bb ((T.take q).drop p)))):=by
 intro L st hb _ ho hpos ha;have hl:((T.take q).drop p).length=q-p:=by rw[abv,aaQ];omega
 have e:(T.take p).length=p:=by rw[aaQ];omega
 have har:=ha.right;rw[hpos,hp]at har;have:=G7 (L:=L) (limit:=limit) (st:=st) (t:=(T.take q).drop p) hb (by omega) (by rw[ho,e];omega) (by rw[hl,hpos];exact har);show block L limit 0 st=_;rw[block,aaf rfl,this,ho,hl];simp only[aac,aF,m8,hl];rw[hpos,show (at_+7)/8*8+32+8*(q-p)=at_+(pad.length+(16+(16+8*(q-p)))) by omega]
 congr 1
 have e2:T.take p=(T.take q).take p:=by rw[List.take_take,Nat.min_eq_left hpq]
 rw[e2,List.take_append_drop]
theorem wW {T:List UInt8}{limit:Int}{at_ p q:Nat}{sb fb:Nat->List Int}{S:List (Nat×Nat)}(hlim:(T.length:Int)<=limit)(hfit:Fits T p S q)(hk:r9 bE jl sb fb T p S)(hS:S.length<=(dl sb fb T p S).length):jq T limit at_ p q 1 (dl sb fb T p S):=by
 intro L st hb hf ho _ ha;have hl:=ha.1;show block L limit 1 st=_;rw[block,aae (by decide),aaf rfl];exact nS hlim (by omega) hfit hk hb hf ho ha
def ja (P:List UInt8)(j:Nat):Nat:=(P.getD (j/8) 0).toNat/2^(j%8)%2
def Holds (P:List UInt8)(W:List Int):Prop:=P.length=(W.length+7)/8/\∀j,((ja P j:Nat):Int)=W.getD j 0
theorem oS (n k:Nat):n/2^k%2=(n.testBit k).toNat:=by
 rw[abV];rcases Nat.mod_two_eq_zero_or_one (n/2^k) with h|h<;>rw[h]<;>rfl
theorem pR (P:List UInt8)(i:Nat):(P++[0]).getD i 0=P.getD i 0:=by
 simp only[aaa];rcases Nat.lt_trichotomy i P.length with h|h|h
 ·rw[aaS h]
 ·subst h;simp
 ·rw[aas (by simp;omega),aas (by omega)]
theorem ER {P:List UInt8}{W:List Int}{b:Nat}(hP:P.length=W.length/8+1)(hj:∀j,((ja P j:Nat):Int)=W.getD j 0)(hb:b<2): Holds (P.set (W.length/8) (P.getD (W.length/8) 0|||UInt8.ofNat (b*2^(W.length%8)))) (W++[(b:Int)]):=by
 refine⟨by rw[aaZ,hP,aac];simp only[aao,abS];omega,fun j=>?_⟩
 have h0:ja P W.length=0:=by
  have:=hj W.length;rw[aaa,aas (aad _)]at this;simpa using this
 have hr:W.length%8<8:=acj _ (by omega)
 have hsm:b*2^(W.length%8)<256:=by
  have:2^(W.length%8)<=2^7:=aa2 (by omega) (by omega);have h1:b*2^(W.length%8)<=1*2^(W.length%8):=aaU _ (by omega);omega
 by_cases hd:j/8=W.length/8
 ·have eb:ja (P.set (W.length/8) (P.getD (W.length/8) 0|||UInt8.ofNat (b*2^(W.length%8)))) j=((P.getD (W.length/8) 0).toNat|||(b*2^(W.length%8)))/2^(j%8)%2:=by
   unfold ja;rw[hd]
   congr 2
   simp only[aaa];rw[List.getElem?_set_self (by omega)];simp only[acr,UInt8.toNat_or,acq];rw[abp hsm]
  rw[eb,oS,Nat.testBit_or];have ho:((P.getD (W.length/8) 0).toNat.testBit (j%8)).toNat=ja P j:=by rw[<-oS,ja,hd]
  by_cases he:j=W.length
  ·subst he
   have h1:((P.getD (W.length/8) 0).toNat.testBit (W.length%8))=false:=by
    have:=ho.trans h0;cases h:((P.getD (W.length/8) 0).toNat.testBit (W.length%8)) with
    | false=>rfl
    | true=>rw[h]at this;cases this
   rw[h1,Bool.false_or,<-oS,Nat.mul_div_cancel _ (Nat.pow_pos (by omega)),abp hb];simp
  ·have hne:j%8≠W.length%8:=by omega
   have h2:(b*2^(W.length%8)).testBit (j%8)=false:=by
    have:b=0\/b=1:=by omega
    rcases this with rfl|rfl
    ·simp
    ·rw[Nat.one_mul,Nat.testBit_two_pow];simp;omega
   rw[h2,Bool.or_false,ho,hj j];simp only[aaa];rcases aaL j W.length with h|h
   ·rw[aaS h]
   ·rw[aas h,aas (by simp;omega)]
 ·have eb:ja (P.set (W.length/8) (P.getD (W.length/8) 0|||UInt8.ofNat (b*2^(W.length%8)))) j=ja P j:=by
   unfold ja
   congr 3
   simp only[aaa];rw[aca (Ne.symm hd)]
  rw[eb,hj j];have he:j≠W.length:=fun h=>hd (by rw[h]);simp only[aaa];rcases aaL j W.length with h|h
  ·rw[aaS h]
  ·rw[aas h,aas (by simp;omega)]
theorem vr {P:List UInt8}{W:List Int}{b:Nat}(h:Holds P W)(hb:b<2)(P1:List UInt8)(h1:P1=if W.length%8=0 then P++[0] else P): Holds (P1.set (W.length/8) (P1.getD (W.length/8) 0|||UInt8.ofNat (b*2^(W.length%8)))) (W++[(b:Int)]):=by
 obtain⟨hl,hj⟩:=h;refine ER ?_ ?_ hb
 ·rw[h1];split
  ·rw[aac,hl];simp only[aao,abS];omega
  ·rw[hl];omega
 ·intro j;rw[<-hj j,h1];split
  ·unfold ja;rw[pR]
  ·rfl
theorem Hu {P:List UInt8}{W:List Int}(h:Holds P W):At (Mx.low P) 0 W:=by
 refine⟨by rw[Mx.jZ,h.1];omega,fun j _=>?_⟩;rw[aaF,wQ,<-h.2 j];rfl
theorem uD {T P:List UInt8}{limit:Int}{W ks:List Int}(hw:Whole T limit W ks)(h:Holds P W):inflate (Mx.low P) limit=⟨W.length,false,false,T,ks⟩:=hw _ (Hu h)
theorem sB {P:List UInt8}{W:List Int}(h:Holds P W):(W.length+7)/8=P.length:=h.1.symm
theorem A7 {P:List UInt8}{W:List Int}(h:Holds P W):Holds P (W++List.replicate (8*P.length-W.length) 0):=by
 obtain⟨hl,hj⟩:=h;refine⟨by rw[aac,abh];omega,fun j=>?_⟩;rw[hj j];simp only[aaa];rcases aaL j W.length with h|h
 ·rw[aaS h]
 ·rw[aas h,aaG h,abK];split<;>rfl
theorem yS {P:List UInt8}{W:List Int}(h:Holds P W)(h8:W.length=8*P.length)(t:List UInt8):Holds (P++t) (W++bb t):=by
 obtain⟨_,hj⟩:=h;refine⟨by rw[aac,aac,m8];omega,fun j=>?_⟩
 have e:∀t:List UInt8,bb t=Mx.low t:=fun t=>by
  induction t with
  | nil=>rfl
  | cons c r ih =>
   rw[bb,Mx.low,ih];rfl
 rw[e t];simp only[aaa];rcases aaL j W.length with h|h
 ·rw[aaS h];have:=hj j;simp only[aaa]at this;rw[<-this];unfold ja;simp only[aaa];rw[aaS (by omega)]
 ·rw[aaG h];have:=wQ t (j-W.length);simp only[aaa]at this;rw[this];unfold ja;simp only[aaa];rw[aaG (by omega),show j/8-P.length=(j-W.length)/8 by omega,show j%8=(j-W.length)%8 by omega]
def a8 (ls:List Int)(j:Nat):List Int:=cb (nx ls ((ls.getD j 0).toNat-1) j) (ls.getD j 0).toNat
theorem bV (ls:List Int)(j:Nat):(a8 ls j).length=(ls.getD j 0).toNat:=fC _ _
theorem gL (ls:List Int)(hw:∀j,ls.getD j 0<=15)(hf:fs ls ls.length<=32768)(j:Nat)(h1:1<=ls.getD j 0):Reads ls j (a8 ls j):=by
 have hj:j<ls.length:=by
  rcases aaL j ls.length with h|h
  ·exact h
  ·rw[aaa,aas h]at h1;exact absurd h1 (by decide)
 have h15:=hw j;obtain⟨n,hn⟩:∃n:Nat,ls.getD j 0=((n+1:Nat):Int):=⟨(ls.getD j 0).toNat-1,by omega⟩
 have:=A5 ls hw hf n j (by omega) hj hn;rw[a8,hn];exact this
def sC (T:List UInt8):Nat->List (Nat×Nat)->Nat->Prop
 | _,[],i=>i=256
 | p,s::r,i=>(if s.2=0 then i=(T.getD p 0).toNat else i=257+fG s.1)\/sC T (p+s.1) r i
def pS:List (Nat×Nat)->Nat->Prop
 | [],_=>False
 | s::r,j=>(s.2≠0/\j=gJ s.2)\/pS r j
theorem sD {ls far:List Int}(hw:∀j,ls.getD j 0<=15)(hf:fs ls ls.length<=32768)(hw':∀j,far.getD j 0<=15)(hf':fs far far.length<=32768){T:List UInt8}: ∀(S:List (Nat×Nat)) (p:Nat),(∀i,sC T p S i->1<=ls.getD i 0)->(∀j,pS S j->1<=far.getD j 0)->r9 ls far (a8 ls) (a8 far) T p S
 | [],_,h1,_=>gL ls hw hf 256 (h1 256 rfl)
 | s::r,p,h1,h2=>by
  refine⟨?_,sD hw hf hw' hf' r (p+s.1) (fun i hi=>h1 i (.inr hi)) (fun j hj=>h2 j (.inr hj))⟩;by_cases h0:s.2=0
  ·rw[aaf h0];exact gL ls hw hf _ (h1 _ (.inl (by rw[aaf h0])))
  ·rw[aae h0];exact⟨gL ls hw hf _ (h1 _ (.inl (by rw[aae h0]))),gL far hw' hf' _ (h2 _ (.inl ⟨h0,rfl⟩))⟩
theorem yT {T:List UInt8}:∀(S:List (Nat×Nat)) (p q i:Nat),Fits T p S q->sC T p S i->i<=285
 | [],_,_,i,_,h=>by have:i=256:=h;omega
 | s::r,p,q,i,⟨hs,hfit⟩,h=>by
  rcases h with h|h
  ·rcases hs with⟨h0,_,_⟩|⟨g1,g2,g3,_⟩
   ·rw[aaf h0]at h;have:=UInt8.toNat_lt (T.getD p 0);omega
   ·rw[aae (by omega)]at h;have:=(rZ s.1 g1 g2).1;omega
  ·exact yT r _ q i hfit h
theorem vt {T:List UInt8}:∀(S:List (Nat×Nat)) (p q j:Nat),Fits T p S q->pS S j->j<=29
 | s::r,p,q,j,⟨hs,hfit⟩,h=>by
  rcases h with⟨h0,h⟩|h
  ·rcases hs with⟨h0',_,_⟩|⟨_,_,g3,g4,_⟩
   ·exact absurd h0' h0
   ·rw[h];exact (sx s.2 g3 g4).1
  ·exact vt r _ q j hfit h
theorem yU {T:List UInt8}{S:List (Nat×Nat)}{p q:Nat}(h:Fits T p S q):r9 bE jl (a8 bE) (a8 jl) T p S:=by
 have a1:∀j,j<288->1<=bE.getD j 0/\bE.getD j 0<=15:=by decide +kernel
 have a2:∀j,j<32->1<=jl.getD j 0/\jl.getD j 0<=15:=by decide +kernel
 have l1:bE.length=288:=by decide +kernel
 have l2:jl.length=32:=by decide +kernel
 have k1:fs bE bE.length<=32768:=by decide +kernel
 have k2:fs jl jl.length<=32768:=by decide +kernel
 have w:∀(l:List Int) (n:Nat),l.length=n->(∀j,j<n->l.getD j 0<=15)->∀j,l.getD j 0<=15:=fun l n hn hl j=>by
  rcases aaL j n with h|h
  ·exact hl j h
  ·rw[aaa,aas (by omega)];decide
 exact sD (w _ _ l1 fun j hj=>(a1 j hj).2) k1 (w _ _ l2 fun j hj=>(a2 j hj).2) k2 S p (fun i hi=>(a1 i (by have:=yT S p q i h hi;omega)).1) (fun j hj=>(a2 j (by have:=vt S p q j h hj;omega)).1)
def lp (t:Nat×Nat):Nat:=if t.1=16 then 2 else if t.1=17 then 3 else if t.1=18 then 7 else 0
def iG (out:List Int)(t:Nat×Nat):List Int :=
 if t.1<16 then [(t.1:Int)] else if t.1=16 then List.replicate (3+t.2) (out.getD (out.length-1) 0) else if t.1=17 then List.replicate (3+t.2) 0 else List.replicate (11+t.2) 0
def tell:List Int->List (Nat×Nat)->List Int
 | out,[]=>out
 | out,t::r=>tell (out++iG out t) r
def gX:List Int->List (Nat×Nat)->Prop
 | _,[]=>True
 | out,t::r=>t.1<=18/\t.2<2^lp t/\(t.1=16->out≠[])/\gX (out++iG out t) r
def aS (tb:Nat->List Int):List (Nat×Nat)->List Int
 | []=>[]
 | t::r=>(tb t.1++nb t.2 (lp t))++aS tb r
theorem Hw (out:List Int)(t:Nat×Nat):1<=(iG out t).length:=by
 unfold iG;split
 ·simp
 ·split
  ·simp;omega
  ·split<;>simp<;>omega
theorem jb:∀(ts:List (Nat×Nat)) (out:List Int),out.length+ts.length<=(tell out ts).length
 | [],out=>by simp[tell]
 | t::r,out=>by
  have h:=jb r (out++iG out t);have h1:=Hw out t;rw[aac]at h;rw[tell,aao];omega
theorem yV {L ls:List Int}{tb:Nat->List Int}{n:Nat}:∀(ts:List (Nat×Nat)) (out:List Int) (f:Nat) (st:St),gX out ts->(∀t,t∈ts->Reads ls t.1 (tb t.1))->(tell out ts).length=n->ts.length<f->st.bad=false -> At L st.pos (aS tb ts)->oJ L ls (codes ls) n f out st=(tell out ts,{ st with pos:=st.pos+(aS tb ts).length })
 | [],out,f+1,st,_,_,hn,_,_,_=>by
  rw[oJ,aaf (.inl (by rw[<-hn];exact aad _))];rfl
 | t::r,out,f+1,st,⟨h18,hx,h16,hok⟩,hr,hn,hf,hb,ha=>by
  have hlen:=jb (t::r) out;rw[hn,aao]at hlen;rw[aao]at hf;have hal:=ha.left;have har:=ha.right;have hsy:=hr t abJ L st hb hal.left;have ht:=fg (st:={ st with pos:=st.pos+(tb t.1).length }) hal.right;rw[abp hx]at ht;rw[aac,aF]at har;have ih:=yV (L:=L) (ls:=ls) (tb:=tb) (n:=n) r (out++iG out t) f { st with pos:=st.pos+(tb t.1).length+lp t } hok (fun t' h=>hr t' (abN _ h)) hn (by omega) hb (by simpa only[abI]using har);rw[tell,aS,aac,aac,aF,oJ,aae (by rw[hb];rintro (q|q);omega;cases q)];simp only;rw[hsy];simp only;rw[aae (by rw[hb];decide)];have hfin:({ st with pos:=st.pos+(tb t.1).length+lp t+(aS tb r).length }:St)={ st with pos:=st.pos+((tb t.1).length+lp t+(aS tb r).length) }:=by simp only[abI]
  rw[<-hfin];refine Eq.trans ?_ ih;by_cases c1:t.1<16
  ·have e0:lp t=0:=by rw[lp,aae (by omega),aae (by omega),aae (by omega)]
   have e1:iG out t=[(t.1:Int)]:=by rw[iG,aaf c1]
   rw[aaf (by omega),e0,e1];rfl
  ·rw[aae (by omega)];by_cases c2:t.1=16
   ·have e0:lp t=2:=by rw[lp,aaf c2]
    have e1:iG out t=List.replicate (3+t.2) (out.getD (out.length-1) 0):=by rw[iG,aae c1,aaf c2]
    rw[e0]at ht ⊢;rw[aaf (by omega),aae (h16 c2),ht,e1];simp
   ·rw[aae (by omega)];by_cases c3:t.1=17
    ·have e0:lp t=3:=by rw[lp,aae c2,aaf c3]
     have e1:iG out t=List.replicate (3+t.2) 0:=by rw[iG,aae c1,aae c2,aaf c3]
     rw[e0]at ht ⊢;rw[aaf (by omega),ht,e1];simp
    ·have e0:lp t=7:=by rw[lp,aae c2,aae c3,aaf (by omega)]
     have e1:iG out t=List.replicate (11+t.2) 0:=by rw[iG,aae c1,aae c2,aae c3]
     rw[e0]at ht ⊢;rw[aae (by omega),ht,e1];simp
theorem yW {L ls:List Int}{tb:Nat->List Int}{n:Nat}{ts:List (Nat×Nat)}{st:St}(hok:gX [] ts)(hr:∀t,t∈ts->Reads ls t.1 (tb t.1))(hn:(tell [] ts).length=n)(hb:st.bad=false)(ha:At L st.pos (aS tb ts)):listed L ls n st=(tell [] ts,{ st with pos:=st.pos+(aS tb ts).length }):=by
 have hl:=jb ts [];rw[hn]at hl;unfold listed;rw[yV ts [] (n+1) st hok hr hn (by simp at hl;omega) hb ha];simp only;rw[aaf hn]
def kQ (nl:List Int):Nat->List Int
 | 0=>List.replicate 19 0
 | k+1=>(kQ nl k).set (order.getD k 0) (nl.getD (order.getD k 0) 0)
theorem ip (nl:List Int)(k:Nat):(kQ nl k).length=19:=by
 induction k with
 | zero=>simp[kQ]
 | succ k ih=>rw[kQ,aaZ,ih]
theorem ES:∀i,i<19->∀j,j<19->order.getD i 0=order.getD j 0->i=j:=by decide +kernel
theorem A8:∀x,x<19->∃i,i<19/\order.getD i 0=x:=by decide +kernel
theorem yX (nl:List Int):∀(k:Nat),k<=19->∀i,i<19->(kQ nl k).getD (order.getD i 0) 0=if i<k then nl.getD (order.getD i 0) 0 else 0
 | 0,_,i,_=>by
  rw[aae (by omega),kQ,aaa,abK];split<;>rfl
 | k+1,hk,i,hi=>by
  have ih:=yX nl k (by omega) i hi;rw[kQ];by_cases e:i=k
  ·subst e;rw[aaf (by omega),aaa,List.getElem?_set_self (by rw[ip];exact oK i)];rfl
  ·have hne:order.getD k 0≠order.getD i 0:=fun h=>e (ES k (by omega) i hi h).symm;rw[aaa,aca hne,<-aaa,ih];by_cases h:i<k
   ·rw[aaf h,aaf (by omega)]
   ·rw[aae h,aae (by omega)]
theorem ET (nl:List Int)(h19:nl.length=19)(k:Nat)(hk:k<=19)(h0:∀i,k<=i->i<19->nl.getD (order.getD i 0) 0=0):kQ nl k=nl:=by
 apply abt (by rw[ip,h19]);intro x h1 h2;rw[ip]at h1;obtain⟨i,hi,rfl⟩:=A8 x h1;have:=yX nl k hk i hi;rw[aaa,aai (by rw[ip];exact h1),acr]at this;rw[this];have e:nl.getD (order.getD i 0) 0=nl[order.getD i 0]:=by rw[aaa,aai h2,acr]
 by_cases h:i<k
 ·rw[aaf h,e]
 ·rw[aae h,<-e,h0 i (by omega) hi]
def cE (nl:List Int)(i:Nat):Nat->List Int
 | 0=>[]
 | f+1=>nb (nl.getD (order.getD i 0) 0).toNat 3++cE nl (i+1) f
theorem dq (nl:List Int):∀(f i:Nat),(cE nl i f).length=3*f
 | 0,_=>rfl
 | f+1,i=>by rw[cE,aac,aF,dq nl f (i+1)];omega
theorem vu {L nl:List Int}(h7:∀j,0<=nl.getD j 0/\nl.getD j 0<=7):∀(f i:Nat) (st:St),st.bad=false->At L st.pos (cE nl i f) -> jX L f i (kQ nl i) st=(kQ nl (i+f),{ st with pos:=st.pos+3*f })
 | 0,i,st,_,_=>rfl
 | f+1,i,st,hb,ha=>by
  have ht:=fg ha.left;have har:=ha.right;rw[aF]at har;have hv:=h7 (order.getD i 0);rw[abp (by omega),show (((nl.getD (order.getD i 0) 0).toNat:Nat):Int)=nl.getD (order.getD i 0) 0 by omega]at ht;rw[jX,aae (by rw[hb];decide),ht];have ih:=vu h7 f (i+1) { st with pos:=st.pos+3 } hb har;simp only[kQ]at ih;simp only;rw[ih,show i+1+f=i+(f+1) by omega,show st.pos+3+3*f=st.pos+3*(f+1) by omega]
def dJ (hs hd c:Nat)(nl:List Int)(ts:List (Nat×Nat)):List Int :=
 nb hs 5++(nb hd 5++(nb (c-4) 4++(cE nl 0 c++aS (a8 nl) ts)))
theorem A9 {T:List UInt8}{limit:Int}{at_ p q:Nat}{hs hd c:Nat}{nl ls far:List Int}{ts S:List (Nat×Nat)}(hlim:(T.length:Int)<=limit)(h1:hs<=29)(h2:hd<=29)(hc4:4<=c)(hc:c<=19)(h19:nl.length=19)(h7:∀j,0<=nl.getD j 0/\nl.getD j 0<=7)(h0:∀i,c<=i->i<19->nl.getD (order.getD i 0) 0=0)(hfull:full nl=true)(hok:gX [] ts)(hts:∀t,t∈ts->1<=nl.getD t.1 0)(kR:tell [] ts=ls++far)(hls:ls.length=hs+257)(WG:far.length=hd+1)(hbad:cY ls far=false)(hfit:Fits T p S q)(hk:r9 ls far (a8 ls) (a8 far) T p S)(hS:S.length<=(dl (a8 ls) (a8 far) T p S).length): jq T limit at_ p q 2 (dJ hs hd c nl ts++dl (a8 ls) (a8 far) T p S):=by
 intro L st hb hf ho _ ha;have hal:=ha.left;have har:=ha.right;unfold dJ at hal;have t1:=fg hal.left;have b1:=hal.right;rw[aF]at b1;have t2:=fg (st:={ st with pos:=st.pos+5 }) b1.left;have b2:=b1.right;rw[aF]at b2;have t3:=fg (st:={ st with pos:=st.pos+5+5 }) b2.left;have b3:=b2.right;rw[aF]at b3;have t4:=vu h7 c 0 { st with pos:=st.pos+5+5+4 } hb b3.left;have b4:=b3.right;rw[dq]at b4;rw[aaF,ET nl h19 c hc h0]at t4
 have hfs:fs nl nl.length<=32768:=by
  have:=of_decide_eq_true hfull;omega
 have t5:=yW (n:=hs+hd+258) (st:={ st with pos:=st.pos+5+5+4+3*c }) hok (fun t ht=>gL nl (fun j=>by have:=(h7 j).2;omega) hfs t.1 (hts t ht)) (by rw[kR,aac];omega) hb b4;rw[abp (by omega)]at t1 t2 t3;simp only at t2 t3 t4 t5;have hl:=har.1
 have e6:(dJ hs hd c nl ts).length=5+5+4+3*c+(aS (a8 nl) ts).length:=by
  simp only[dJ,aac,aF,dq];omega
 rw[e6]at har;have t6:=nS (limit:=limit) (st:={ st with pos:=st.pos+5+5+4+3*c+(aS (a8 nl) ts).length }) hlim (L:=L) (by omega) hfit hk hb hf ho (by simpa only[abI]using har);show block L limit 2 st=_;rw[block,aae (by decide),aae (by decide),aaf rfl,own];simp only;rw[t1];simp only;rw[t2];simp only;rw[t3];simp only;have ez:List.replicate 19 (0:Int)=kQ nl 0:=rfl;rw[ez,show (((c-4:Nat):Int)).toNat+4=c by omega,t4];simp only;rw[aae (by rw[hb,hfull];rintro (q|q|q|q);cases q;omega;omega;cases q)];rw[show ((hs:Int)+(hd:Int)+258).toNat=hs+hd+258 by omega,t5];simp only;rw[aae (by rw[hb];decide),kR,show ((hs:Int)).toNat+257=ls.length by omega,List.take_left,List.drop_left,hbad,aae (by decide),t6];rw[aac,e6];simp only[abI]
end Go.Proofs.YtmfijackgekioaaGreatDoor.Rf
