import Derived.Test.YtmfijackgekioaaGreatDoorQ03
import Derived.Test.YtmfijackgekioaaGreatDoorQ10
namespace Go.Proofs.YtmfijackgekioaaGreatDoor.Rf
theorem tj (d:Nat)(h1:1<=d)(h2:d<=32768):ic d<=29/\cY (ic d)<=d/\d-cY (ic d)<2^db (ic d):=by
 by_cases h4:d<=4
 ·have:∀d:Fin 5,1<=d.val->ic d.val<=29/\cY (ic d.val)<=d.val/\d.val-cY (ic d.val)<2^db (ic d.val):=by decide +kernel
  exact this ⟨d,by omega⟩ h1
 ·obtain⟨a,rfl⟩:∃a,d=a+1:=⟨d-1,by omega⟩
  have l1:=Nat.log2_self_le (n:=a) (by omega);have l2:=Nat.lt_log2_self (n:=a);have hb:mf a=a.log2+1:=by rw[mf,if_neg (by omega)]
  generalize a.log2=k at *
  have hk2:2<=k:=by
   rcases Nat.lt_or_ge k 2 with h|h
   ·have:2^(k+1)<=2^2:=Nat.pow_le_pow_right (by omega) (by omega);omega
   ·exact h
  have aff:k<=14:=by
   rcases Nat.lt_or_ge 14 k with h|h
   ·have:2^15<=2^k:=Nat.pow_le_pow_right (by omega) (by omega);omega
   ·exact h
  obtain⟨e,rfl⟩:∃e,k=e+1:=⟨k-1,by omega⟩
  have p1:2^(e+1)=2*2^e:=by rw[Nat.pow_succ];omega
  have p2:2^(e+1+1)=4*2^e:=by rw[Nat.pow_succ,p1];omega
  rw[p1]at l1;rw[p2]at l2;have hP:0<2^e:=Nat.pow_pos (by omega)
  have hx:ic (a+1)=2*e+a/2^e:=by
   rw[ic,Nat.add_sub_cancel,hb,show e+1+1-2=e by omega]
  have q1:2<=a/2^e:=(Nat.le_div_iff_mul_le hP).2 l1;have q2:a/2^e<4:=(Nat.div_lt_iff_lt_mul hP).2 l2;have hm:=Nat.div_add_mod a (2^e);have hr:=Nat.mod_lt a hP;rw[hx];generalize a/2^e=q at *;have hq:q=2\/q=3:=by omega
  have e1:db (2*e+q)=e:=by rw[db,if_pos (by omega)];omega
  have e2:cY (2*e+q)=q*2^e+1:=by
   rw[cY,if_pos (by omega),show (2*e+q)/2-1=e by omega,show 2+(2*e+q)%2=q by omega]
  rw[e1,e2,Nat.mul_comm q];omega
theorem nU {L:List Int}{limit:Int}{ls far:List Int}{sb fb:Nat->List Int}{T:List UInt8}(hlim:(T.length:Int)<=limit){S:List (Nat×Nat)}{p q:Nat}{st:St}(hS:S.length<L.length+2)(hfit:Fits T p S q)(hk:ti ls far sb fb T p S)(hb:st.bad=false)(hf:st.full=false)(ho:st.out=T.take p)(ha:At L st.pos (dB sb fb T p S)): symbols L limit ls far st={ st with pos:=st.pos+(dB sb fb T p S).length,out:=T.take q } :=
 mI hlim tj S p q _ st hS hfit hk hb hf ho ha
theorem FO {L:List Int}{limit:Int}{f l k:Nat}{st:St}(hl:l<2)(hk:k<4)(hb:st.bad=false)(hf:st.full=false)(ha:At L st.pos (nb l 1++nb k 2)): oq L limit (f+1) 0 st=oq L limit f (l:Int) (block L limit (k:Int) { st with pos:=st.pos+3,kinds:=st.kinds++[(k:Int)] }):=by
 have h1:=fA ha.left;have hr:=ha.right;rw[aC]at hr;have h2:=fA (st:={ st with pos:=st.pos+1 }) hr;rw[Nat.mod_eq_of_lt (by omega)]at h1 h2;rw[oq,if_neg (by rw[hb,hf];rintro (q|q);exact q rfl;cases q)];simp only;rw[h1];simp only;rw[h2];simp only;rw[if_neg (by rw[hb];decide)]
theorem Ju (ls:List Int)(n b i:Nat):b<=pj ls n b i:=yY ls n b 0 i (Nat.zero_le _)
theorem zD (ls:List Int)(m:Nat):∀k,2^k*jS ls m<=jS ls (m+k)
 | 0=>by simp
 | k+1=>by
  have h1:=zD ls m k;have h2:2*jS ls (m+k)<=jS ls (m+k+1):=Ju ls (m+k+1) _ ls.length;rw[Nat.pow_succ,Nat.mul_comm (2^k),Nat.mul_assoc];exact Nat.le_trans (Nat.mul_le_mul_left 2 h1) h2
theorem FQ (ls:List Int)(m n i j:Nat)(hm:m<n)(hi:i<ls.length)(h1:ls.getD i 0=((m+1:Nat):Int)): nx ls m i<nx ls n j/2^(n-m):=by
 have a1:nx ls m i<jS ls (m+1):=xm ls (m+1) _ i ls.length hi h1;have a2:=zD ls (m+1) (n-(m+1));rw[show m+1+(n-(m+1))=n by omega]at a2;have a3:2*jS ls n<=nx ls n j:=Ju ls (n+1) _ j;have hP:0<2^(n-m):=Nat.pow_pos (by omega);refine Nat.lt_of_lt_of_le a1 ((Nat.le_div_iff_mul_le hP).2 ?_)
 have e:2^(n-m)=2*2^(n-(m+1)):=by
  rw[show n-m=n-(m+1)+1 by omega,Nat.pow_succ];omega
 rw[e,Nat.mul_comm,Nat.mul_assoc];exact Nat.le_trans (Nat.mul_le_mul_left 2 a2) a3
theorem U0 (ls:List Int)(hw:∀j,ls.getD j 0<=15)(hf:fs ls ls.length<=32768)(n j:Nat)(hn:n<15)(hj:j<ls.length)(h1:ls.getD j 0=((n+1:Nat):Int)): nx ls n j<2^(n+1):=by
 have a1:nx ls n j<nx ls n ls.length:=xm ls (n+1) _ j ls.length hj h1;have a2:=OU ls hw hf n ls.length hn (Nat.le_refl _);have e:(32768:Nat)=2^(n+1)*2^(14-n):=by rw[<-Nat.pow_add,show n+1+(14-n)=15 by omega]
 rw[e]at a2;have:=Nat.le_of_mul_le_mul_right a2 (Nat.pow_pos (by omega));omega
theorem Cc (ls:List Int)(hw:∀j,ls.getD j 0<=15)(hf:fs ls ls.length<=32768)(n j:Nat)(hn:n<15)(hj:j<ls.length)(h1:ls.getD j 0=((n+1:Nat):Int)): Reads ls j (cb (nx ls n j) (n+1)):=by
 intro L st hb ha;have h0:nx ls n j/2^(n+1)=0:=Nat.div_eq_of_lt (U0 ls hw hf n j hn hj h1);have hfind:=xo hn hj h1;rw[mC ls n j hn hj h1]at hfind
 have:=D9 (L:=L) (ls:=ls) (code:=codes ls) (c:=nx ls n j) (i:=j) n 15 0 st hb hn ha (fun m hm=>by
  cases h:find ls (codes ls) (((0:Nat):Int)+1+m) ((nx ls n j/2^(n-m):Nat):Int) with
  | none=>rfl
  | some i =>
   obtain⟨b1,b2,b3⟩:=fQ h;have b2':ls.getD i 0=((m+1:Nat):Int):=by rw[b2];omega
   rw[mC ls m i (by omega) b1 b2']at b3;have:=FQ ls m n i j hm b1 b2'
   omega) (by rw[<-hfind];congr 1;omega)
 rw[h0]at this;rw[symbol,fR];exact this
def vK (T:List UInt8)(limit:Int)(W:List Int)(p n:Nat)(ks:List Int):Prop :=
 n<=W.length/\∀L,At L 0 W->inflate L limit=oq L limit (L.length+2-n) 0 ⟨W.length,false,false,T.take p,ks⟩
def Whole (T:List UInt8)(limit:Int)(W:List Int)(ks:List Int):Prop :=
 ∀L,At L 0 W->inflate L limit=⟨W.length,false,false,T,ks⟩
def jI (T:List UInt8)(limit:Int)(at_ p q k:Nat)(B:List Int):Prop :=
 ∀(L:List Int) (st:St),st.bad=false->st.full=false->st.out=T.take p->st.pos=at_->At L st.pos B->block L limit (k:Int) st={ st with pos:=st.pos+B.length,out:=T.take q }
theorem Cd (T:List UInt8)(limit:Int):vK T limit [] 0 0 []:=⟨Nat.le_refl _,fun _ _=>rfl⟩
theorem tk {T:List UInt8}{limit:Int}{W B ks:List Int}{p q n k l:Nat}(h:vK T limit W p n ks)(hl:l<2)(hk:k<4)(hB:jI T limit (W.length+3) p q k B)(L:List Int)(ha:At L 0 (W++((nb l 1++nb k 2)++B))): inflate L limit=oq L limit (L.length+2-(n+1)) (l:Int) ⟨(W++((nb l 1++nb k 2)++B)).length,false,false,T.take q,ks++[(k:Int)]⟩:=by
 obtain⟨hn,h⟩:=h;have ha1:=ha.left;have ha2:=ha.right;have hlen:=ha1.1;rw[Nat.zero_add]at ha2 hlen;have ha3:=ha2.right;rw[List.length_append,aC,aC]at ha3;rw[h L ha1,show L.length+2-n=(L.length+2-(n+1))+1 by omega];rw[FO (st:=⟨W.length,false,false,T.take p,ks⟩) hl hk rfl rfl ha2.left];rw[hB L { pos:=W.length+3,bad:=false,full:=false,out:=T.take p,kinds:=ks++[(k:Int)] } rfl rfl rfl rfl ha3];simp only[List.length_append,aC]
 congr 2
 omega
theorem zE {T:List UInt8}{limit:Int}{W B ks:List Int}{p q n k:Nat}(h:vK T limit W p n ks)(hk:k<4)(hB:jI T limit (W.length+3) p q k B): vK T limit (W++((nb 0 1++nb k 2)++B)) q (n+1) (ks++[(k:Int)]):=by
 refine⟨?_,fun L ha=>tk (l:=0) h (by decide) hk hB L ha⟩;have:=h.1;simp only[List.length_append,aC];omega
theorem zF {T:List UInt8}{limit:Int}{W B ks:List Int}{p n k:Nat}(h:vK T limit W p n ks)(hk:k<4)(hB:jI T limit (W.length+3) p T.length k B): Whole T limit (W++((nb 1 1++nb k 2)++B)) (ks++[(k:Int)]):=by
 intro L ha;rw[tk (l:=1) h (by decide) hk hB L ha,List.take_length];cases L.length+2-(n+1) with
 | zero=>rfl
 | succ f=>rw[oq,if_pos (.inl (by decide))]
theorem xA {T:List UInt8}{limit:Int}{at_ p q:Nat}(pad:List Int)(hp:at_+pad.length=(at_+7)/8*8)(hpq:p<=q)(hq:q<=T.length)(h6:q-p<=65535)(hlim:(T.length:Int)<=limit): jI T limit at_ p q 0 (pad++(nb (q-p) 16++(nb (65535-(q-p)) 16++bb ((T.take q).drop p)))):=by
 intro L st hb _ ho hpos ha;have hl:((T.take q).drop p).length=q-p:=by rw[List.length_drop,List.length_take];omega
 have e:(T.take p).length=p:=by rw[List.length_take];omega
 have har:=ha.right;rw[hpos,hp]at har;have:=Js (L:=L) (limit:=limit) (st:=st) (t:=(T.take q).drop p) hb (by omega) (by rw[ho,e];omega) (by rw[hl,hpos];exact har);show block L limit 0 st=_;rw[block,if_pos rfl,this,ho,hl];simp only[List.length_append,aC,nG,hl];rw[hpos,show (at_+7)/8*8+32+8*(q-p)=at_+(pad.length+(16+(16+8*(q-p)))) by omega]
 congr 1
 have e2:T.take p=(T.take q).take p:=by rw[List.take_take,Nat.min_eq_left hpq]
 rw[e2,List.take_append_drop]
theorem xB {T:List UInt8}{limit:Int}{at_ p q:Nat}{sb fb:Nat->List Int}{S:List (Nat×Nat)}(hlim:(T.length:Int)<=limit)(hfit:Fits T p S q)(hk:ti bH fV sb fb T p S)(hS:S.length<=(dB sb fb T p S).length):jI T limit at_ p q 1 (dB sb fb T p S):=by
 intro L st hb hf ho _ ha;have hl:=ha.1;show block L limit 1 st=_;rw[block,if_neg (by decide),if_pos rfl];exact nU hlim (by omega) hfit hk hb hf ho ha
def jw (P:List UInt8)(j:Nat):Nat:=(P.getD (j/8) 0).toNat/2^(j%8)%2
def Holds (P:List UInt8)(W:List Int):Prop:=P.length=(W.length+7)/8/\∀j,((jw P j:Nat):Int)=W.getD j 0
theorem mG (n k:Nat):n/2^k%2=(n.testBit k).toNat:=by
 rw[Nat.testBit_eq_decide_div_mod_eq];rcases Nat.mod_two_eq_zero_or_one (n/2^k) with h|h<;>rw[h]<;>rfl
theorem qr (P:List UInt8)(i:Nat):(P++[0]).getD i 0=P.getD i 0:=by
 simp only[List.getD_eq_getElem?_getD];rcases Nat.lt_trichotomy i P.length with h|h|h
 ·rw[List.getElem?_append_left h]
 ·subst h;simp
 ·rw[List.getElem?_eq_none (by simp;omega),List.getElem?_eq_none (by omega)]
theorem FT {P:List UInt8}{W:List Int}{b:Nat}(hP:P.length=W.length/8+1)(hj:∀j,((jw P j:Nat):Int)=W.getD j 0)(hb:b<2): Holds (P.set (W.length/8) (P.getD (W.length/8) 0|||UInt8.ofNat (b*2^(W.length%8)))) (W++[(b:Int)]):=by
 refine⟨by rw[List.length_set,hP,List.length_append];simp only[List.length_cons,List.length_nil];omega,fun j=>?_⟩
 have h0:jw P W.length=0:=by
  have:=hj W.length;rw[List.getD_eq_getElem?_getD,List.getElem?_eq_none (Nat.le_refl _)]at this;simpa using this
 have hr:W.length%8<8:=Nat.mod_lt _ (by omega)
 have hsm:b*2^(W.length%8)<256:=by
  have:2^(W.length%8)<=2^7:=Nat.pow_le_pow_right (by omega) (by omega);have h1:b*2^(W.length%8)<=1*2^(W.length%8):=Nat.mul_le_mul_right _ (by omega);omega
 by_cases hd:j/8=W.length/8
 ·have eb:jw (P.set (W.length/8) (P.getD (W.length/8) 0|||UInt8.ofNat (b*2^(W.length%8)))) j=((P.getD (W.length/8) 0).toNat|||(b*2^(W.length%8)))/2^(j%8)%2:=by
   unfold jw;rw[hd]
   congr 2
   simp only[List.getD_eq_getElem?_getD];rw[List.getElem?_set_self (by omega)];simp only[Option.getD_some,UInt8.toNat_or,UInt8.toNat_ofNat'];rw[Nat.mod_eq_of_lt hsm]
  rw[eb,mG,Nat.testBit_or];have ho:((P.getD (W.length/8) 0).toNat.testBit (j%8)).toNat=jw P j:=by rw[<-mG,jw,hd]
  by_cases he:j=W.length
  ·subst he
   have h1:((P.getD (W.length/8) 0).toNat.testBit (W.length%8))=false:=by
    have:=ho.trans h0;cases h:((P.getD (W.length/8) 0).toNat.testBit (W.length%8)) with
    | false=>rfl
    | true=>rw[h]at this;cases this
   rw[h1,Bool.false_or,<-mG,Nat.mul_div_cancel _ (Nat.pow_pos (by omega)),Nat.mod_eq_of_lt hb];simp
  ·have hne:j%8≠W.length%8:=by omega
   have h2:(b*2^(W.length%8)).testBit (j%8)=false:=by
    have:b=0\/b=1:=by omega
    rcases this with rfl|rfl
    ·simp
    ·rw[Nat.one_mul,Nat.testBit_two_pow];simp;omega
   rw[h2,Bool.or_false,ho,hj j];simp only[List.getD_eq_getElem?_getD];rcases Nat.lt_or_ge j W.length with h|h
   ·rw[List.getElem?_append_left h]
   ·rw[List.getElem?_eq_none h,List.getElem?_eq_none (by simp;omega)]
 ·have eb:jw (P.set (W.length/8) (P.getD (W.length/8) 0|||UInt8.ofNat (b*2^(W.length%8)))) j=jw P j:=by
   unfold jw
   congr 3
   simp only[List.getD_eq_getElem?_getD];rw[List.getElem?_set_ne (Ne.symm hd)]
  rw[eb,hj j];have he:j≠W.length:=fun h=>hd (by rw[h]);simp only[List.getD_eq_getElem?_getD];rcases Nat.lt_or_ge j W.length with h|h
  ·rw[List.getElem?_append_left h]
  ·rw[List.getElem?_eq_none h,List.getElem?_eq_none (by simp;omega)]
theorem vL {P:List UInt8}{W:List Int}{b:Nat}(h:Holds P W)(hb:b<2)(P1:List UInt8)(h1:P1=if W.length%8=0 then P++[0] else P): Holds (P1.set (W.length/8) (P1.getD (W.length/8) 0|||UInt8.ofNat (b*2^(W.length%8)))) (W++[(b:Int)]):=by
 obtain⟨hl,hj⟩:=h;refine FT ?_ ?_ hb
 ·rw[h1];split
  ·rw[List.length_append,hl];simp only[List.length_cons,List.length_nil];omega
  ·rw[hl];omega
 ·intro j;rw[<-hj j,h1];split
  ·unfold jw;rw[qr]
  ·rfl
theorem QY {P:List UInt8}{W:List Int}(h:Holds P W):At (Mx.low P) 0 W:=by
 refine⟨by rw[Mx.om,h.1];omega,fun j _=>?_⟩;rw[Nat.zero_add,ot,<-h.2 j];rfl
theorem Ce {P:List UInt8}{W:List Int}(h:Holds P W):(W.length+7)/8=P.length:=h.1.symm
theorem Cf {P:List UInt8}{W:List Int}(h:Holds P W):Holds P (W++List.replicate (8*P.length-W.length) 0):=by
 obtain⟨hl,hj⟩:=h;refine⟨by rw[List.length_append,List.length_replicate];omega,fun j=>?_⟩;rw[hj j];simp only[List.getD_eq_getElem?_getD];rcases Nat.lt_or_ge j W.length with h|h
 ·rw[List.getElem?_append_left h]
 ·rw[List.getElem?_eq_none h,List.getElem?_append_right h,List.getElem?_replicate];split<;>rfl
theorem zG {P:List UInt8}{W:List Int}(h:Holds P W)(h8:W.length=8*P.length)(t:List UInt8):Holds (P++t) (W++bb t):=by
 obtain⟨_,hj⟩:=h;refine⟨by rw[List.length_append,List.length_append,nG];omega,fun j=>?_⟩
 have e:∀t:List UInt8,bb t=Mx.low t:=fun t=>by
  induction t with
  | nil=>rfl
  | cons c r ih =>
   rw[bb,Mx.low,ih];rfl
 rw[e t];simp only[List.getD_eq_getElem?_getD];rcases Nat.lt_or_ge j W.length with h|h
 ·rw[List.getElem?_append_left h];have:=hj j;simp only[List.getD_eq_getElem?_getD]at this;rw[<-this];unfold jw;simp only[List.getD_eq_getElem?_getD];rw[List.getElem?_append_left (by omega)]
 ·rw[List.getElem?_append_right h];have:=ot t (j-W.length);simp only[List.getD_eq_getElem?_getD]at this;rw[this];unfold jw;simp only[List.getD_eq_getElem?_getD];rw[List.getElem?_append_right (by omega),show j/8-P.length=(j-W.length)/8 by omega,show j%8=(j-W.length)%8 by omega]
def bd (ls:List Int)(j:Nat):List Int:=cb (nx ls ((ls.getD j 0).toNat-1) j) (ls.getD j 0).toNat
theorem cu (ls:List Int)(j:Nat):(bd ls j).length=(ls.getD j 0).toNat:=fR _ _
theorem ie (ls:List Int)(hw:∀j,ls.getD j 0<=15)(hf:fs ls ls.length<=32768)(j:Nat)(h1:1<=ls.getD j 0):Reads ls j (bd ls j):=by
 have hj:j<ls.length:=by
  rcases Nat.lt_or_ge j ls.length with h|h
  ·exact h
  ·rw[List.getD_eq_getElem?_getD,List.getElem?_eq_none h]at h1;exact absurd h1 (by decide)
 have OT:=hw j;obtain⟨n,hn⟩:∃n:Nat,ls.getD j 0=((n+1:Nat):Int):=⟨(ls.getD j 0).toNat-1,by omega⟩
 have:=Cc ls hw hf n j (by omega) hj hn;rw[bd,hn];exact this
def tm (T:List UInt8):Nat->List (Nat×Nat)->Nat->Prop
 | _,[],i=>i=256
 | p,s::r,i=>(if s.2=0 then i=(T.getD p 0).toNat else i=257+fX s.1)\/tm T (p+s.1) r i
def qs:List (Nat×Nat)->Nat->Prop
 | [],_=>False
 | s::r,j=>(s.2≠0/\j=ic s.2)\/qs r j
theorem tq {ls far:List Int}(hw:∀j,ls.getD j 0<=15)(hf:fs ls ls.length<=32768)(hw':∀j,far.getD j 0<=15)(hf':fs far far.length<=32768){T:List UInt8}: ∀(S:List (Nat×Nat)) (p:Nat),(∀i,tm T p S i->1<=ls.getD i 0)->(∀j,qs S j->1<=far.getD j 0)->ti ls far (bd ls) (bd far) T p S
 | [],_,h1,_=>ie ls hw hf 256 (h1 256 rfl)
 | s::r,p,h1,h2=>by
  refine⟨?_,tq hw hf hw' hf' r (p+s.1) (fun i hi=>h1 i (.inr hi)) (fun j hj=>h2 j (.inr hj))⟩;by_cases h0:s.2=0
  ·rw[if_pos h0];exact ie ls hw hf _ (h1 _ (.inl (by rw[if_pos h0])))
  ·rw[if_neg h0];exact⟨ie ls hw hf _ (h1 _ (.inl (by rw[if_neg h0]))),ie far hw' hf' _ (h2 _ (.inl ⟨h0,rfl⟩))⟩
theorem zH {T:List UInt8}:∀(S:List (Nat×Nat)) (p q i:Nat),Fits T p S q->tm T p S i->i<=285
 | [],_,_,i,_,h=>by have:i=256:=h;omega
 | s::r,p,q,i,⟨hs,hfit⟩,h=>by
  rcases h with h|h
  ·rcases hs with⟨h0,_,_⟩|⟨g1,g2,g3,_⟩
   ·rw[if_pos h0]at h;have:=UInt8.toNat_lt (T.getD p 0);omega
   ·rw[if_neg (by omega)]at h;have:=(s8 s.1 g1 g2).1;omega
  ·exact zH r _ q i hfit h
theorem vM {T:List UInt8}:∀(S:List (Nat×Nat)) (p q j:Nat),Fits T p S q->qs S j->j<=29
 | s::r,p,q,j,⟨hs,hfit⟩,h=>by
  rcases h with⟨h0,h⟩|h
  ·rcases hs with⟨h0',_,_⟩|⟨_,_,g3,g4,_⟩
   ·exact absurd h0' h0
   ·rw[h];exact (tj s.2 g3 g4).1
  ·exact vM r _ q j hfit h
theorem zI {T:List UInt8}{S:List (Nat×Nat)}{p q:Nat}(h:Fits T p S q):ti bH fV (bd bH) (bd fV) T p S:=by
 have a1:∀j,j<288->1<=bH.getD j 0/\bH.getD j 0<=15:=by decide +kernel
 have a2:∀j,j<32->1<=fV.getD j 0/\fV.getD j 0<=15:=by decide +kernel
 have l1:bH.length=288:=by decide +kernel
 have l2:fV.length=32:=by decide +kernel
 have k1:fs bH bH.length<=32768:=by decide +kernel
 have k2:fs fV fV.length<=32768:=by decide +kernel
 have w:∀(l:List Int) (n:Nat),l.length=n->(∀j,j<n->l.getD j 0<=15)->∀j,l.getD j 0<=15:=fun l n hn hl j=>by
  rcases Nat.lt_or_ge j n with h|h
  ·exact hl j h
  ·rw[List.getD_eq_getElem?_getD,List.getElem?_eq_none (by omega)];decide
 exact tq (w _ _ l1 fun j hj=>(a1 j hj).2) k1 (w _ _ l2 fun j hj=>(a2 j hj).2) k2 S p (fun i hi=>(a1 i (by have:=zH S p q i h hi;omega)).1) (fun j hj=>(a2 j (by have:=vM S p q j h hj;omega)).1)
def mr (t:Nat×Nat):Nat:=if t.1=16 then 2 else if t.1=17 then 3 else if t.1=18 then 7 else 0
def i9 (out:List Int)(t:Nat×Nat):List Int :=
 if t.1<16 then [(t.1:Int)] else if t.1=16 then List.replicate (3+t.2) (out.getD (out.length-1) 0) else if t.1=17 then List.replicate (3+t.2) 0 else List.replicate (11+t.2) 0
def tell:List Int->List (Nat×Nat)->List Int
 | out,[]=>out
 | out,t::r=>tell (out++i9 out t) r
def iB:List Int->List (Nat×Nat)->Prop
 | _,[]=>True
 | out,t::r=>t.1<=18/\t.2<2^mr t/\(t.1=16->out≠[])/\iB (out++i9 out t) r
def aS (tb:Nat->List Int):List (Nat×Nat)->List Int
 | []=>[]
 | t::r=>(tb t.1++nb t.2 (mr t))++aS tb r
theorem Jv (out:List Int)(t:Nat×Nat):1<=(i9 out t).length:=by
 unfold i9;split
 ·simp
 ·split
  ·simp;omega
  ·split<;>simp<;>omega
theorem jx:∀(ts:List (Nat×Nat)) (out:List Int),out.length+ts.length<=(tell out ts).length
 | [],out=>by simp[tell]
 | t::r,out=>by
  have h:=jx r (out++i9 out t);have h1:=Jv out t;rw[List.length_append]at h;rw[tell,List.length_cons];omega
theorem zJ {L ls:List Int}{tb:Nat->List Int}{n:Nat}:∀(ts:List (Nat×Nat)) (out:List Int) (f:Nat) (st:St),iB out ts->(∀t,t∈ts->Reads ls t.1 (tb t.1))->(tell out ts).length=n->ts.length<f->st.bad=false -> At L st.pos (aS tb ts)->mc L ls (codes ls) n f out st=(tell out ts,{ st with pos:=st.pos+(aS tb ts).length })
 | [],out,f+1,st,_,_,hn,_,_,_=>by
  rw[mc,if_pos (.inl (by rw[<-hn];exact Nat.le_refl _))];rfl
 | t::r,out,f+1,st,⟨h18,hx,h16,hok⟩,hr,hn,hf,hb,ha=>by
  have hlen:=jx (t::r) out;rw[hn,List.length_cons]at hlen;rw[List.length_cons]at hf;have hal:=ha.left;have har:=ha.right;have hsy:=hr t List.mem_cons_self L st hb hal.left;have ht:=fA (st:={ st with pos:=st.pos+(tb t.1).length }) hal.right;rw[Nat.mod_eq_of_lt hx]at ht;rw[List.length_append,aC]at har;have ih:=zJ (L:=L) (ls:=ls) (tb:=tb) (n:=n) r (out++i9 out t) f { st with pos:=st.pos+(tb t.1).length+mr t } hok (fun t' h=>hr t' (List.mem_cons_of_mem _ h)) hn (by omega) hb (by simpa only[Nat.add_assoc]using har);rw[tell,aS,List.length_append,List.length_append,aC,mc,if_neg (by rw[hb];rintro (q|q);omega;cases q)];simp only;rw[hsy];simp only;rw[if_neg (by rw[hb];decide)];have hfin:({ st with pos:=st.pos+(tb t.1).length+mr t+(aS tb r).length }:St)={ st with pos:=st.pos+((tb t.1).length+mr t+(aS tb r).length) }:=by simp only[Nat.add_assoc]
  rw[<-hfin];refine Eq.trans ?_ ih;by_cases c1:t.1<16
  ·have e0:mr t=0:=by rw[mr,if_neg (by omega),if_neg (by omega),if_neg (by omega)]
   have e1:i9 out t=[(t.1:Int)]:=by rw[i9,if_pos c1]
   rw[if_pos (by omega),e0,e1];rfl
  ·rw[if_neg (by omega)];by_cases c2:t.1=16
   ·have e0:mr t=2:=by rw[mr,if_pos c2]
    have e1:i9 out t=List.replicate (3+t.2) (out.getD (out.length-1) 0):=by rw[i9,if_neg c1,if_pos c2]
    rw[e0]at ht ⊢;rw[if_pos (by omega),if_neg (h16 c2),ht,e1];simp
   ·rw[if_neg (by omega)];by_cases c3:t.1=17
    ·have e0:mr t=3:=by rw[mr,if_neg c2,if_pos c3]
     have e1:i9 out t=List.replicate (3+t.2) 0:=by rw[i9,if_neg c1,if_neg c2,if_pos c3]
     rw[e0]at ht ⊢;rw[if_pos (by omega),ht,e1];simp
    ·have e0:mr t=7:=by rw[mr,if_neg c2,if_neg c3,if_pos (by omega)]
     have e1:i9 out t=List.replicate (11+t.2) 0:=by rw[i9,if_neg c1,if_neg c2,if_neg c3]
     rw[e0]at ht ⊢;rw[if_neg (by omega),ht,e1];simp
theorem zK {L ls:List Int}{tb:Nat->List Int}{n:Nat}{ts:List (Nat×Nat)}{st:St}(hok:iB [] ts)(hr:∀t,t∈ts->Reads ls t.1 (tb t.1))(hn:(tell [] ts).length=n)(hb:st.bad=false)(ha:At L st.pos (aS tb ts)):listed L ls n st=(tell [] ts,{ st with pos:=st.pos+(aS tb ts).length }):=by
 have hl:=jx ts [];rw[hn]at hl;unfold listed;rw[zJ ts [] (n+1) st hok hr hn (by simp at hl;omega) hb ha];simp only;rw[if_pos hn]
def lZ (nl:List Int):Nat->List Int
 | 0=>List.replicate 19 0
 | k+1=>(lZ nl k).set (order.getD k 0) (nl.getD (order.getD k 0) 0)
theorem iK (nl:List Int)(k:Nat):(lZ nl k).length=19:=by
 induction k with
 | zero=>simp[lZ]
 | succ k ih=>rw[lZ,List.length_set,ih]
theorem FU:∀i,i<19->∀j,j<19->order.getD i 0=order.getD j 0->i=j:=by decide +kernel
theorem Cg:∀x,x<19->∃i,i<19/\order.getD i 0=x:=by decide +kernel
theorem zL (nl:List Int):∀(k:Nat),k<=19->∀i,i<19->(lZ nl k).getD (order.getD i 0) 0=if i<k then nl.getD (order.getD i 0) 0 else 0
 | 0,_,i,_=>by
  rw[if_neg (by omega),lZ,List.getD_eq_getElem?_getD,List.getElem?_replicate];split<;>rfl
 | k+1,hk,i,hi=>by
  have ih:=zL nl k (by omega) i hi;rw[lZ];by_cases e:i=k
  ·subst e;rw[if_pos (by omega),List.getD_eq_getElem?_getD,List.getElem?_set_self (by rw[iK];exact o8 i)];rfl
  ·have hne:order.getD k 0≠order.getD i 0:=fun h=>e (FU k (by omega) i hi h).symm;rw[List.getD_eq_getElem?_getD,List.getElem?_set_ne hne,<-List.getD_eq_getElem?_getD,ih];by_cases h:i<k
   ·rw[if_pos h,if_pos (by omega)]
   ·rw[if_neg h,if_neg (by omega)]
theorem FV (nl:List Int)(h19:nl.length=19)(k:Nat)(hk:k<=19)(h0:∀i,k<=i->i<19->nl.getD (order.getD i 0) 0=0):lZ nl k=nl:=by
 apply List.ext_getElem (by rw[iK,h19]);intro x h1 h2;rw[iK]at h1;obtain⟨i,hi,rfl⟩:=Cg x h1;have:=zL nl k hk i hi;rw[List.getD_eq_getElem?_getD,List.getElem?_eq_getElem (by rw[iK];exact h1),Option.getD_some]at this;rw[this];have e:nl.getD (order.getD i 0) 0=nl[order.getD i 0]:=by rw[List.getD_eq_getElem?_getD,List.getElem?_eq_getElem h2,Option.getD_some]
 by_cases h:i<k
 ·rw[if_pos h,e]
 ·rw[if_neg h,<-e,h0 i (by omega) hi]
def cL (nl:List Int)(i:Nat):Nat->List Int
 | 0=>[]
 | f+1=>nb (nl.getD (order.getD i 0) 0).toNat 3++cL nl (i+1) f
theorem dJ (nl:List Int):∀(f i:Nat),(cL nl i f).length=3*f
 | 0,_=>rfl
 | f+1,i=>by rw[cL,List.length_append,aC,dJ nl f (i+1)];omega
theorem vN {L nl:List Int}(h7:∀j,0<=nl.getD j 0/\nl.getD j 0<=7):∀(f i:Nat) (st:St),st.bad=false->At L st.pos (cL nl i f) -> ia L f i (lZ nl i) st=(lZ nl (i+f),{ st with pos:=st.pos+3*f })
 | 0,i,st,_,_=>rfl
 | f+1,i,st,hb,ha=>by
  have ht:=fA ha.left;have har:=ha.right;rw[aC]at har;have hv:=h7 (order.getD i 0);rw[Nat.mod_eq_of_lt (by omega),show (((nl.getD (order.getD i 0) 0).toNat:Nat):Int)=nl.getD (order.getD i 0) 0 by omega]at ht;rw[ia,if_neg (by rw[hb];decide),ht];have ih:=vN h7 f (i+1) { st with pos:=st.pos+3 } hb har;simp only[lZ]at ih;simp only;rw[ih,show i+1+f=i+(f+1) by omega,show st.pos+3+3*f=st.pos+3*(f+1) by omega]
def dX (hs hd c:Nat)(nl:List Int)(ts:List (Nat×Nat)):List Int :=
 nb hs 5++(nb hd 5++(nb (c-4) 4++(cL nl 0 c++aS (bd nl) ts)))
theorem Ci {T:List UInt8}{limit:Int}{at_ p q:Nat}{hs hd c:Nat}{nl ls far:List Int}{ts S:List (Nat×Nat)}(hlim:(T.length:Int)<=limit)(h1:hs<=29)(h2:hd<=29)(hc4:4<=c)(hc:c<=19)(h19:nl.length=19)(h7:∀j,0<=nl.getD j 0/\nl.getD j 0<=7)(h0:∀i,c<=i->i<19->nl.getD (order.getD i 0) 0=0)(hfull:full nl=true)(hok:iB [] ts)(hts:∀t,t∈ts->1<=nl.getD t.1 0)(l5:tell [] ts=ls++far)(hls:ls.length=hs+257)(MU:far.length=hd+1)(hbad:iX ls far=false)(hfit:Fits T p S q)(hk:ti ls far (bd ls) (bd far) T p S)(hS:S.length<=(dB (bd ls) (bd far) T p S).length): jI T limit at_ p q 2 (dX hs hd c nl ts++dB (bd ls) (bd far) T p S):=by
 intro L st hb hf ho _ ha;have hal:=ha.left;have har:=ha.right;unfold dX at hal;have t1:=fA hal.left;have b1:=hal.right;rw[aC]at b1;have t2:=fA (st:={ st with pos:=st.pos+5 }) b1.left;have b2:=b1.right;rw[aC]at b2;have t3:=fA (st:={ st with pos:=st.pos+5+5 }) b2.left;have b3:=b2.right;rw[aC]at b3;have t4:=vN h7 c 0 { st with pos:=st.pos+5+5+4 } hb b3.left;have b4:=b3.right;rw[dJ]at b4;rw[Nat.zero_add,FV nl h19 c hc h0]at t4
 have hfs:fs nl nl.length<=32768:=by
  have:=of_decide_eq_true hfull;omega
 have t5:=zK (n:=hs+hd+258) (st:={ st with pos:=st.pos+5+5+4+3*c }) hok (fun t ht=>ie nl (fun j=>by have:=(h7 j).2;omega) hfs t.1 (hts t ht)) (by rw[l5,List.length_append];omega) hb b4;rw[Nat.mod_eq_of_lt (by omega)]at t1 t2 t3;simp only at t2 t3 t4 t5;have hl:=har.1
 have e6:(dX hs hd c nl ts).length=5+5+4+3*c+(aS (bd nl) ts).length:=by
  simp only[dX,List.length_append,aC,dJ];omega
 rw[e6]at har;have t6:=nU (limit:=limit) (st:={ st with pos:=st.pos+5+5+4+3*c+(aS (bd nl) ts).length }) hlim (L:=L) (by omega) hfit hk hb hf ho (by simpa only[Nat.add_assoc]using har);show block L limit 2 st=_;rw[block,if_neg (by decide),if_neg (by decide),if_pos rfl,own];simp only;rw[t1];simp only;rw[t2];simp only;rw[t3];simp only;have ez:List.replicate 19 (0:Int)=lZ nl 0:=rfl;rw[ez,show (((c-4:Nat):Int)).toNat+4=c by omega,t4];simp only;rw[if_neg (by rw[hb,hfull];rintro (q|q|q|q);cases q;omega;omega;cases q)];rw[show ((hs:Int)+(hd:Int)+258).toNat=hs+hd+258 by omega,t5];simp only;rw[if_neg (by rw[hb];decide),l5,show ((hs:Int)).toNat+257=ls.length by omega,List.take_left,List.drop_left,hbad,if_neg (by decide),t6];rw[List.length_append,e6];simp only[Nat.add_assoc]
end Go.Proofs.YtmfijackgekioaaGreatDoor.Rf
