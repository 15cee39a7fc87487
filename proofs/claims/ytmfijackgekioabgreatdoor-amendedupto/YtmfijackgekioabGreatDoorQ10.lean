import Derived.Test.YtmfijackgekioabGreatDoorQ01
namespace Go.Proofs.YtmfijackgekioabGreatDoor.Rf
def At (L:List Int)(p:Nat)(b:List Int):Prop:=p+b.length<=L.length/\∀j,j<b.length->L.getD (p+j) 0=b.getD j 0
theorem At.left {L:List Int}{p:Nat}{a b:List Int}(h:At L p (a++b)):At L p a:=by
 obtain⟨h1,h2⟩:=h;rw[aac]at h1 h2;refine⟨by omega,fun j hj=>?_⟩;rw[h2 j (by omega)];simp only[aab];rw[abn hj]
theorem At.right {L:List Int}{p:Nat}{a b:List Int}(h:At L p (a++b)):At L (p+a.length) b:=by
 obtain⟨h1,h2⟩:=h;rw[aac]at h1 h2;refine⟨by omega,fun j hj=>?_⟩;have:=h2 (a.length+j) (by omega);rw[acy,this];simp only[aab];rw[aaM (by omega),Nat.add_sub_cancel_left]
def nb (v:Nat):Nat->List Int
 | 0=>[]
 | k+1=>nb v k++[((v/2^k%2:Nat):Int)]
theorem aC (v k:Nat):(nb v k).length=k:=by
 induction k with
 | zero=>rfl
 | succ k ih=>rw[nb,aac,ih];rfl
theorem PU {L:List Int}{p v:Nat}:∀(k:Nat),At L p (nb v k)->bv L p k=((v%2^k:Nat):Int)
 | 0,_=>by simp[bv,Nat.mod_one]
 | k+1,h=>by
  rw[nb]at h;have h1:=PU k h.left;have h2:=h.right.2 0 (by simp);rw[aC,acz]at h2;rw[bv,h1,h2,Nat.mod_pow_succ];simp[Int.mul_comm]
theorem fF {L:List Int}{v k:Nat}{st:St}(h:At L st.pos (nb v k)):take L st k=(((v%2^k:Nat):Int),{ st with pos:=st.pos+k }):=by
 have hl:=h.1;rw[aC]at hl;rw[take,aai (by omega),PU k h]
def cb (c:Nat):Nat->List Int
 | 0=>[]
 | k+1=>((c/2^k%2:Nat):Int)::cb c k
theorem fY (c k:Nat):(cb c k).length=k:=by
 induction k with
 | zero=>rfl
 | succ k ih=>rw[cb,aaA,ih]
theorem EC {L ls code:List Int}{c i:Nat}:∀(k f n:Nat) (st:St),st.bad=false->k<f->At L st.pos (cb c (k+1)) -> (∀m,m<k->find ls code ((n:Int)+1+m) ((c/2^(k-m):Nat):Int)=none)->find ls code ((n:Int)+1+k) (c:Int)=some i -> d7 L ls code f n ((c/2^(k+1):Nat):Int) st=((i:Int),{ st with pos:=st.pos+(k+1) })
 | k,0,n,st,_,hf,_,_,_=>absurd hf (by omega)
 | k,f+1,n,st,hb,hf,ha,hn,hi=>by
  have hb0:=ha.2 0 (by rw[fY];omega);have hlen:=ha.1;rw[fY]at hlen
  have ht:take L st 1=(((c/2^k%2:Nat):Int),{ st with pos:=st.pos+1 }):=by
   rw[take,aai (by omega)];simp only[bv,acz]at hb0 ⊢;rw[hb0];simp[cb]
  have e2:2*((c/2^(k+1):Nat):Int)+((c/2^k%2:Nat):Int)=((c/2^k:Nat):Int):=by
   have:c/2^(k+1)=c/2^k/2:=by rw[acP,Nat.div_div_eq_div_mul]
   rw[this];omega
  rw[d7,ht];simp only[hb,e2,ace,if_false];cases k with
  | zero =>
   have hi':find ls code ((n:Int)+1) ((c/2^0:Nat):Int)=some i:=by simpa using hi
   rw[hi']
  | succ k =>
   have h0:=hn 0 (by omega);simp only[Int.ofNat_zero,Int.add_zero,Nat.sub_zero]at h0;rw[h0]
   have ha':At L (st.pos+1) (cb c (k+1)):=by
    have:cb c (k+1+1)=[((c/2^(k+1)%2:Nat):Int)]++cb c (k+1):=rfl;rw[this]at ha;exact ha.right
   have:=EC k f (n+1) { st with pos:=st.pos+1,bad:=false } rfl (by omega) ha' (fun m hm=>by
    have:=hn (m+1) (by omega);rw[show k+1-(m+1)=k-m by omega]at this;rw[<-this]
    congr 1
    omega) (by rw[<-hi];congr 1;omega)
   rw[this];simp only[Prod.mk.injEq,St.mk.injEq,and_true,acm];omega
def bb:List UInt8->List Int
 | []=>[]
 | c::r=>nb c.toNat 8++bb r
theorem nN (t:List UInt8):(bb t).length=8*t.length:=by
 induction t with
 | nil=>rfl
 | cons c r ih=>rw[bb,aac,aC,ih,aaA];omega
theorem JW {L:List Int}:∀(t:List UInt8) (st:St),st.bad=false->At L st.pos (bb t) -> iK L t.length st={ st with pos:=st.pos+8*t.length,out:=st.out++t }
 | [],st,_,_=>by simp[iK]
 | c::r,st,hb,h=>by
  rw[bb]at h;have ht:=fF h.left;have hr:=h.right;rw[aC]at hr;have hc:c.toNat%2^8=c.toNat:=abE c.toNat_lt;rw[hc]at ht;rw[aaA,iK,hb,ht];simp only[ace,if_false,acQ,UInt8.ofNat_toNat];rw[JW r { st with pos:=st.pos+8,out:=st.out++[c] } hb hr];simp only[aaw,abG,abb];rw[show st.pos+8+8*r.length=st.pos+8*(r.length+1) by omega,hb]
theorem JX {L:List Int}{limit:Int}{st:St}{t:List UInt8}(hb:st.bad=false)(hn:t.length<=65535)(hl:(st.out.length:Int)+t.length<=limit)(h:At L ((st.pos+7)/8*8) (nb t.length 16++(nb (65535-t.length) 16++bb t))): plain L limit st={ st with pos:=(st.pos+7)/8*8+32+8*t.length,out:=st.out++t }:=by
 have h1:=fF (st:={ st with pos:=(st.pos+7)/8*8 }) h.left;have hr:=h.right;rw[aC]at hr;have h2:=fF (st:={ st with pos:=(st.pos+7)/8*8+16 }) hr.left;have h3:=hr.right;rw[aC]at h3;rw[abE (by omega)]at h1 h2;simp only at h1 h2;unfold plain;simp only;rw[h1];simp only;rw[h2];simp only;have e:((t.length:Nat):Int)+((65535-t.length:Nat):Int)=65535:=by omega
 rw[aaj e];simp only[hb,ace,if_false,acQ]
 have hr0:∀q:St,q.out=st.out->room limit q t.length=(true,q):=fun q hq=>by
  rw[room,aai (by rw[hq];omega)]
 rw[hr0 { st with pos:=(st.pos+7)/8*8+16+16,bad:=false } rfl];simp only[if_true];rw[JW t _ rfl h3]
def Reads (ls:List Int)(i:Nat)(b:List Int):Prop:=∀(L:List Int) (st:St),st.bad=false->At L st.pos b->symbol L ls (codes ls) st=((i:Int),{ st with pos:=st.pos+b.length })
theorem ED (limit:Int)(st:St)(n:Nat)(h:(st.out.length:Int)+n<=limit):room limit st n=(true,st):=by
 rw[room,aai (by omega)]
theorem Gn {L:List Int}{limit:Int}{ls far b:List Int}{c f:Nat}{st:St}(hr:Reads ls c b)(hc:c<256)(hb:st.bad=false)(hf:st.full=false)(hl:(st.out.length:Int)+1<=limit)(ha:At L st.pos b): d9 L limit ls (codes ls) far (codes far) (f+1) st=d9 L limit ls (codes ls) far (codes far) f { st with pos:=st.pos+b.length,out:=st.out++[UInt8.ofNat c] }:=by
 rw[d9,hr L st hb ha];simp only;have e:=ED limit { st with pos:=st.pos+b.length } 1 hl;rw[aai (by rw[hb,hf];decide),aai (by rw[hb];rintro (q|q);cases q;omega),aaj (by omega),e];simp
theorem Gp {L:List Int}{limit:Int}{ls far b:List Int}{f:Nat}{st:St}(hr:Reads ls 256 b)(hb:st.bad=false)(hf:st.full=false)(ha:At L st.pos b): d9 L limit ls (codes ls) far (codes far) (f+1) st={ st with pos:=st.pos+b.length }:=by
 rw[d9,hr L st hb ha];rw[aai (by rw[hb,hf];decide),aaj (.inr rfl)]
def lb (i:Nat):Nat:=if i=28 then 0 else if 8<=i then i/4-1 else 0
def dK (i:Nat):Nat:=if i=28 then 258 else if 8<=i then (4+i%4)*2^(i/4-1)+3 else i+3
def db (j:Nat):Nat:=if 4<=j then j/2-1 else 0
def dy (j:Nat):Nat:=if 4<=j then (2+j%2)*2^(j/2-1)+1 else j+1
theorem JY {L:List Int}{i x:Nat}{st:St}(hx:x<2^lb i)(ha:At L st.pos (nb x (lb i))):lenOf L i st=(dK i+x,{ st with pos:=st.pos+lb i }):=by
 unfold lenOf;by_cases Jw:i=28
 ·subst Jw;have e0:lb 28=0:=rfl;rw[e0]at hx;obtain rfl:x=0:=by omega
  rfl
 ·by_cases h8:8<=i
  ·have e:lb i=i/4-1:=by rw[lb,aai Jw,aaj h8]
   have e1:dK i=(4+i%4)*2^(i/4-1)+3:=by rw[dK,aai Jw,aaj h8]
   rw[e]at ha hx ⊢;rw[aai Jw,aaj h8,fF ha,abE hx,e1];simp
  ·have e:lb i=0:=by rw[lb,aai Jw,aai h8]
   have e1:dK i=i+3:=by rw[dK,aai Jw,aai h8]
   rw[e]at hx ⊢;obtain rfl:x=0:=by omega
   rw[aai Jw,aai h8,e1];rfl
theorem Gq {L:List Int}{j y:Nat}{st:St}(hy:y<2^db j)(ha:At L st.pos (nb y (db j))):bZ L j st=(dy j+y,{ st with pos:=st.pos+db j }):=by
 unfold bZ;by_cases h4:4<=j
 ·have e:db j=j/2-1:=by rw[db,aaj h4]
  have e1:dy j=(2+j%2)*2^(j/2-1)+1:=by rw[dy,aaj h4]
  rw[e]at ha hy ⊢;rw[aaj h4,fF ha,abE hy,e1];simp
 ·have e:db j=0:=by rw[db,aai h4]
  have e1:dy j=j+1:=by rw[dy,aai h4]
  rw[e]at hy ⊢;obtain rfl:y=0:=by omega
  rw[aai h4,e1];rfl
theorem Gr {L:List Int}{limit:Int}{far b:List Int}{i j x y:Nat}{st:St}(hr:Reads far j b)(hj:j<=29)(hx:x<2^lb i)(hy:y<2^db j)(hb:st.bad=false)(hd:dy j+y<=st.out.length)(hl:(st.out.length:Int)+(dK i+x:Nat)<=limit)(ha:At L st.pos (nb x (lb i)++(b++nb y (db j)))): copied L limit i far (codes far) st={ st with pos:=st.pos+lb i+b.length+db j,out:=zw (dy j+y) (dK i+x) st.out }:=by
 have h1:=JY hx ha.left;have hr1:=ha.right;rw[aC]at hr1;have h2:=hr L { st with pos:=st.pos+lb i } hb hr1.left;have h3:=Gq (st:={ st with pos:=st.pos+lb i+b.length }) hy hr1.right;have h4:=ED limit { st with pos:=st.pos+lb i+b.length+db j } (dK i+x) hl;unfold copied;rw[h1];simp only;rw[h2];simp only[acQ];rw[h3];simp only;rw[h4];simp only;rw[aai (by rw[hb];decide),aai (by rw[hb];rintro (q|q);cases q;omega),aai (by rw[hb];rintro (q|q);cases q;omega)];simp
theorem Gs (T:List UInt8)(p k:Nat)(h:k<p):(T.take p).getD k 0=T.getD k 0:=by
 simp only[aab,abZ,aaj h]
theorem mP (T:List UInt8)(p:Nat)(h:p<T.length):T.take (p+1)=T.take p++[T.getD p 0]:=by
 rw[aaT h,aab,aan h];rfl
theorem Ab (T:List UInt8)(d:Nat)(hd:1<=d):∀(l p:Nat),d<=p->p+l<=T.length->(∀k,k<l->T.getD (p+k) 0=T.getD (p+k-d) 0)->zw d l (T.take p)=T.take (p+l)
 | 0,p,_,_,_=>rfl
 | l+1,p,hp,hl,h=>by
  have e:(T.take p).length=p:=by rw[aa7];omega
  rw[zw,e,Gs _ _ _ (by omega)];have h0:=h 0 (by omega);rw[acz]at h0
  rw[<-h0,<-mP T p (by omega),Ab T d hd l (p+1) (by omega) (by omega) (fun k hk=>by
   have:=h (k+1) (by omega);rw[show p+1+k=p+(k+1) by omega]
   exact this)]
  rw[show p+1+l=p+(l+1) by omega]
def my (x:Nat):Nat:=if x=0 then 0 else x.log2+1
def gi (l:Nat):Nat:=if l=258 then 28 else 4*(my (l-3)-3)+(l-3)/2^(my (l-3)-3)
def ip (d:Nat):Nat:=2*(my (d-1)-2)+(d-1)/2^(my (d-1)-2)
theorem tv (l:Nat)(h1:3<=l)(h2:l<=258):gi l<=28/\dK (gi l)<=l/\l-dK (gi l)<2^lb (gi l):=by
 have:∀l:Fin 259,3<=l.val->gi l.val<=28/\dK (gi l.val)<=l.val/\l.val-dK (gi l.val)<2^lb (gi l.val):=by decide +kernel
 exact this ⟨l,by omega⟩ h1
def tw (T:List UInt8)(p:Nat)(s:Nat×Nat):Prop :=
 (s.2=0/\s.1=1/\p<T.length)\/(3<=s.1/\s.1<=258/\1<=s.2/\s.2<=32768/\s.2<=p/\p+s.1<=T.length/\∀k,k<s.1->T.getD (p+k) 0=T.getD (p+k-s.2) 0)
def Fits (T:List UInt8):Nat->List (Nat×Nat)->Nat->Prop
 | p,[],q=>p=q
 | p,s::r,q=>tw T p s/\Fits T (p+s.1) r q
def j9 (sb fb:Nat->List Int)(T:List UInt8)(p:Nat)(s:Nat×Nat):List Int :=
 if s.2=0 then sb (T.getD p 0).toNat
 else sb (257+gi s.1)++(nb (s.1-dK (gi s.1)) (lb (gi s.1))++(fb (ip s.2)++nb (s.2-dy (ip s.2)) (db (ip s.2))))
def dN (sb fb:Nat->List Int)(T:List UInt8):Nat->List (Nat×Nat)->List Int
 | _,[]=>sb 256
 | p,s::r=>j9 sb fb T p s++dN sb fb T (p+s.1) r
def tA (ls far:List Int)(sb fb:Nat->List Int)(T:List UInt8):Nat->List (Nat×Nat)->Prop
 | _,[]=>Reads ls 256 (sb 256)
 | p,s::r=>(if s.2=0 then Reads ls (T.getD p 0).toNat (sb (T.getD p 0).toNat) else Reads ls (257+gi s.1) (sb (257+gi s.1))/\Reads far (ip s.2) (fb (ip s.2)))/\tA ls far sb fb T (p+s.1) r
theorem mQ {L:List Int}{limit:Int}{ls far:List Int}{sb fb:Nat->List Int}{T:List UInt8}(hlim:(T.length:Int)<=limit)(hdix:∀d,1<=d->d<=32768->ip d<=29/\dy (ip d)<=d/\d-dy (ip d)<2^db (ip d)): ∀(S:List (Nat×Nat)) (p q f:Nat) (st:St),S.length<f->Fits T p S q->tA ls far sb fb T p S->st.bad=false->st.full=false->st.out=T.take p->At L st.pos (dN sb fb T p S) -> d9 L limit ls (codes ls) far (codes far) f st={ st with pos:=st.pos+(dN sb fb T p S).length,out:=T.take q }
 | [],p,q,f+1,st,_,hfit,hk,hb,hf,ho,ha=>by
  rw[Gp hk hb hf ha];obtain rfl:p=q:=hfit;rw[<-ho];rfl
 | s::r,p,q,f+1,st,hfu,hfit,hk,hb,hf,ho,ha=>by
  obtain⟨hs,hfit⟩:=hfit;obtain⟨hk1,hk⟩:=hk;rw[dN]at ha ⊢;have hal:=ha.left;have har:=ha.right;rw[aac];rcases hs with⟨h0,h1,hp⟩|⟨g1,g2,g3,g4,g5,g6,g7⟩
  ·rw[aaj h0]at hk1;rw[j9,aaj h0]at hal har ⊢;have e:(T.take p).length=p:=by rw[aa7];omega
   rw[Gn hk1 (UInt8.toNat_lt _) hb hf (by rw[ho,e];omega) hal];rw[h1]at hfit hk har ⊢;rw[mQ hlim hdix r (p+1) q f { st with pos:=st.pos+(sb (T.getD p 0).toNat).length,out:=st.out++[UInt8.ofNat (T.getD p 0).toNat] } (by simp only[aaA]at hfu;omega) hfit hk hb hf (by simp only[UInt8.ofNat_toNat];rw[ho,<-mP T p hp]) har];simp only[acy]
  ·have hne:¬s.2=0:=by omega
   rw[aai hne]at hk1;rw[j9,aai hne]at hal har ⊢;obtain⟨l1,l2,l3⟩:=tv s.1 g1 g2;obtain⟨d1,d2,d3⟩:=hdix s.2 g3 g4;have e:(T.take p).length=p:=by rw[aa7];omega
   have hcp:=Gr (limit:=limit) (st:={ st with pos:=st.pos+(sb (257+gi s.1)).length }) hk1.2 d1 l3 d3 hb (by show _<=st.out.length;rw[ho,e];omega) (by show ((st.out.length:Nat):Int)+_<=_;rw[ho,e];omega) hal.right;rw[d9,hk1.1 L st hb hal.left];simp only;rw[aai (by rw[hb,hf];decide),aai (by rw[hb];rintro (q|q);cases q;omega),aai (by omega),aai (by omega),show (((257+gi s.1:Nat):Int)-257).toNat=gi s.1 by omega,hcp];have hcf:=Ab T s.2 g3 s.1 p g5 g6 g7;rw[show dy (ip s.2)+(s.2-dy (ip s.2))=s.2 by omega,show dK (gi s.1)+(s.1-dK (gi s.1))=s.1 by omega,ho,hcf];simp only[aac,aC]at har ⊢;rw[mQ hlim hdix r (p+s.1) q f { st with pos:=st.pos+(sb (257+gi s.1)).length+lb (gi s.1)+(fb (ip s.2)).length+db (ip s.2),out:=T.take (p+s.1) } (by simp only[aaA]at hfu;omega) hfit hk hb hf rfl (by simpa only[acy]using har)];simp only[acy]
end Go.Proofs.YtmfijackgekioabGreatDoor.Rf
