import Derived.Test.YtmfijackgekioaaGreatDoorQ23
namespace Go.Proofs.YtmfijackgekioaaGreatDoor.Pm
def leftV (f lead:Nat)(above r:Nat->Int)(i:Nat):Int:=(r i-dG f (cS r i lead) (above i) (cS above i lead))%256
theorem qV (f lead:Nat)(above r:Nat->Int)(i:Nat):0<=leftV f lead above r i/\leftV f lead above r i<256:=by unfold leftV;omega
theorem FK (L:List Int)(i j:Nat)(h:j<i):ap (L.take i) j=ap L j:=by
 unfold ap;rw[aaa,aaa,List.getElem?_take_of_lt h]
theorem DZ (f lead:Nat)(above x:Nat->Int)(L:List Int)(hL:∀y∈L,0<=y/\y<256)(hl:1<=lead)(hx:∀i,i<L.length->x i=leftV f lead above (ap L) i):∀i,i<=L.length->lq f lead above x i=L.take i
 | 0,_=>by rw[lq,List.take_zero]
 | i+1,h=>by
  have ih:=DZ f lead above x L hL hl hx i (by omega);rw[lq,ih,hx i (by omega),List.take_add_one,aai (by omega),Option.toList_some]
  congr 2
  have hp:cS (ap (L.take i)) i lead=cS (ap L) i lead:=by
   unfold cS;split
   ·exact FK L i _ (by omega)
   ·rfl
  rw[hp];unfold leftV;have hr:=hL _ (aaR (show i<L.length by omega))
  have hg:ap L i=L[i]'(by omega):=by
   unfold ap;rw[aaa,aai (by omega)];rfl
  rw[hg];generalize dG f _ _ _=t;omega
def bg (v:Nat->Int)(dp size:Nat):Nat->List Int
 | 0=>List.replicate size 0
 | k+1=>if dp=16 then ((bg v dp size k).set (2*k) (v k/256)).set (2*k+1) (v k%256)
  else (bg v dp size k).set (k*dp/8) (ap (bg v dp size k) (k*dp/8)+v k*2^(8-k*dp%8-dp))
theorem iB (v:Nat->Int)(dp size:Nat):∀k,(bg v dp size k).length=size
 | 0=>by rw[bg,abh]
 | k+1=>by
  rw[bg];split
  ·rw[aaZ,aaZ,iB v dp size k]
  ·rw[aaZ,iB v dp size k]
theorem mK (l:List Int)(i j:Nat)(x:Int)(h:i<l.length):ap (l.set i x) j=if i=j then x else ap l j:=by
 unfold ap;rw[aaa,aaa,List.getElem?_set];by_cases e:i=j
 ·subst e;rw[aaf rfl,aaf rfl,aaf h];rfl
 ·rw[aae e,aae e]
theorem wi (n j:Nat):ap (List.replicate n 0) j=0:=by
 unfold ap;rw[aaa,abK];split<;>rfl
theorem MJ (B v:Int)(b d:Nat)(h:B%2^(b+d)=0)(hv:0<=v/\v<2^d):(B+v*2^b)/2^b%2^d=v:=by
 have hb:=fe b;rw[Int.add_mul_ediv_right _ _ (by omega)]
 have e:B/2^b%2^d=0:=by
  have h1:=Int.emod_add_mul_ediv B (2^(b+d));rw[h,Int.zero_add,Int.pow_add,Int.mul_assoc]at h1;rw[<-h1,Int.mul_ediv_cancel_left _ (by omega),Int.mul_emod_right]
 rw[Int.add_emod,e,Int.zero_add,Int.emod_emod_of_dvd _ (Int.dvd_refl _)];exact Int.emod_eq_of_lt hv.1 hv.2
theorem Af (B v:Int)(b d e:Nat)(h:B%2^(b+d)=0)(hv:0<=v/\v<2^d)(he:b+d<=e):(B+v*2^b)/2^e=B/2^e:=by
 obtain⟨c,rfl⟩:∃c,e=b+d+c:=⟨e-(b+d),by omega⟩
 have hb:=fe b;have hbd:=fe (b+d);have h1:=Int.emod_add_mul_ediv B (2^(b+d));rw[h,Int.zero_add]at h1
 have h2:0<=v*2^b/\v*2^b<2^(b+d):=by
  refine⟨abW hv.1 (by omega),?_⟩;rw[Nat.add_comm b d,Int.pow_add];exact Int.mul_lt_mul_of_pos_right hv.2 hb
 rw[Int.pow_add,<-Int.ediv_ediv_of_nonneg (by omega),<-Int.ediv_ediv_of_nonneg (by omega)]
 congr 1
 generalize v*2^b=x at *;generalize (2:Int)^(b+d)=P at *;rw[<-h1];rw[Int.add_comm,Int.add_mul_ediv_left _ _ (by omega),Int.ediv_eq_zero_of_lt h2.1 h2.2,Int.mul_ediv_cancel_left _ (by omega),Int.zero_add]
theorem Ag (B v:Int)(b d:Nat)(h:B%2^(b+d)=0)(hv:0<=v/\v<2^d)(hbd:b+d<=8)(hB:0<=B/\B<256):0<=B+v*2^b/\B+v*2^b<256:=by
 have hb:=fe b;have h2:0<=v*2^b:=abW hv.1 (by omega);refine⟨by omega,?_⟩;have h3:=Af B v b d 8 h hv hbd;have e:(2:Int)^8=256:=by decide
 rw[e]at h3;omega
theorem JK (B v:Int)(b d:Nat)(h:B%2^(b+d)=0):(B+v*2^b)%2^b=0:=by
 have h1:=Int.emod_add_mul_ediv B (2^(b+d));rw[h,Int.zero_add,Int.pow_add,Int.mul_assoc]at h1;rw[<-h1,<-Int.mul_comm (2^b) v,<-Int.mul_add];exact Int.mul_emod_right _ _
abbrev qW (dp:Nat):Prop:=dp=1\/dp=2\/dp=4\/dp=8\/dp=16
structure Packed (v:Nat->Int) (dp size k:Nat):Prop where
 byte:∀i,0<=ap (bg v dp size k) i/\ap (bg v dp size k) i<256
 low:dp≠16->ap (bg v dp size k) (k*dp/8)%2^(8-k*dp%8)=0
 zero:dp≠16->∀i,k*dp/8<i->ap (bg v dp size k) i=0
 Qp:∀j,j<k->eu (ap (bg v dp size k)) dp j=v j
theorem packed (v:Nat->Int)(dp size:Nat)(hd:qW dp)(K:Nat)(hv:∀k,k<K->0<=v k/\v k<2^dp)(hs:∀k,k<K->(dp=16->2*k+1<size)/\(dp≠16->k*dp/8<size)):∀k,k<=K->Packed v dp size k
 | 0,_=>by
  have e:∀i,ap (bg v dp size 0) i=0:=fun i=>by rw[bg];exact wi _ _
  exact⟨fun i=>by rw[e];omega,fun _=>by rw[e];exact Int.zero_emod _,fun _ i _=>e i,fun j hj=>absurd hj (by omega)⟩
 | k+1,hk=>by
  have ih:=packed v dp size hd K hv hs k (by omega);have hv:=hv k (by omega);obtain⟨s1,s2⟩:=hs k (by omega);have hlen:=iB v dp size k;by_cases h16:dp=16
  ·subst h16;have s1:=s1 rfl
   have e:∀i,ap (bg v 16 size (k+1)) i=if 2*k+1=i then v k%256 else if 2*k=i then v k/256 else ap (bg v 16 size k) i:=by
    intro i;rw[bg,aaf rfl,mK _ _ _ _ (by rw[aaZ,hlen];exact s1),mK _ _ _ _ (by rw[hlen];omega)]
   have hv2:v k<65536:=by
    have:(2:Int)^16=65536:=by decide
    omega
   refine⟨fun i=>?_,fun h=>absurd rfl h,fun h=>absurd rfl h,fun j hj=>?_⟩
   ·rw[e];have:=ih.byte i;split
    ·omega
    ·split<;>omega
   ·have i2:=ih.Qp j;unfold eu at i2 ⊢;rw[aaf rfl]at i2 ⊢;rw[e,e];rcases aaL j k with h|h
    ·rw[aae (by omega),aae (by omega),aae (by omega),aae (by omega)];exact i2 h
    ·obtain rfl:j=k:=by omega
     rw[aae (by omega),aaf rfl,aaf rfl];omega
  ·have s2:=s2 h16;have low:=ih.low h16;have zero:=ih.zero h16;have hdp:dp=1\/dp=2\/dp=4\/dp=8:=by unfold qW at hd;omega
   have hfit:k*dp%8+dp<=8:=by rcases hdp with rfl|rfl|rfl|rfl<;>omega
   have e:∀i,ap (bg v dp size (k+1)) i=if k*dp/8=i then ap (bg v dp size k) (k*dp/8)+v k*2^(8-k*dp%8-dp) else ap (bg v dp size k) i:=by
    intro i;rw[bg,aae h16,mK _ _ _ _ (by rw[hlen];exact s2)]
   have lw:ap (bg v dp size k) (k*dp/8)%2^(8-k*dp%8-dp+dp)=0:=by
    rw[show 8-k*dp%8-dp+dp=8-k*dp%8 by omega];exact low
   have bB:=ih.byte (k*dp/8);have nx:(k+1)*dp=k*dp+dp:=abR k dp;refine⟨fun i=>?_,fun _=>?_,fun _ i hi=>?_,fun j hj=>?_⟩
   ·rw[e];split
    ·exact Ag _ _ _ _ lw hv (by omega) bB
    ·exact ih.byte i
   ·rw[e,nx];by_cases hb:k*dp%8+dp=8
    ·rw[aae (by omega),zero _ (by omega)];exact Int.zero_emod _
    ·rw[aaf (by omega),show 8-(k*dp+dp)%8=8-k*dp%8-dp by omega];exact JK _ _ _ _ lw
   ·rw[nx]at hi;rw[e,aae (by omega)];exact zero i (by omega)
   ·have i2:=ih.Qp j;unfold eu at i2 ⊢;rw[aae h16]at i2 ⊢;rw[e];rcases aaL j k with h|h
    ·by_cases hb:k*dp/8=j*dp/8
     ·rw[aaf hb,Af _ _ _ _ _ lw hv (by
       have:(j+1)*dp<=k*dp:=aaU _ h;rw[abR]at this;have:j*dp%8+dp<=8:=by rcases hdp with rfl|rfl|rfl|rfl<;>omega
       omega),hb]
      exact i2 h
     ·rw[aae hb];exact i2 h
    ·obtain rfl:j=k:=by omega
     rw[aaf rfl];exact MJ _ _ _ _ lw hv
structure FL (D:Nat->Prop) (out S:List Int):Prop where
 len:out.length=S.length
 at_:∀i,D i->out[i]?=S[i]?
theorem FL.put {D:Nat->Prop}{out S:List Int}(h:FL D out S)(p:Ps)(W n j:Nat)(v:Nat->Int):∀K,(∀k,k<K->S[p.idx W n j k]?=some (v k))->FL (fun i=>D i\/∃k,k<K/\i=p.idx W n j k) (mA p W n j v out K) S
 | 0,_=>⟨h.len,fun i hi=>by
   rcases hi with hi|⟨k,hk,_⟩
   ·exact h.at_ i hi
   ·omega⟩
 | K+1,hv=>by
  have ih:=FL.put h p W n j v K (fun k hk=>hv k (by omega));refine⟨by rw[mA,aaZ];exact ih.len,fun i hi=>?_⟩;have hK:=hv K (by omega);rw[mA,List.getElem?_set];by_cases e:p.idx W n j K=i
  ·rw[aaf e];subst e
   have hlt:p.idx W n j K<S.length:=by
    rw[List.getElem?_eq_some_iff]at hK;exact hK.1
   rw[ih.len,aaf hlt,hK]
  ·rw[aae e];refine ih.at_ i ?_;rcases hi with hi|⟨k,hk,he⟩
   ·exact .inl hi
   ·rcases aaL k K with h1|h1
    ·exact .inr ⟨k,h1,he⟩
    ·obtain rfl:k=K:=by omega
     exact absurd he.symm e
theorem FL.mono {D E:Nat->Prop}{out S:List Int}(h:FL D out S)(k:∀i,E i->D i):FL E out S:=⟨h.len,fun i hi=>h.at_ i (k i hi)⟩
theorem FL.all {D:Nat->Prop}{out S:List Int}(h:FL D out S)(k:∀i,i<S.length->D i):out=S:=by
 refine List.ext_getElem? fun i=>?_;rcases aaL i S.length with hi|hi
 ·exact h.at_ i (k i hi)
 ·rw[aas hi,aas (by rw[h.len];exact hi)]
abbrev rm (l:List Int)(i:Nat):Nat:=(ap l i).toNat
theorem nF {f lead:Nat}{above x y:Nat->Int}:∀n,(∀i,i<n->x i=y i)->lq f lead above x n=lq f lead above y n
 | 0,_=>rfl
 | n+1,h=>by rw[lq,lq,nF n (fun i hi=>h i (by omega)),h n (by omega)]
def xU (S:List Int)(p:Ps)(W n j k:Nat):Int:=ap S (p.idx W n j k)
def ia (m:cD)(S:List Int)(p:Ps)(j:Nat):List Int:=bg (xU S p m.W m.n j) m.dp (rowLen p.C m.bits) (p.C*m.n)
def cx (m:cD)(S:List Int)(p:Ps):Nat->List Int
 | 0=>List.replicate (rowLen p.C m.bits) 0
 | j+1=>ia m S p j
theorem mP (m:cD)(S:List Int)(p:Ps)(j:Nat):(ia m S p j).length=rowLen p.C m.bits:=iB _ _ _ _
theorem ud (m:cD)(S:List Int)(p:Ps):∀j,(cx m S p j).length=rowLen p.C m.bits
 | 0=>abh
 | j+1=>mP m S p j
structure Fits (m:cD) (S:List Int):Prop where
 len:S.length=m.W*m.H*m.n
 dep:qW m.dp
 val:∀y∈S,0<=y/\y<2^m.dp
theorem Fits.get {m:cD}{S:List Int}(h:Fits m S)(i:Nat):0<=ap S i/\ap S i<2^m.dp:=by
 unfold ap;rw[aaa];rcases aaL i S.length with hi|hi
 ·rw[aai hi];exact h.val _ (aaR hi)
 ·rw[aas hi];exact⟨abj _,fe _⟩
theorem ue {m:cD}{S:List Int}(h:Fits m S)(p:Ps)(j:Nat){k:Nat}(hk:k<=p.C*m.n):Packed (xU S p m.W m.n j) m.dp (rowLen p.C m.bits) k :=
 packed _ _ _ h.dep (p.C*m.n) (fun _ _=>h.get _) (fun k hk=>xJ p.C m.n m.dp k h.dep hk) k hk
theorem uf {m:cD}{S:List Int}(h:Fits m S)(p:Ps)(j:Nat):∀y∈ia m S p j,0<=y/\y<256:=by
 intro y hy;obtain⟨i,hi,rfl⟩:=List.mem_iff_getElem.1 hy;have:=(ue h p j (aad _)).byte i;unfold ap at this;rw[aaa]at this;have e:(bg (xU S p m.W m.n j) m.dp (rowLen p.C m.bits) (p.C*m.n))[i]?=some ((ia m S p j)[i]):=aai hi;rw[e]at this;exact this
theorem Ce {m:cD}{S:List Int}(h:Fits m S)(p:Ps):∀j,∀y∈cx m S p j,0<=y/\y<256
 | 0=>fun y hy=>by
  have:y=0:=(List.mem_replicate.1 hy).2;omega
 | j+1=>uf h p j
structure mQ (m:cD) (S:List Int) (p:Ps) (T:Nat->Nat) (o fl j:Nat):Prop where
 few:T (o+j*(1+rowLen p.C m.bits))<=4
 said:fl≠5->T (o+j*(1+rowLen p.C m.bits))=fl
 left:∀i,i<rowLen p.C m.bits->(T (o+j*(1+rowLen p.C m.bits)+1+i):Int)=leftV (T (o+j*(1+rowLen p.C m.bits))) m.lead (ap (cx m S p j)) (ap (ia m S p j)) i
theorem JL {m:cD}(h:0<m.bits):1<=m.lead:=by unfold cD.lead;omega
theorem rp {m:cD}{S:List Int}(hf:Fits m S)(hb:0<m.bits){p:Ps}{T:Nat->Nat}{o fl j:Nat}(h:mQ m S p T o fl j)(out:List Int): je m T p o j ⟨ap (cx m S p j),out⟩=some ⟨ap (ia m S p j),mA p m.W m.n j (eu (ap (ia m S p j)) m.dp) out (p.C*m.n)⟩:=by
 have hu:lq (T (o+j*(1+rowLen p.C m.bits))) m.lead (ap (cx m S p j)) (fun i=>(T (o+j*(1+rowLen p.C m.bits)+1+i):Int)) (rowLen p.C m.bits)=ia m S p j:=by
  have e:=DZ (T (o+j*(1+rowLen p.C m.bits))) m.lead (ap (cx m S p j)) (fun i=>(T (o+j*(1+rowLen p.C m.bits)+1+i):Int)) (ia m S p j) (uf hf p j) (JL hb)
   (fun i hi=>h.left i (by rw[mP]at hi;exact hi)) (rowLen p.C m.bits) (by rw[mP];exact aad _)
  rw[e,<-mP m S p j,List.take_length]
 unfold je;have h4:=h.few;rw[aae (by omega)];simp only[hu]
theorem YH {m:cD}{S:List Int}(hf:Fits m S){p:Ps}(hp:p.In m.W m.H){j k:Nat}(hj:j<p.R)(hk:k<p.C*m.n):S[p.idx m.W m.n j k]?=some (xU S p m.W m.n j k):=by
 have hlt:=Ps.BM (n:=m.n) hp hj hk;rw[<-hf.len]at hlt;unfold xU ap;rw[aaa,aai hlt];rfl
abbrev Cf (p:Ps)(W n J:Nat)(i:Nat):Prop:=∃j k,j<J/\k<p.C*n/\i=p.idx W n j k
theorem jB {m:cD}{S:List Int}(hf:Fits m S)(hb:0<m.bits){p:Ps}(hp:p.In m.W m.H){T:Nat->Nat}{o fl:Nat}{D:Nat->Prop}{out:List Int}(ho:FL D out S):∀J,J<=p.R->(∀j,j<J->mQ m S p T o fl j) -> ∃out',fR m T p o out J=some ⟨ap (cx m S p J),out'⟩/\FL (fun i=>D i\/Cf p m.W m.n J i) out' S
 | 0,_,_=>by
  refine⟨out,?_,ho.len,fun i hi=>?_⟩
  ·rw[fR]
   congr 2
   funext i
   exact (wi _ _).symm
  ·rcases hi with hi|⟨j,k,hj,_⟩
   ·exact ho.at_ i hi
   ·omega
 | J+1,hJ,h=>by
  obtain⟨o1,e1,c1⟩:=jB hf hb hp ho J (by omega) (fun j hj=>h j (by omega));refine⟨_,by rw[fR,e1,Option.bind_some,rp hf hb (h J (by omega))];rfl,?_⟩
  have hv:∀k,k<p.C*m.n->S[p.idx m.W m.n J k]?=some (eu (ap (ia m S p J)) m.dp k):=by
   intro k hk;rw[YH hf hp (by omega) hk]
   congr 1
   exact ((ue hf p J (aad _)).Qp k hk).symm
  refine (c1.put p m.W m.n J _ _ hv).mono fun i hi=>?_;rcases hi with hi|⟨j,k,hj,hk,he⟩
  ·exact .inl (.inl hi)
  ·rcases aaL j J with h1|h1
   ·exact .inl (.inr ⟨j,k,h1,hk,he⟩)
   ·obtain rfl:j=J:=by omega
    exact .inr ⟨k,hk,he⟩
abbrev mR (m:cD)(S:List Int)(T:Nat->Nat)(fl k:Nat):Prop:=0<(cu m k).C->0<(cu m k).R->∀j,j<(cu m k).R->mQ m S (cu m k) T (dK m k) fl j
abbrev Ah (m:cD)(K:Nat)(i:Nat):Prop:=∃k,k<K/\0<(cu m k).C/\0<(cu m k).R/\Cf (cu m k) m.W m.n (cu m k).R i
theorem wj {m:cD}{S:List Int}(hf:Fits m S):FL (fun _=>False) (List.replicate (m.W*m.H*m.n) 0) S:=⟨by rw[abh,hf.len],fun _ h=>h.elim⟩
theorem mS {m:cD}{S:List Int}(hf:Fits m S)(hb:0<m.bits){T:Nat->Nat}{fl:Nat}:∀K,K<=7->(∀k,k<K->mR m S T fl k)->∃out,mB m T K=some out/\FL (Ah m K) out S
 | 0,_,_=>⟨_,rfl,(wj hf).mono fun i ⟨k,hk,_⟩=>absurd hk (by omega)⟩
 | K+1,hK,h=>by
  obtain⟨o1,e1,c1⟩:=mS hf hb K (by omega) (fun k hk=>h k (by omega));rw[mB,e1,Option.bind_some];unfold pg;by_cases hc:0<(cu m K).C/\0<(cu m K).R
  ·obtain⟨o2,e2,c2⟩:=jB hf hb (xI m K) c1 _ (aad _) (h K (by omega) hc.1 hc.2);rw[aaf hc,e2];refine⟨o2,rfl,c2.mono fun i ⟨k,hk,a,b,r⟩=>?_⟩;rcases aaL k K with h1|h1
   ·exact .inl ⟨k,h1,a,b,r⟩
   ·obtain rfl:k=K:=by omega
    exact .inr r
  ·rw[aae hc];refine⟨o1,rfl,c1.mono fun i ⟨k,hk,a,b,r⟩=>?_⟩;rcases aaL k K with h1|h1
   ·exact⟨k,h1,a,b,r⟩
   ·obtain rfl:k=K:=by omega
    exact absurd ⟨a,b⟩ hc
theorem FM (x y:Nat):∃k,k<7/\x%jD k=kD k/\y%jE k=jz k:=by
 have hx:x%8<8:=acj _ (by decide);have hy:y%8<8:=acj _ (by decide);have key:∀a<8,∀b<8,∃k,k<7/\a%jD k=kD k/\b%jE k=jz k:=by decide
 obtain⟨k,hk,h1,h2⟩:=key _ hx _ hy;refine⟨k,hk,?_,?_⟩
 ·have:∀k<7,8%jD k=0:=by decide
  rw[<-h1,Nat.mod_mod_of_dvd _ (Nat.dvd_of_mod_eq_zero (this k hk))]
 ·have:∀k<7,8%jE k=0:=by decide
  rw[<-h2,Nat.mod_mod_of_dvd _ (Nat.dvd_of_mod_eq_zero (this k hk))]
theorem D5 (s t e x:Nat)(h:s<t)(hx:x<e)(hm:x%t=s):x/t<(e+(t-1-s))/t:=by
 have h1:=Nat.div_add_mod x t;rw[hm]at h1;rw[Nat.lt_div_iff_mul_lt (by omega)];have:x/t*t=t*(x/t):=aaV _ _;omega
theorem JM (n i W:Nat):i=(i/n/W*W+i/n%W)*n+i%n:=by
 have h1:=Nat.div_add_mod i n;have h2:=Nat.div_add_mod (i/n) W;rw[aaV (i/n/W) W,h2,aaV];exact h1.symm
theorem JN {p:Ps}{W n i:Nat}(hn:0<n)(r c:Nat)(hr:p.r0+r*p.rs=i/n/W)(hc:p.c0+c*p.cs=i/n%W):i=p.idx W n r (c*n+i%n):=by
 unfold Ps.idx;rw[aaV c n,Nat.add_comm (n*c),Nat.add_mul_div_left _ _ hn,abm (acj _ hn),aaF,Nat.add_mul_mod_self_left,Nat.mod_mod,hr,hc];exact JM n i W
theorem D7 {W H n i:Nat}(hi:i<W*H*n):i/n/W<H:=by
 rw[Nat.div_div_eq_div_mul];refine Nat.div_lt_of_lt_mul ?_;rw[aaV n W,aa0,aaV n H,<-aa0];exact hi
theorem JO {n C c i:Nat}(hn:0<n)(h:c<C):c*n+i%n<C*n:=by
 have h1:(c+1)*n<=C*n:=aaU _ h;rw[abR]at h1;have:=acj i hn;omega
theorem wl {s t x:Nat}(hm:x%t=s):s+x/t*t=x:=by
 have h1:=Nat.div_add_mod x t;rw[hm,aaV]at h1;omega
theorem all_in {m:cD}(hn:0<m.n)(hW:0<m.W){i:Nat}(hi:i<m.W*m.H*m.n):Ah m 7 i:=by
 obtain⟨k,hk,h1,h2⟩:=FM (i/m.n%m.W) (i/m.n/m.W);have hC:i/m.n%m.W/jD k<(cu m k).C:=D5 _ _ _ _ (mt k) (acj _ hW) h1;have hR:i/m.n/m.W/jE k<(cu m k).R:=D5 _ _ _ _ (my k) (D7 hi) h2;exact⟨k,hk,Nat.lt_of_le_of_lt (aaj _) hC,Nat.lt_of_le_of_lt (aaj _) hR,_,_,hR,JO hn hC,JN hn _ _ (wl h2) (wl h1)⟩
theorem MK {m:cD}(hn:0<m.n)(hW:0<m.W){i:Nat}(hi:i<m.W*m.H*m.n):Cf (jf m) m.W m.n m.H i :=
 ⟨i/m.n/m.W,i/m.n%m.W*m.n+i%m.n,D7 hi,JO (C:=m.W) hn (acj _ hW),JN (p:=jf m) hn (i/m.n/m.W) (i/m.n%m.W) (by show 0+_*1=_;omega) (by show 0+_*1=_;omega)⟩
def Written (m:cD)(S:List Int)(T:Nat->Nat)(fl:Nat)(on:Bool):Prop:=if on=true then ∀k,k<7->mR m S T fl k else ∀j,j<m.H->mQ m S (jf m) T 0 fl j
theorem xV {m:cD}{S:List Int}(hf:Fits m S)(hn:0<m.n)(hd:0<m.dp)(hW:0<m.W){T:Nat->Nat}{fl:Nat}{on:Bool}(h:Written m S T fl on):nJ m T on=some S:=by
 have hb:0<m.bits:=Nat.mul_pos hn hd;unfold Written at h;unfold nJ;split
 ·rename_i e;rw[aaf e]at h;obtain⟨o,e1,c⟩:=mS hf hb 7 (aad _) h;rw[e1,c.all fun i hi=>all_in hn hW (by rw[<-hf.len];exact hi)]
 ·rename_i e;rw[aae e]at h;obtain⟨o,e1,c⟩:=jB hf hb (tG m) (wj hf) m.H (aad _) h;rw[e1,Option.map_some,c.all fun i hi=>.inr (MK hn hW (by rw[<-hf.len];exact hi))]
theorem mQ.congr {m:cD}{S:List Int}{p:Ps}{T U:Nat->Nat}{o fl j:Nat}(h:mQ m S p T o fl j)(e:∀i,i<o+(j+1)*(1+rowLen p.C m.bits)->U i=T i):mQ m S p U o fl j:=by
 rw[abR]at e;have e0:=e (o+j*(1+rowLen p.C m.bits)) (by omega);refine⟨by rw[e0];exact h.few,fun hne=>by rw[e0];exact h.said hne,fun i hi=>?_⟩;rw[e0,e _ (by omega)];exact h.left i hi
end Go.Proofs.YtmfijackgekioaaGreatDoor.Pm
