import Derived.Test.YtmfijackgekioabGreatDoorQ33
import Derived.Test.YtmfijackgekioabGreatDoorQ37
namespace Go.Proofs.YtmfijackgekioabGreatDoor
def Yi (h:Hd):List UInt8:=four h.wd++(four h.ht++[UInt8.ofNat h.dp.toNat,UInt8.ofNat h.kd.toNat,0,0,if h.ps=true then 1 else 0])
def aT (h:Hd):ByteArray:=⟨(Yi h).toArray⟩
def cq (p:List Int):ByteArray:=⟨(p.map fun x=>UInt8.ofNat x.toNat).toArray⟩
abbrev aE (l:List UInt8):ByteArray:=⟨l.toArray⟩
def aN (h:Hd)(aq:List Int)(ds:List ByteArray):List Ch :=
 ⟨aE bX,aT h⟩::((if h.kd=3 then [⟨aE cM,cq aq⟩] else [])++(ds.map (fun d=>⟨aE cj,d⟩)++[⟨aE jW,⟨#[]⟩⟩]))
theorem vx {x:Int}(h0:0<=x)(h1:x<256):((UInt8.ofNat x.toNat).toNat:Int)=x:=by
 rw[adh];have:x.toNat%2^8=x.toNat:=abt (by omega);rw[this];omega
structure jH (h:Hd):Prop where
 wd:1<=h.wd/\h.wd<=5000
 ht:1<=h.ht/\h.ht<=5000
 ch:Pm.chan h.kd h.dp≠0
theorem zB {k d:Int}(h:Pm.chan k d≠0):0<=k/\k<=6:=by
 unfold Pm.chan at h;repeat' split at h
 all_goals omega
theorem xY {h:Hd}(hf:jH h):jD (aT h)=h/\ve (aT h)=true:=by
 have hd:=Pm.cK _ _ hf.ch;have hk:=zB hf.ch;obtain⟨w1,w2⟩:=hf.wd;obtain⟨t1,t2⟩:=hf.ht;have e0:aJ (aT h) 0=h.wd:=fe (b:=aT h) (pre:=[]) (post:=four h.ht++[UInt8.ofNat h.dp.toNat,UInt8.ofNat h.kd.toNat,0,0,if h.ps=true then 1 else 0]) (a:=h.wd) rfl (by omega) (by omega);have e4:aJ (aT h) 4=h.ht:=fe (b:=aT h) (pre:=four h.wd) (post:=[UInt8.ofNat h.dp.toNat,UInt8.ofNat h.kd.toNat,0,0,if h.ps=true then 1 else 0]) (a:=h.ht) rfl (by omega) (by omega);have e8:(af (aT h) 8:Int)=h.dp:=vx (x:=h.dp) (by omega) (by omega);have e9:(af (aT h) 9:Int)=h.kd:=vx (x:=h.kd) (by omega) (by omega);have e10:af (aT h) 10=0:=rfl;have e11:af (aT h) 11=0:=rfl
 have e12:af (aT h) 12=if h.ps=true then 1 else 0:=by
  show (if h.ps=true then (1:UInt8) else 0).toNat=_;split<;>rfl
 have es:(aT h).size=13:=rfl;constructor
 ·unfold jD;rw[e0,e4,e8,e9,e12];obtain⟨a,b,c,d,p⟩:=h;cases p<;>rfl
 ·unfold ve;rw[es,e0,e4,e8,e9,e10,e11,e12,(Pm.dE h.wd).2 hf.wd,(Pm.dE h.ht).2 hf.ht];have:(Pm.chan h.kd h.dp==0)=false:=by simpa using hf.ch
  rw[this];cases h.ps<;>rfl
theorem Mr {p:List Int}(h:Pm.eD p 256=true):zm (cq p)=p:=by
 unfold Pm.eD at h;rw[List.all_eq_true]at h;have hs:(cq p).size=p.length:=by rw[<-ba];simp[cq]
 unfold zm;refine ace (by rw[abZ,List.length_range,hs]) fun i h1 h2=>?_;rw[acI,acQ];have hx:=h _ (abl h2);simp only[aaQ,aaP]at hx
 have e:af (cq p) i=(UInt8.ofNat (p[i]).toNat).toNat:=by
  unfold af cq;rw[aad];simp only[abQ,aaj h2,Option.map_some,adn]
 rw[e,vx hx.1 hx.2]
theorem my (p:List Int):(cq p).size=p.length:=by rw[<-ba];simp[cq]
theorem bk (l m:List UInt8):iV (aE l) m=(l==m):=by unfold iV;rw[ByteArray.toList_eq]
theorem lj:∀(ds:List ByteArray) (a:ByteArray) (d:List ByteArray) (p:Option ByteArray),(d=[]\/iV a cj=true)->cE a d p (ds.map fun x=>⟨aE cj,x⟩)=some (d++ds,p)
 | [],a,d,p,_=>by rw[List.map_nil,cE,abm]
 | x::r,a,d,p,h=>by
  rw[acR,cE,aai,lj r _ _ _ (.inr (by rw[bk];rfl))]
  ·rw[aar];rfl
  ·rw[bk];rcases h with rfl|h
   ·rfl
   ·rw[h,Bool.or_true];rfl
theorem Ep (h:Hd)(aq:List Int)(ds:List ByteArray)(hne:ds≠[]):cA (aN h aq ds)=some ⟨aT h,if h.kd=3 then some (cq aq) else none,eO ds⟩:=by
 obtain⟨M,hM⟩:∃M,M=(if h.kd=3 then [(⟨aE cM,cq aq⟩:Ch)] else [])++ds.map (fun d=>⟨aE cj,d⟩):=⟨_,rfl⟩
 have hL:aN h aq ds=⟨aE bX,aT h⟩::(M++[⟨aE jW,⟨#[]⟩⟩]):=by rw[aN,hM,aar]
 have hlen:(aN h aq ds).length=M.length+2:=by rw[hL];simp
 have hf:fX (aN h aq ds)=⟨aE bX,aT h⟩:=by rw[hL];rfl
 have hl:jC (aN h aq ds)=⟨aE jW,⟨#[]⟩⟩:=by
  unfold jC;rw[hlen,hL,show M.length+2-1=M.length+1 by omega,List.getD_cons_succ,aad,aax (aaf _),Nat.sub_self];rfl
 have hm:dN (aN h aq ds)=M:=by
  unfold dN;rw[hlen,hL,show M.length+2-1=M.length+1 by omega,List.take_succ_cons,List.drop_succ_cons,ac6,List.take_left]
 have he:iW (aN h aq ds)=true:=by
  unfold iW;rw[hf,hl,hlen,abh (by omega),bk,bk,ByteArray.toList_eq];rfl
 have ho:cE (aE bX) [] none M=some (ds,if h.kd=3 then some (cq aq) else none):=by
  rw[hM];split
  ·rw[abv,aa9,cE,aag (by rw[bk];decide),aai (by rw[bk];rfl),lj _ _ _ _ (.inl rfl),aa9]
  ·rw[aa9,lj _ _ _ _ (.inl rfl),aa9]
 unfold cA;rw[aai he,hf,hm,ho];dsimp only;rw[aag (by cases ds with|nil=>exact absurd rfl hne|cons x r=>exact Bool.false_ne_true)]
def dr (h:Hd)(aq:List Int)(ds:List ByteArray):List UInt8:=mO++aC (aN h aq ds)
theorem ip {h:Hd}{aq:List Int}{ds:List ByteArray}(hp:aq.length<=2147483647)(hd:∀d∈ds,d.size<=2147483647):∀c∈aN h aq ds,k8 c:=by
 intro c hc;unfold aN at hc;rcases ab5.1 hc with rfl|hc
 ·exact⟨rfl,rfl,by show (aT h).size<=_;rw[show (aT h).size=13 from rfl];omega⟩
 ·rcases abw.1 hc with hc|hc
  ·split at hc
   ·rcases abR.1 hc with rfl;exact⟨rfl,rfl,by show (cq aq).size<=_;rw[my];exact hp⟩
   ·cases hc
  ·rcases abw.1 hc with hc|hc
   ·obtain⟨d,hm,rfl⟩:=adj.1 hc;exact⟨rfl,rfl,hd d hm⟩
   ·rcases abR.1 hc with rfl;exact⟨rfl,rfl,aao _⟩
theorem pL {h:Hd}{aq:List Int}{ds:List ByteArray}{b:ByteArray}(hb:b.data.toList=dr h aq ds)(hp:aq.length<=2147483647)(hd:∀d∈ds,d.size<=2147483647)(hne:ds≠[]): gy b=true/\aM (b.extract 8 b.size)=some (aN h aq ds)/\partsOf b=.ok ⟨aT h,if h.kd=3 then some (cq aq) else none,eO ds⟩:=by
 obtain⟨h1,h2⟩:=qu (b:=b) (R:=⟨(aC (aN h aq ds)).toArray⟩) hb;have h3:aM (b.extract 8 b.size)=some (aN h aq ds):=by rw[h2];exact vw (ip hp hd) rfl
 exact⟨h1,h3,va h1 h3 (Ep h aq ds hne)⟩
structure du (h:Hd) (aq S:List Int):Prop where
 hd:jH h
 raw:bJ h<=4194304
 Ms:Pm.qe h.kd (Pm.two h.dp) aq=true
 Vg:Pm.uN h.wd h.ht h.kd (Pm.chan h.kd h.dp) (Pm.two h.dp) aq.length S=true
theorem BN (h:Hd)(aq S:List Int):Pm.check h.wd h.ht h.kd h.dp h.ps aq S=0↔du h aq S:=by
 unfold Pm.check;constructor
 ·intro e;split at e
  ·omega
  ·rename_i h1;split at e
   ·omega
   ·rename_i h2;have h2:=Classical.not_not.1 h2;split at e
    ·omega
    ·rename_i h3;split at e
     ·omega
     ·rename_i h4;split at e
      ·omega
      ·rename_i h5;exact⟨⟨(Pm.dE _).1 h2.1,(Pm.dE _).1 h2.2,h1⟩,Int.not_lt.1 h3,by simpa using h4,by simpa using h5⟩
 ·intro f;rw[aag f.hd.ch,aag (Classical.not_not.2 ⟨(Pm.dE _).2 f.hd.wd,(Pm.dE _).2 f.hd.ht⟩),aag (show ¬4194304<Pm.raw h.wd h.ht (Pm.chan h.kd h.dp*h.dp) h.ps from Int.not_lt.2 f.raw),aag (by rw[f.Ms];decide),aag (by rw[f.Vg];decide)]
theorem BO {k d:Int}(h:Pm.chan k d≠0):Pm.sj d.toNat:=by
 unfold Pm.chan at h;unfold Pm.sj;repeat' split at h
 all_goals omega
theorem du.fits {h:Hd}{aq S:List Int}(f:du h aq S):Pm.Fits (gQ h) S:=by
 have hs:=f.Vg;unfold Pm.uN at hs;rw[aaQ,aaP]at hs;obtain⟨h1,h2⟩:=hs;have hw:=f.hd.wd;have hh:=f.hd.ht;have hd:=Pm.cK _ _ f.hd.ch;have hc:=Pm.cU h.kd h.dp;refine⟨?_,BO f.hd.ch,?_⟩
 ·have e:((gQ h).W*(gQ h).H*(gQ h).n:Nat)=(h.wd*h.ht*Pm.chan h.kd h.dp).toNat:=by
   show h.wd.toNat*h.ht.toNat*(Pm.chan h.kd h.dp).toNat=_;have e1:(h.wd.toNat:Int)=h.wd:=by omega
   have e2:(h.ht.toNat:Int)=h.ht:=by omega
   have e3:((Pm.chan h.kd h.dp).toNat:Int)=Pm.chan h.kd h.dp:=by omega
   generalize h.wd.toNat=a at *;generalize h.ht.toNat=b at *;generalize (Pm.chan h.kd h.dp).toNat=c at *;rw[<-e1,<-e2,<-e3,<-Int.natCast_mul,<-Int.natCast_mul,ada]
  rw[e];omega
 ·have e:(2:Int)^(gQ h).dp=Pm.two h.dp:=rfl;rw[e];intro y hy;split at h2
  ·rename_i h3;unfold Pm.eD at h2;rw[List.all_eq_true]at h2;have hy2:=h2 y hy;simp only[aaQ,aaP]at hy2;have hp:=f.Ms;unfold Pm.qe at hp;rw[aai h3]at hp;simp only[aaQ,aaP]at hp;omega
  ·unfold Pm.eD at h2;rw[List.all_eq_true]at h2;have hy2:=h2 y hy;simp only[aaQ,aaP]at hy2;exact hy2
theorem Mt {h:Hd}{aq S:List Int}(f:du h aq S){fl:Nat}{T X b:ByteArray}(hT:Pm.Written (gQ h) S (af T) fl h.ps)(hz:(T.size:Int)=bJ h)(h0:dx X (bJ h)=0)(h1:js X (bJ h)=T)(hp:partsOf b=.ok ⟨aT h,if h.kd=3 then some (cq aq) else none,X⟩)(limit:Int)(hl:bJ h<=limit):cJ b limit=.ok ⟨h,aq,S⟩:=by
 have hpf:=f.Ms;unfold Pm.qe at hpf;have hd':=Pm.cK _ _ f.hd.ch;obtain⟨k1,k2⟩:=xY f.hd
 have aco:jZ h.kd (if h.kd=3 then some (cq aq) else none)=aq:=by
  unfold jZ;split
  ·rename_i h3;rw[aai h3]at hpf;rw[aaQ]at hpf;exact Mr hpf.2
  ·rename_i h3;rw[aag h3,aaP]at hpf;exact (aaL (by omega)).symm
 have hpo:gP h.kd h.dp (if h.kd=3 then some (cq aq) else none)=true:=by
  by_cases h3:h.kd=3
  ·rw[aai h3]at hpf ⊢;simp only[aaQ,aaP]at hpf;unfold gP;dsimp only;rw[aag (by omega),aai h3,my];unfold fH;rw[abh hpf.1.1.1,abh hpf.1.1.2,abh hpf.1.2];rfl
  ·rw[aag h3];unfold gP;have:(h.kd==3)=false:=by simpa using h3
   rw[this];rfl
 have hn:0<(gQ h).n:=by
  have:=Pm.cU h.kd h.dp;have:=f.hd.ch;show 0<(Pm.chan h.kd h.dp).toNat;omega
 have hw:=f.hd.wd
 have hpi:Pm.mf (gQ h) (af T) h.ps=some S :=
  Pm.ze f.fits hn (by show 0<h.dp.toNat;omega) (by show 0<h.wd.toNat;omega) hT
 rw[vm limit hp];unfold partOf;dsimp only;rw[k1,k2,aag (by decide),aag (by have:=f.raw;omega),hpo,aag (by decide)];unfold rx;dsimp only;rw[h0,h1,aag (by omega),aag (by omega)];unfold pI;rw[hpi];dsimp only;rw[aco,aag];rintro⟨h3,h4⟩;have hs:=f.Vg;unfold Pm.uN at hs;rw[aai h3,h4,Bool.and_false]at hs;cases hs
theorem du.few {h:Hd}{aq S:List Int}(f:du h aq S):aq.length<=196608:=by
 have hpf:=f.Ms;unfold Pm.qe at hpf;have hd':=Pm.cK _ _ f.hd.ch;have hr:=Pm.ia _ hd';split at hpf
 ·simp only[aaQ,aaP]at hpf;omega
 ·rw[aaP]at hpf;omega
theorem Mu {h:Hd}{aq S:List Int}(f:du h aq S){fl:Nat}{T X b:ByteArray}{ds:List ByteArray}(hT:Pm.Written (gQ h) S (af T) fl h.ps)(hz:(T.size:Int)=bJ h)(h0:dx X (bJ h)=0)(h1:js X (bJ h)=T)(hX:eO ds=X)(hb:b.data.toList=dr h aq ds)(hd:∀d∈ds,d.size<=2147483647)(hne:ds≠[])(limit:Int)(hl:bJ h<=limit):cJ b limit=.ok ⟨h,aq,S⟩:=by
 obtain⟨_,_,hp⟩:=pL hb (by have:=f.few;omega) hd hne;rw[hX]at hp;exact Mt f hT hz h0 h1 hp limit hl
theorem II {h:Hd}(hf:jH h){p:Option ByteArray}{X b:ByteArray}(hp:partsOf b=.ok ⟨aT h,p,X⟩)(limit:Int)(hl:limit<bJ h):cJ b limit=.error 7:=by
 obtain⟨k1,k2⟩:=xY hf;rw[vm limit hp];unfold partOf;dsimp only;rw[k1,k2,aag (by decide),aai (.inl hl)]
theorem vy:∀(L:List Ch) (k:Nat) (b:ByteArray),(∀c∈L,k8 c)->k<(aC L).length->b.data.toList=(aC L).take k->aM b=none\/∃i,i<L.length/\aM b=some (L.take i)
 | [],k,b,_,hk,_=>absurd hk (adk _)
 | c::r,k,b,h,hk,hb=>by
  have hc:=h c abo;have hlen:=dQ hc;have hcs:aC (c::r)=fg c++aC r:=rfl;have hbs:b.size=k:=by rw[<-ba,hb,aaX];omega
  rcases Nat.eq_zero_or_pos k with h0|h0
  ·exact .inr ⟨0,by simp,by rw[pB (by omega)];rfl⟩
  ·rcases aaY k (fg c).length with h1|h1
   ·left
    refine pC (by omega) ?_;rw[Bool.eq_false_iff];intro hok;obtain⟨z1,z2,_⟩:=ot hok
    have hb1:b.data.toList=[]++(four (c.data.size:Int)++((c.name.data.toList++(c.data.data.toList++four (fF (c.name++c.data)))).take (k-4))):=by
     rw[hb,hcs,List.take_append_of_le_length (by omega),fg,List.take_append,aa5 (show (four (c.data.size:Int)).length<=k by show 4<=k;omega)];rfl
    have hz:=hc.size;have e1:=fe (pre:=[]) (a:=(c.data.size:Int)) hb1 (by omega) (by omega);rw[acm,nO b]at e1;have e2:dY b=c.data.size:=Int.ofNat.inj e1;omega
   ·have hb2:b.data.toList=fg c++(⟨((aC r).take (k-(fg c).length)).toArray⟩:ByteArray).data.toList:=by
     rw[hb,hcs,List.take_append,aa5 h1]
    obtain⟨g0,g1,g2,g3⟩:=vu hc hb2;rw[hcs,aae]at hk;rcases vy r (k-(fg c).length) ⟨((aC r).take (k-(fg c).length)).toArray⟩ (fun x hx=>h x (ab3 _ hx)) (by omega) rfl with hn|⟨i,hi,he⟩
    ·left
     rw[jV g0 g1,g3,hn];rfl
    ·right
     refine⟨i+1,by rw[aaw];omega,?_⟩;rw[jV g0 g1,g2,g3,he];rfl
theorem Mv {L:List Ch}(h:∀c∈L,iV c.name jW=false):cA L=none:=by
 unfold cA;rw[aag];unfold iW;simp only[aaQ,aaP];rintro⟨h2,_,h3,_⟩
 have hm:jC L∈L:=by
  unfold jC;rw[aad,aaj (by omega)];exact abl _
 rw[h _ hm]at h3;cases h3
theorem Er (h:Hd)(aq:List Int)(ds:List ByteArray):∃I,aN h aq ds=I++[⟨aE jW,⟨#[]⟩⟩]/\∀c∈I,iV c.name jW=false:=by
 refine⟨⟨aE bX,aT h⟩::((if h.kd=3 then [⟨aE cM,cq aq⟩] else [])++ds.map (fun d=>⟨aE cj,d⟩)),by rw[aN,abv,aar],fun c hc=>?_⟩;rcases ab5.1 hc with rfl|hc
 ·rw[bk];rfl
 ·rcases abw.1 hc with hc|hc
  ·split at hc
   ·rcases abR.1 hc with rfl;rw[bk];rfl
   ·cases hc
  ·obtain⟨d,_,rfl⟩:=adj.1 hc;rw[bk];rfl
theorem Yj {h:Hd}{aq:List Int}{ds:List ByteArray}{b:ByteArray}{k:Nat}(hp:aq.length<=2147483647)(hd:∀d∈ds,d.size<=2147483647)(hk:k<(dr h aq ds).length)(hb:b.data.toList=(dr h aq ds).take k)(limit:Int): ∃c:Int,c≠0/\cJ b limit=.error c:=by
 have hbs:b.size=k:=by rw[<-ba,hb,aaX];omega
 have hfl:(dr h aq ds).length=8+(aC (aN h aq ds)).length:=by unfold dr;rw[aae];rfl
 rcases aaY k 8 with h8|h8
 ·refine⟨10,by decide,ij (rr ?_)⟩;unfold gy;rw[abT (by omega),abN]
 ·have hb2:b.data.toList=mO++(⟨((aC (aN h aq ds)).take (k-8)).toArray⟩:ByteArray).data.toList:=by
   rw[hb,dr,List.take_append,aa5 (show mO.length<=k from h8)];rfl
  obtain⟨s1,s2⟩:=qu hb2;rcases vy (aN h aq ds) (k-8) ⟨((aC (aN h aq ds)).take (k-8)).toArray⟩ (ip hp hd) (by omega) rfl with hn|⟨i,hi,he⟩
  ·exact⟨11,by decide,ij (ru s1 (by rw[s2];exact hn))⟩
  ·refine⟨12,by decide,ij (u9 s1 (by rw[s2];exact he) (Mv fun c hc=>?_))⟩;obtain⟨I,hI,hno⟩:=Er h aq ds;rw[hI,aae,ab4]at hi;rw[hI,List.take_append_of_le_length (by omega)]at hc;exact hno c (ac5 hc)
structure wl (c:Ch):Prop where
 nice:k8 c
 data:iV c.name cj=false
 aq:iV c.name cM=false
theorem rB {c:Ch}(h:wl c)(hc:gU (af c.name 0)=false)(a:ByteArray)(d:List ByteArray)(p:Option ByteArray)(r:List Ch):cE a d p (c::r)=cE c.name d p r:=by
 rw[cE,h.data,h.aq,hc,abN,abN,abN,aag (by decide),aag (by decide),aag (by decide)]
theorem vA {c:Ch}(h:wl c)(hc:gU (af c.name 0)=true)(a:ByteArray)(d:List ByteArray)(p:Option ByteArray)(r:List Ch):cE a d p (c::r)=none:=by
 rw[cE,h.data,h.aq,hc,abN,abN,abN,aag (by decide),aag (by decide),aai rfl]
theorem rC:∀(ds:List ByteArray) (a:ByteArray) (d:List ByteArray) (p:Option ByteArray) (r:List Ch),ds≠[]->(d=[]\/iV a cj=true)->cE a d p ((ds.map fun x=>⟨aE cj,x⟩)++r)=cE (aE cj) (d++ds) p r
 | [],_,_,_,_,hne,_=>absurd rfl hne
 | [x],a,d,p,r,_,h=>by
  rw[acR,List.map_nil,abv,aa9,cE,aai];rw[bk];rcases h with rfl|h
  ·rfl
  ·rw[h,Bool.or_true];rfl
 | x::y::t,a,d,p,r,_,h=>by
  rw[acR,abv,cE,aai,rC (y::t) _ _ _ r (by simp) (.inr (by rw[bk];rfl))]
  ·rw[aar];rfl
  ·rw[bk];rcases h with rfl|h
   ·rfl
   ·rw[h,Bool.or_true];rfl
abbrev rD (h:Hd)(aq:List Int):List Ch:=if h.kd=3 then [⟨aE cM,cq aq⟩] else []
abbrev eG (ds:List ByteArray):List Ch:=ds.map fun d=>⟨aE cj,d⟩
abbrev sQ:List Ch:=[⟨aE jW,⟨#[]⟩⟩]
inductive mP (h:Hd) (aq:List Int) (ds:List ByteArray):List Ch->List Ch->Prop
 | head:mP h aq ds [⟨aE bX,aT h⟩] (rD h aq++(eG ds++sQ))
 | aq (h3:h.kd=3):mP h aq ds [⟨aE bX,aT h⟩,⟨aE cM,cq aq⟩] (eG ds++sQ)
 | last:mP h aq ds (⟨aE bX,aT h⟩::(rD h aq++eG ds)) sQ
theorem mP.all {h:Hd}{aq:List Int}{ds:List ByteArray}{A B:List Ch}(s:mP h aq ds A B):A++B=aN h aq ds:=by
 cases s with
 | head=>rfl
 | aq h3=>unfold aN;rw[aai h3];rfl
 | last=>unfold aN;rw[abv,aar]
theorem BP {h:Hd}{M:List Ch}:cA (⟨aE bX,aT h⟩::(M++sQ))=match cE (aE bX) [] none M with|some (d,p)=>if d.isEmpty=true then none else some ⟨aT h,p,eO d⟩|none=>none:=by
 obtain⟨L,hL⟩:∃L,L=(⟨aE bX,aT h⟩:Ch)::(M++sQ):=⟨_,rfl⟩
 have hlen:L.length=M.length+2:=by rw[hL];simp
 have hf:fX L=⟨aE bX,aT h⟩:=by rw[hL];rfl
 have hl:jC L=⟨aE jW,⟨#[]⟩⟩:=by
  unfold jC;rw[hlen,hL,show M.length+2-1=M.length+1 by omega,List.getD_cons_succ,aad,aax (aaf _),Nat.sub_self];rfl
 have hm:dN L=M:=by
  unfold dN;rw[hlen,hL,show M.length+2-1=M.length+1 by omega,List.take_succ_cons,List.drop_succ_cons,ac6,List.take_left]
 have he:iW L=true:=by
  unfold iW;rw[hf,hl,hlen,abh (by omega),bk,bk,ByteArray.toList_eq];rfl
 rw[<-hL];unfold cA;rw[aai he,hf,hm];rfl
theorem mP.mid {h:Hd}{aq:List Int}{ds:List ByteArray}{A B:List Ch}(s:mP h aq ds A B)(c:Ch):∃M,A++c::B=⟨aE bX,aT h⟩::(M++sQ) /\ (M=c::(rD h aq++eG ds)\/(h.kd=3/\M=⟨aE cM,cq aq⟩::c::eG ds)\/M=rD h aq++(eG ds++[c])):=by
 cases s with
 | head=>exact⟨_,by simp only[abv,aa9,aar],.inl rfl⟩
 | aq h3=>exact⟨_,by simp only[abv,aa9],.inr (.inl ⟨h3,rfl⟩)⟩
 | last=>exact⟨_,by simp only[abv,aa9,aar],.inr (.inr rfl)⟩
theorem vB (h:Hd)(aq:List Int)(a:ByteArray)(r:List Ch):∃a',cE a [] none (rD h aq++r)=cE a' [] (if h.kd=3 then some (cq aq) else none) r:=by
 unfold rD;split
 ·refine⟨aE cM,?_⟩;rw[abv,aa9,cE,aag (by rw[bk,show (cM==cj)=false from rfl,abN];decide),aai (by rw[bk];rfl)]
 ·exact⟨a,rfl⟩
theorem Es {h:Hd}{aq:List Int}{ds:List ByteArray}{A B:List Ch}(s:mP h aq ds A B)(hne:ds≠[]){c:Ch}(hs:wl c)(hc:gU (af c.name 0)=false): cA (A++c::B)=some ⟨aT h,if h.kd=3 then some (cq aq) else none,eO ds⟩:=by
 obtain⟨M,e,hM⟩:=s.mid c;have hemp:ds.isEmpty=false:=by cases ds with|nil=>exact absurd rfl hne|cons x r=>rfl
 have ho:cE (aE bX) [] none M=some (ds,if h.kd=3 then some (cq aq) else none):=by
  rcases hM with rfl|⟨h3,rfl⟩|rfl
  ·rw[rB hs hc];obtain⟨a',ha⟩:=vB h aq c.name (eG ds);rw[ha,lj _ _ _ _ (.inl rfl),aa9]
  ·rw[cE,aag (by rw[bk];decide),aai (by rw[bk];rfl),rB hs hc,lj _ _ _ _ (.inl rfl),aa9,aai h3]
  ·obtain⟨a',ha⟩:=vB h aq (aE bX) (eG ds++[c]);rw[ha,rC ds _ _ _ _ hne (.inl rfl),rB hs hc,cE,aa9]
 rw[e,BP,ho];dsimp only;rw[hemp,aag (by decide)]
theorem Et {h:Hd}{aq:List Int}{ds:List ByteArray}{A B:List Ch}(s:mP h aq ds A B)(hne:ds≠[]){c:Ch}(hs:wl c)(hc:gU (af c.name 0)=true):cA (A++c::B)=none:=by
 obtain⟨M,e,hM⟩:=s.mid c
 have ho:cE (aE bX) [] none M=none:=by
  rcases hM with rfl|⟨h3,rfl⟩|rfl
  ·rw[vA hs hc]
  ·rw[cE,aag (by rw[bk];decide),aai (by rw[bk];rfl),vA hs hc]
  ·obtain⟨a',ha⟩:=vB h aq (aE bX) (eG ds++[c]);rw[ha,rC ds _ _ _ _ hne (.inl rfl),vA hs hc]
 rw[e,BP,ho]
theorem nY (A B:List Ch):aC (A++B)=aC A++aC B:=by unfold aC;rw[List.flatMap_append]
theorem vC {h:Hd}{aq:List Int}{ds:List ByteArray}{A B:List Ch}(s:mP h aq ds A B)(hp:aq.length<=2147483647)(hd:∀d∈ds,d.size<=2147483647){c:Ch}(hs:wl c){b:ByteArray}(hb:b.data.toList=(mO++aC A)++(fg c++aC B)): gy b=true/\aM (b.extract 8 b.size)=some (A++c::B):=by
 have hn:∀x∈A++c::B,k8 x:=by
  intro x hx;have ha:=ip (h:=h) hp hd;rw[<-s.all]at ha;rcases abw.1 hx with hx|hx
  ·exact ha x (List.mem_append_left _ hx)
  ·rcases ab5.1 hx with rfl|hx
   ·exact hs.nice
   ·exact ha x (List.mem_append_right _ hx)
 obtain⟨h1,h2⟩:=qu (b:=b) (R:=⟨(aC (A++c::B)).toArray⟩) (by
  rw[hb,nY,aar]
  rfl)
 exact⟨h1,by rw[h2];exact vw hn rfl⟩
theorem IJ {h:Hd}{aq:List Int}{ds:List ByteArray}{A B:List Ch}(s:mP h aq ds A B)(hp:aq.length<=2147483647)(hd:∀d∈ds,d.size<=2147483647)(hne:ds≠[]){c:Ch}(hs:wl c)(hc:gU (af c.name 0)=false){b:ByteArray}(hb:b.data.toList=(mO++aC A)++(fg c++aC B)): partsOf b=.ok ⟨aT h,if h.kd=3 then some (cq aq) else none,eO ds⟩:=by
 obtain⟨h1,h2⟩:=vC s hp hd hs hb;exact va h1 h2 (Es s hne hs hc)
theorem IK {h:Hd}{aq:List Int}{ds:List ByteArray}{A B:List Ch}(s:mP h aq ds A B)(hp:aq.length<=2147483647)(hd:∀d∈ds,d.size<=2147483647)(hne:ds≠[]){c:Ch}(hs:wl c)(hc:gU (af c.name 0)=true){b:ByteArray}(hb:b.data.toList=(mO++aC A)++(fg c++aC B))(limit:Int): cJ b limit=.error 12:=by
 obtain⟨h1,h2⟩:=vC s hp hd hs hb;exact ij (u9 h1 h2 (Et s hne hs hc))
end Go.Proofs.YtmfijackgekioabGreatDoor
namespace Go.Proofs.YtmfijackgekioabGreatDoor.Mx
theorem mA {a b c:Nat}(h:a^^^c=b^^^c):a=b:=by
 have:=abY (·^^^c) h;simpa[Nat.xor_assoc]using this
theorem BQ {x:Nat}(h:x<4294967296):(M5 x).testBit 31=decide (x%2=1):=by
 unfold M5;rw[Nat.testBit_xor,Nat.testBit_lt_two_pow (show x/2<2^31 by omega),Bool.false_xor];have:x%2=0\/x%2=1:=by omega
 rcases this with e|e<;>rw[e]<;>decide
theorem Px {x y:Nat}(hx:x<4294967296)(hy:y<4294967296)(h:M5 x=M5 y):x=y:=by
 have h1:=BQ hx;rw[h,BQ hy]at h1
 have e:x%2=y%2:=by
  have:(y%2=1)↔(x%2=1):=by simpa using h1
  omega
 unfold M5 at h;rw[e]at h;have:=mA h;omega
theorem vD:∀(k x y:Nat),x<4294967296->y<4294967296->yi k x=yi k y->x=y
 | 0,_,_,_,_,h=>h
 | k+1,x,y,hx,hy,h=>vD k x y hx hy (Px (jN k x hx) (jN k y hy) h)
theorem qv (c:UInt8):c.toNat<4294967296:=by have:=c.toNat_lt;omega
theorem Gd:∀(l:List UInt8) (x y:Nat),x<4294967296->y<4294967296->reg l x=reg l y->x=y
 | [],_,_,_,_,h=>h
 | c::l,x,y,hx,hy,h=>by
  have hc:=qv c;have e:=Gd l _ _ (jN 8 _ (j7 _ _ hx hc)) (jN 8 _ (j7 _ _ hy hc)) h;exact mA (vD 8 _ _ (j7 _ _ hx hc) (j7 _ _ hy hc) e)
theorem zC:∀(u v:List UInt8) (r:Nat),reg (u++v) r=reg v (reg u r)
 | [],_,_=>rfl
 | _::u,v,_=>zC u v _
theorem Eu (u v:List UInt8)(x y:UInt8)(h:x≠y):mT (u++x::v)≠mT (u++y::v):=by
 intro e;unfold mT at e;rw[zC,zC]at e;have hu:=Jv u 4294967295 (by omega);have e1:=Gd v _ _ (jN 8 _ (j7 _ _ hu (qv x))) (jN 8 _ (j7 _ _ hu (qv y))) e;have e2:=vD 8 _ _ (j7 _ _ hu (qv x)) (j7 _ _ hu (qv y)) e1;rw[Nat.xor_comm _ x.toNat,Nat.xor_comm _ y.toNat]at e2;exact h (UInt8.toNat_inj.1 (mA e2))
end Go.Proofs.YtmfijackgekioabGreatDoor.Mx
namespace Go.Proofs.YtmfijackgekioabGreatDoor
theorem IL {l:List UInt8}{p:Nat}(hp:p<l.length)(y:UInt8):∃u v x,l=u++x::v/\u.length=p/\l.set p y=u++y::v/\l[p]?=some x:=by
 refine⟨l.take p,l.drop (p+1),l[p],?_,?_,?_,aaj hp⟩
 ·rw[List.getElem_cons_drop,acD]
 ·rw[aaX];omega
 ·rw[List.set_eq_take_append_cons_drop,aai hp]
theorem zD {c:Ch}(hc:k8 c){p:Nat}(h4:4<=p)(hp:p<(fg c).length){y:UInt8}(hy:(fg c)[p]?≠some y){b:ByteArray}{R:List UInt8}(hb:b.data.toList=(fg c).set p y++R):b.size≠0/\ky b=false:=by
 have hlen:=dQ hc;have hz:=hc.size;have hnl:=ba c.name;have hdl:=ba c.data;have hn:=hc.name;have hbs:b.size=(fg c).length+R.length:=by rw[<-ba,hb,aae,aaW]
 refine⟨by omega,?_⟩;rw[Bool.eq_false_iff];intro hok;simp only[ky,aaQ,aaP]at hok;obtain⟨_,_,_,_,hcr⟩:=hok
 have hset:(fg c).set p y=four (c.data.size:Int)++(c.name.data.toList++(c.data.data.toList++four (fF (c.name++c.data)))).set (p-4) y:=by
  unfold fg;rw[adg,aag (show ¬p<(four (c.data.size:Int)).length from Nat.not_lt.2 h4)];rfl
 have hb1:b.data.toList=[]++(four (c.data.size:Int)++((c.name.data.toList++(c.data.data.toList++four (fF (c.name++c.data)))).set (p-4) y++R)):=by
  rw[hb,hset,aar];rfl
 have hlb:dY b=c.data.size:=by
  have e1:=fe (pre:=[]) (a:=(c.data.size:Int)) hb1 (by omega) (by omega);rw[acm,nO b]at e1;exact Int.ofNat.inj e1
 rw[hlb]at hcr;obtain⟨N,hN⟩:∃N,N=c.name.data.toList++c.data.data.toList:=⟨_,rfl⟩
 have hNl:N.length=4+c.data.size:=by rw[hN,aae];omega
 have hch:fg c=four (c.data.size:Int)++(N++four (fF (c.name++c.data))):=by rw[hN,fg,aar]
 have hcN:(c.name++c.data).data.toList=N:=by rw[je,hN]
 have f4:∀a,(four a).length=4:=fun _=>rfl;rcases aaY p (8+c.data.size) with h8|h8
 ·obtain⟨u,v,x,e1,e2,e3,e4⟩:=IL (l:=N) (p:=p-4) (by omega) y
  have iF:(fg c).set p y=four (c.data.size:Int)++(N.set (p-4) y++four (fF (c.name++c.data))):=by
   rw[hch,adg,aag (by rw[f4];omega),adg,f4,aai (by omega)]
  have hpx:(fg c)[p]?=some x:=by
   rw[hch,aax (by rw[f4];exact h4),f4,aaZ (by omega)];exact e4
  have hxy:x≠y:=fun e=>hy (by rw[hpx,e])
  have hb2:b.data.toList=(four (c.data.size:Int)++N.set (p-4) y)++(four (fF (c.name++c.data))++R):=by
   rw[hb,iF];simp only[aar]
  have l2:(four (c.data.size:Int)++N.set (p-4) y).length=8+c.data.size:=by rw[aae,aaW,f4];omega
  have hr:=im (c.name++c.data);have g1:=fe hb2 hr.1 hr.2;rw[l2]at g1
  have hx:(b.extract 4 (8+c.data.size)).data.toList=N.set (p-4) y:=by
   rw[cF,hb2,List.take_left' l2];exact List.drop_left' rfl
  rw[g1]at hcr;unfold fF at hcr;rw[hx,hcN,e3]at hcr;have hne:=Mx.Eu u v x y hxy;rw[<-e1]at hne;omega
 ·have iF:(fg c).set p y=four (c.data.size:Int)++(N++(four (fF (c.name++c.data))).set (p-4-(4+c.data.size)) y):=by
   rw[hch,adg,aag (by rw[f4];omega),adg,f4,aag (by omega),hNl]
  have hb2:b.data.toList=(four (c.data.size:Int)++N)++((four (fF (c.name++c.data))).set (p-4-(4+c.data.size)) y++R):=by
   rw[hb,iF];simp only[aar]
  have l2:(four (c.data.size:Int)++N).length=8+c.data.size:=by rw[aae,f4];omega
  have hx:b.extract 4 (8+c.data.size)=c.name++c.data:=by
   refine ba_eq ?_;rw[cF,hb2,List.take_left' l2,hcN];exact List.drop_left' rfl
  rw[hx]at hcr;have hr:=im (c.name++c.data);obtain⟨q,hq⟩:∃q,q=p-4-(4+c.data.size):=⟨_,rfl⟩
  rw[<-hq]at hb2;have hq4:q<4:=by omega
  have hF:aJ b (8+c.data.size)=oG ((four (fF (c.name++c.data))).set q y):=by
   have e:∀i,i<4->af b (8+c.data.size+i)=(((four (fF (c.name++c.data))).set q y).getD i 0).toNat:=fun i hi=>by
    have:=pK hb2 i;rw[l2]at this;rw[this,aad,aaZ (by rw[aaW,f4];exact hi),aad]
   unfold aJ oG;have e0:=e 0 (by omega);rw[acq]at e0;rw[e0,e 1 (by omega),e 2 (by omega),e 3 (by omega)]
  rw[hF]at hcr;have hT:=(tQ _ (by rw[aaW];exact f4 _) _ hr.1 hr.2).1 hcr
  have hget:(four (fF (c.name++c.data)))[q]?=some y:=by
   rw[<-hT,ac9 (by rw[f4];exact hq4)]
  refine hy ?_;rw[hch,aax (by rw[f4];exact h4),f4,aax (by omega),hNl,<-hq];exact hget
theorem BR:∀(L:List Ch) (i:Nat),i<(aC L).length->∃A c B p,L=A++c::B/\i=(aC A).length+p/\p<(fg c).length
 | [],i,h=>absurd h (adk _)
 | c::r,i,h=>by
  have hcs:aC (c::r)=fg c++aC r:=rfl;rcases aaY i (fg c).length with h1|h1
  ·exact⟨[],c,r,i,rfl,(aaR _).symm,h1⟩
  ·rw[hcs,aae]at h;obtain⟨A,d,B,p,e1,e2,e3⟩:=BR r (i-(fg c).length) (by omega);refine⟨c::A,d,B,p,by rw[e1];rfl,?_,e3⟩;show i=(fg c++aC A).length+p;rw[aae];omega
theorem BS {h:Hd}{aq:List Int}{ds:List ByteArray}{b:ByteArray}{i:Nat}{y:UInt8}(hp:aq.length<=2147483647)(hd:∀d∈ds,d.size<=2147483647)(hi:i<(dr h aq ds).length)(hy:(dr h aq ds)[i]?≠some y)(hb:b.data.toList=(dr h aq ds).set i y)(hnot:∀A c B,aN h aq ds=A++c::B->¬(8+(aC A).length<=i/\i<8+(aC A).length+4))(limit:Int):cJ b limit=.error (if i<8 then 10 else 11):=by
 have hfl:dr h aq ds=mO++aC (aN h aq ds):=rfl;have s8:mO.length=8:=rfl;rcases aaY i 8 with h8|h8
 ·rw[aai h8];refine ij (rr ?_);rw[Bool.eq_false_iff];intro hs;simp only[gy,aaQ,aaP,beq_iff_eq]at hs;have h2:=hs.2;rw[ByteArray.toList_eq,cF,hb,hfl,adg,aai (by rw[s8];exact h8),List.take_left' (by rw[aaW];rfl),ac6]at h2;refine hy ?_;rw[hfl,aaZ (by rw[s8];exact h8)];have:(mO.set i y)[i]?=some y:=ac9 (by rw[s8];exact h8);rw[h2]at this;exact this
 ·rw[aag (by omega)];rw[hfl,aae,s8]at hi;obtain⟨A,c,B,p,e1,e2,e3⟩:=BR (aN h aq ds) (i-8) (by omega);have hpn:=hnot A c B e1;have Q8:=ip (h:=h) hp hd
  have hbb:(dr h aq ds).set i y=mO++(aC A++((fg c).set p y++aC B)):=by
   rw[hfl,adg,aag (by rw[s8];omega),s8,e1,nY,adg,aag (by omega),show i-8-(aC A).length=p by omega];show _++(_++(fg c++aC B).set p y)=_;rw[adg,aai e3]
  have WZ:(fg c)[p]?≠some y:=fun e=>hy (by
   rw[hfl,aax (by rw[s8];exact h8),s8,e1,nY,aax (by omega),show i-8-(aC A).length=p by omega];show (fg c++aC B)[p]?=_;rw[aaZ e3]
   exact e)
  obtain⟨s1,s2⟩:=qu (b:=b) (R:=⟨(aC A++((fg c).set p y++aC B)).toArray⟩) (by rw[hb,hbb]);refine ij (ru s1 ?_);rw[s2,nW A _ ⟨((fg c).set p y++aC B).toArray⟩ (fun x hx=>Q8 x (by rw[e1];exact List.mem_append_left _ hx)) rfl];obtain⟨g0,g1⟩:=zD (Q8 c (by rw[e1];simp)) (p:=p) (by omega) e3 WZ (b:=⟨((fg c).set p y++aC B).toArray⟩) (R:=aC B) rfl;rw[pC g0 g1];rfl
end Go.Proofs.YtmfijackgekioabGreatDoor
