import Derived.Test.YtmfijackgekioabGreatDoorQ32
import Derived.Test.YtmfijackgekioabGreatDoorQ33
namespace Go.Proofs.YtmfijackgekioabGreatDoor
def Xe (h:Hd):List UInt8:=four h.wd++(four h.ht++[UInt8.ofNat h.dp.toNat,UInt8.ofNat h.kd.toNat,0,0,if h.ps=true then 1 else 0])
def aY (h:Hd):ByteArray:=⟨(Xe h).toArray⟩
def ct (p:List Int):ByteArray:=⟨(p.map fun x=>UInt8.ofNat x.toNat).toArray⟩
abbrev aE (l:List UInt8):ByteArray:=⟨l.toArray⟩
def bj (h:Hd)(aq:List Int)(ds:List ByteArray):List Ch :=
 ⟨aE cI,aY h⟩::((if h.kd=3 then [⟨aE cP,ct aq⟩] else [])++(ds.map (fun d=>⟨aE cJ,d⟩)++[⟨aE nD,⟨#[]⟩⟩]))
theorem uS {x:Int}(h0:0<=x)(h1:x<256):((UInt8.ofNat x.toNat).toNat:Int)=x:=by
 rw[UInt8.toNat_ofNat'];have:x.toNat%2^8=x.toNat:=abE (by omega);rw[this];omega
structure ma (h:Hd):Prop where
 wd:1<=h.wd/\h.wd<=5000
 ht:1<=h.ht/\h.ht<=5000
 ch:Pm.chan h.kd h.dp≠0
theorem yX {k d:Int}(h:Pm.chan k d≠0):0<=k/\k<=6:=by
 unfold Pm.chan at h;repeat' split at h
 all_goals omega
theorem Hz {h:Hd}(hf:ma h):jr (aY h)=h/\uK (aY h)=true:=by
 have hd:=Pm.cF _ _ hf.ch;have hk:=yX hf.ch;obtain⟨w1,w2⟩:=hf.wd;obtain⟨t1,t2⟩:=hf.ht;have e0:aK (aY h) 0=h.wd:=ju (b:=aY h) (pre:=[]) (post:=four h.ht++[UInt8.ofNat h.dp.toNat,UInt8.ofNat h.kd.toNat,0,0,if h.ps=true then 1 else 0]) (a:=h.wd) rfl (by omega) (by omega);have e4:aK (aY h) 4=h.ht:=ju (b:=aY h) (pre:=four h.wd) (post:=[UInt8.ofNat h.dp.toNat,UInt8.ofNat h.kd.toNat,0,0,if h.ps=true then 1 else 0]) (a:=h.ht) rfl (by omega) (by omega);have e8:(af (aY h) 8:Int)=h.dp:=uS (x:=h.dp) (by omega) (by omega);have e9:(af (aY h) 9:Int)=h.kd:=uS (x:=h.kd) (by omega) (by omega);have e10:af (aY h) 10=0:=rfl;have e11:af (aY h) 11=0:=rfl
 have e12:af (aY h) 12=if h.ps=true then 1 else 0:=by
  show (if h.ps=true then (1:UInt8) else 0).toNat=_;split<;>rfl
 have es:(aY h).size=13:=rfl;constructor
 ·unfold jr;rw[e0,e4,e8,e9,e12];obtain⟨a,b,c,d,p⟩:=h;cases p<;>rfl
 ·unfold uK;rw[es,e0,e4,e8,e9,e10,e11,e12,(Pm.dE h.wd).2 hf.wd,(Pm.dE h.ht).2 hf.ht];have:(Pm.chan h.kd h.dp==0)=false:=by simpa using hf.ch
  rw[this];cases h.ps<;>rfl
theorem LS {p:List Int}(h:Pm.eu p 256=true):yM (ct p)=p:=by
 unfold Pm.eu at h;rw[List.all_eq_true]at h;have hs:(ct p).size=p.length:=by rw[<-cj];simp[ct]
 unfold yM;refine aca (by rw[abO,List.length_range,hs]) fun i h1 h2=>?_;rw[acB,acG];have hx:=h _ (abo h2);simp only[aaS,aaW]at hx
 have e:af (ct p) i=(UInt8.ofNat (p[i]).toNat).toNat:=by
  unfold af ct;rw[aab];simp only[abC,aan h2,Option.map_some,ac1]
 rw[e,uS hx.1 hx.2]
theorem mb (p:List Int):(ct p).size=p.length:=by rw[<-cj];simp[ct]
theorem bO (l m:List UInt8):iV (aE l) m=(l==m):=by unfold iV;rw[ByteArray.toList_eq]
theorem kH:∀(ds:List ByteArray) (a:ByteArray) (d:List ByteArray) (p:Option ByteArray),(d=[]\/iV a cJ=true)->cy a d p (ds.map fun x=>⟨aE cJ,x⟩)=some (d++ds,p)
 | [],a,d,p,_=>by rw[List.map_nil,cy,abp]
 | x::r,a,d,p,h=>by
  rw[acI,cy,aaj,kH r _ _ _ (.inr (by rw[bO];rfl))]
  ·rw[aaw];rfl
  ·rw[bO];rcases h with rfl|h
   ·rfl
   ·rw[h,Bool.or_true];rfl
theorem DV (h:Hd)(aq:List Int)(ds:List ByteArray)(hne:ds≠[]):cK (bj h aq ds)=some ⟨aY h,if h.kd=3 then some (ct aq) else none,eG ds⟩:=by
 obtain⟨M,hM⟩:∃M,M=(if h.kd=3 then [(⟨aE cP,ct aq⟩:Ch)] else [])++ds.map (fun d=>⟨aE cJ,d⟩):=⟨_,rfl⟩
 have hL:bj h aq ds=⟨aE cI,aY h⟩::(M++[⟨aE nD,⟨#[]⟩⟩]):=by rw[bj,hM,aaw]
 have hlen:(bj h aq ds).length=M.length+2:=by rw[hL];simp
 have hf:fT (bj h aq ds)=⟨aE cI,aY h⟩:=by rw[hL];rfl
 have hl:ky (bj h aq ds)=⟨aE nD,⟨#[]⟩⟩:=by
  unfold ky;rw[hlen,hL,show M.length+2-1=M.length+1 by omega,List.getD_cons_succ,aab,aaM (aah _),Nat.sub_self];rfl
 have hm:dM (bj h aq ds)=M:=by
  unfold dM;rw[hlen,hL,show M.length+2-1=M.length+1 by omega,List.take_succ_cons,List.drop_succ_cons,acU,List.take_left]
 have he:jq (bj h aq ds)=true:=by
  unfold jq;rw[hf,hl,hlen,abj (by omega),bO,bO,ByteArray.toList_eq];rfl
 have ho:cy (aE cI) [] none M=some (ds,if h.kd=3 then some (ct aq) else none):=by
  rw[hM];split
  ·rw[abG,abb,cy,aai (by rw[bO];decide),aaj (by rw[bO];rfl),kH _ _ _ _ (.inl rfl),abb]
  ·rw[abb,kH _ _ _ _ (.inl rfl),abb]
 unfold cK;rw[aaj he,hf,hm,ho];dsimp only;rw[aai (by cases ds with|nil=>exact absurd rfl hne|cons x r=>exact Bool.false_ne_true)]
def iQ (h:Hd)(aq:List Int)(ds:List ByteArray):List UInt8:=sj++aH (bj h aq ds)
theorem nZ {h:Hd}{aq:List Int}{ds:List ByteArray}(hp:aq.length<=2147483647)(hd:∀d∈ds,d.size<=2147483647):∀c∈bj h aq ds,oe c:=by
 intro c hc;unfold bj at hc;rcases ab9.1 hc with rfl|hc
 ·exact⟨rfl,rfl,by show (aY h).size<=_;rw[show (aY h).size=13 from rfl];omega⟩
 ·rcases abA.1 hc with hc|hc
  ·split at hc
   ·rcases abK.1 hc with rfl;exact⟨rfl,rfl,by show (ct aq).size<=_;rw[mb];exact hp⟩
   ·cases hc
  ·rcases abA.1 hc with hc|hc
   ·obtain⟨d,hm,rfl⟩:=ac3.1 hc;exact⟨rfl,rfl,hd d hm⟩
   ·rcases abK.1 hc with rfl;exact⟨rfl,rfl,aaq _⟩
theorem uT {h:Hd}{aq:List Int}{ds:List ByteArray}{b:ByteArray}(hb:b.data.toList=iQ h aq ds)(hp:aq.length<=2147483647)(hd:∀d∈ds,d.size<=2147483647)(hne:ds≠[]): gN b=true/\aM (b.extract 8 b.size)=some (bj h aq ds)/\partsOf b=.ok ⟨aY h,if h.kd=3 then some (ct aq) else none,eG ds⟩:=by
 obtain⟨h1,h2⟩:=Bg (b:=b) (R:=⟨(aH (bj h aq ds)).toArray⟩) hb;have h3:aM (b.extract 8 b.size)=some (bj h aq ds):=by rw[h2];exact uQ (nZ hp hd) rfl
 exact⟨h1,h3,uH h1 h3 (DV h aq ds hne)⟩
structure du (h:Hd) (aq S:List Int):Prop where
 hd:ma h
 raw:bY h<=4194304
 LT:Pm.pQ h.kd (Pm.two h.dp) aq=true
 UJ:Pm.uk h.wd h.ht h.kd (Pm.chan h.kd h.dp) (Pm.two h.dp) aq.length S=true
theorem Bn (h:Hd)(aq S:List Int):Pm.check h.wd h.ht h.kd h.dp h.ps aq S=0↔du h aq S:=by
 unfold Pm.check;constructor
 ·intro e;split at e
  ·omega
  ·rename_i h1;split at e
   ·omega
   ·rename_i h2;have h2:=Classical.not_not.1 h2;split at e
    ·omega
    ·rename_i h3;split at e
     ·omega
     ·rename_i h4;split at e
      ·omega
      ·rename_i h5;exact⟨⟨(Pm.dE _).1 h2.1,(Pm.dE _).1 h2.2,h1⟩,Int.not_lt.1 h3,by simpa using h4,by simpa using h5⟩
 ·intro f;rw[aai f.hd.ch,aai (Classical.not_not.2 ⟨(Pm.dE _).2 f.hd.wd,(Pm.dE _).2 f.hd.ht⟩),aai (show ¬4194304<Pm.raw h.wd h.ht (Pm.chan h.kd h.dp*h.dp) h.ps from Int.not_lt.2 f.raw),aai (by rw[f.LT];decide),aai (by rw[f.UJ];decide)]
theorem Bo {k d:Int}(h:Pm.chan k d≠0):Pm.rI d.toNat:=by
 unfold Pm.chan at h;unfold Pm.rI;repeat' split at h
 all_goals omega
theorem du.fits {h:Hd}{aq S:List Int}(f:du h aq S):Pm.Fits (gK h) S:=by
 have hs:=f.UJ;unfold Pm.uk at hs;rw[aaS,aaW]at hs;obtain⟨h1,h2⟩:=hs;have hw:=f.hd.wd;have hh:=f.hd.ht;have hd:=Pm.cF _ _ f.hd.ch;have hc:=Pm.cS h.kd h.dp;refine⟨?_,Bo f.hd.ch,?_⟩
 ·have e:((gK h).W*(gK h).H*(gK h).n:Nat)=(h.wd*h.ht*Pm.chan h.kd h.dp).toNat:=by
   show h.wd.toNat*h.ht.toNat*(Pm.chan h.kd h.dp).toNat=_;have e1:(h.wd.toNat:Int)=h.wd:=by omega
   have e2:(h.ht.toNat:Int)=h.ht:=by omega
   have e3:((Pm.chan h.kd h.dp).toNat:Int)=Pm.chan h.kd h.dp:=by omega
   generalize h.wd.toNat=a at *;generalize h.ht.toNat=b at *;generalize (Pm.chan h.kd h.dp).toNat=c at *;rw[<-e1,<-e2,<-e3,<-Int.natCast_mul,<-Int.natCast_mul,acQ]
  rw[e];omega
 ·have e:(2:Int)^(gK h).dp=Pm.two h.dp:=rfl;rw[e];intro y hy;split at h2
  ·rename_i h3;unfold Pm.eu at h2;rw[List.all_eq_true]at h2;have hy2:=h2 y hy;simp only[aaS,aaW]at hy2;have hp:=f.LT;unfold Pm.pQ at hp;rw[aaj h3]at hp;simp only[aaS,aaW]at hp;omega
  ·unfold Pm.eu at h2;rw[List.all_eq_true]at h2;have hy2:=h2 y hy;simp only[aaS,aaW]at hy2;exact hy2
theorem LU {h:Hd}{aq S:List Int}(f:du h aq S){fl:Nat}{T X b:ByteArray}(hT:Pm.Written (gK h) S (af T) fl h.ps)(hz:(T.size:Int)=bY h)(h0:dx X (bY h)=0)(h1:jg X (bY h)=T)(hp:partsOf b=.ok ⟨aY h,if h.kd=3 then some (ct aq) else none,X⟩)(limit:Int)(hl:bY h<=limit):dm b limit=.ok ⟨h,aq,S⟩:=by
 have hpf:=f.LT;unfold Pm.pQ at hpf;have hd':=Pm.cF _ _ f.hd.ch;obtain⟨k1,k2⟩:=Hz f.hd
 have aby:jL h.kd (if h.kd=3 then some (ct aq) else none)=aq:=by
  unfold jL;split
  ·rename_i h3;rw[aaj h3]at hpf;rw[aaS]at hpf;exact LS hpf.2
  ·rename_i h3;rw[aai h3,aaW]at hpf;exact (aaG (by omega)).symm
 have hpo:gI h.kd h.dp (if h.kd=3 then some (ct aq) else none)=true:=by
  by_cases h3:h.kd=3
  ·rw[aaj h3]at hpf ⊢;simp only[aaS,aaW]at hpf;unfold gI;dsimp only;rw[aai (by omega),aaj h3,mb];unfold fB;rw[abj hpf.1.1.1,abj hpf.1.1.2,abj hpf.1.2];rfl
  ·rw[aai h3];unfold gI;have:(h.kd==3)=false:=by simpa using h3
   rw[this];rfl
 have hn:0<(gK h).n:=by
  have:=Pm.cS h.kd h.dp;have:=f.hd.ch;show 0<(Pm.chan h.kd h.dp).toNat;omega
 have hw:=f.hd.wd
 have hpi:Pm.lO (gK h) (af T) h.ps=some S :=
  Pm.yG f.fits hn (by show 0<h.dp.toNat;omega) (by show 0<h.wd.toNat;omega) hT
 rw[yW limit hp];unfold partOf;dsimp only;rw[k1,k2,aai (by decide),aai (by have:=f.raw;omega),hpo,aai (by decide)];unfold qP;dsimp only;rw[h0,h1,aai (by omega),aai (by omega)];unfold pj;rw[hpi];dsimp only;rw[aby,aai];rintro⟨h3,h4⟩;have hs:=f.UJ;unfold Pm.uk at hs;rw[aaj h3,h4,Bool.and_false]at hs;cases hs
theorem du.few {h:Hd}{aq S:List Int}(f:du h aq S):aq.length<=196608:=by
 have hpf:=f.LT;unfold Pm.pQ at hpf;have hd':=Pm.cF _ _ f.hd.ch;have hr:=Pm.gU _ hd';split at hpf
 ·simp only[aaS,aaW]at hpf;omega
 ·rw[aaW]at hpf;omega
theorem LV {h:Hd}{aq S:List Int}(f:du h aq S){fl:Nat}{T X b:ByteArray}{ds:List ByteArray}(hT:Pm.Written (gK h) S (af T) fl h.ps)(hz:(T.size:Int)=bY h)(h0:dx X (bY h)=0)(h1:jg X (bY h)=T)(hX:eG ds=X)(hb:b.data.toList=iQ h aq ds)(hd:∀d∈ds,d.size<=2147483647)(hne:ds≠[])(limit:Int)(hl:bY h<=limit):dm b limit=.ok ⟨h,aq,S⟩:=by
 obtain⟨_,_,hp⟩:=uT hb (by have:=f.few;omega) hd hne;rw[hX]at hp;exact LU f hT hz h0 h1 hp limit hl
structure vJ (c:Ch):Prop where
 nice:oe c
 data:iV c.name cJ=false
 aq:iV c.name cP=false
theorem qR {c:Ch}(h:vJ c)(hc:gM (af c.name 0)=false)(a:ByteArray)(d:List ByteArray)(p:Option ByteArray)(r:List Ch):cy a d p (c::r)=cy c.name d p r:=by
 rw[cy,h.data,h.aq,hc,abD,abD,abD,aai (by decide),aai (by decide),aai (by decide)]
theorem uU {c:Ch}(h:vJ c)(hc:gM (af c.name 0)=true)(a:ByteArray)(d:List ByteArray)(p:Option ByteArray)(r:List Ch):cy a d p (c::r)=none:=by
 rw[cy,h.data,h.aq,hc,abD,abD,abD,aai (by decide),aai (by decide),aaj rfl]
theorem qS:∀(ds:List ByteArray) (a:ByteArray) (d:List ByteArray) (p:Option ByteArray) (r:List Ch),ds≠[]->(d=[]\/iV a cJ=true)->cy a d p ((ds.map fun x=>⟨aE cJ,x⟩)++r)=cy (aE cJ) (d++ds) p r
 | [],_,_,_,_,hne,_=>absurd rfl hne
 | [x],a,d,p,r,_,h=>by
  rw[acI,List.map_nil,abG,abb,cy,aaj];rw[bO];rcases h with rfl|h
  ·rfl
  ·rw[h,Bool.or_true];rfl
 | x::y::t,a,d,p,r,_,h=>by
  rw[acI,abG,cy,aaj,qS (y::t) _ _ _ r (by simp) (.inr (by rw[bO];rfl))]
  ·rw[aaw];rfl
  ·rw[bO];rcases h with rfl|h
   ·rfl
   ·rw[h,Bool.or_true];rfl
abbrev yY (h:Hd)(aq:List Int):List Ch:=if h.kd=3 then [⟨aE cP,ct aq⟩] else []
abbrev eW (ds:List ByteArray):List Ch:=ds.map fun d=>⟨aE cJ,d⟩
abbrev vK:List Ch:=[⟨aE nD,⟨#[]⟩⟩]
inductive mE (h:Hd) (aq:List Int) (ds:List ByteArray):List Ch->List Ch->Prop
 | head:mE h aq ds [⟨aE cI,aY h⟩] (yY h aq++(eW ds++vK))
 | aq (h3:h.kd=3):mE h aq ds [⟨aE cI,aY h⟩,⟨aE cP,ct aq⟩] (eW ds++vK)
 | last:mE h aq ds (⟨aE cI,aY h⟩::(yY h aq++eW ds)) vK
theorem mE.all {h:Hd}{aq:List Int}{ds:List ByteArray}{A B:List Ch}(s:mE h aq ds A B):A++B=bj h aq ds:=by
 cases s with
 | head=>rfl
 | aq h3=>unfold bj;rw[aaj h3];rfl
 | last=>unfold bj;rw[abG,aaw]
theorem Bp {h:Hd}{M:List Ch}:cK (⟨aE cI,aY h⟩::(M++vK))=match cy (aE cI) [] none M with|some (d,p)=>if d.isEmpty=true then none else some ⟨aY h,p,eG d⟩|none=>none:=by
 obtain⟨L,hL⟩:∃L,L=(⟨aE cI,aY h⟩:Ch)::(M++vK):=⟨_,rfl⟩
 have hlen:L.length=M.length+2:=by rw[hL];simp
 have hf:fT L=⟨aE cI,aY h⟩:=by rw[hL];rfl
 have hl:ky L=⟨aE nD,⟨#[]⟩⟩:=by
  unfold ky;rw[hlen,hL,show M.length+2-1=M.length+1 by omega,List.getD_cons_succ,aab,aaM (aah _),Nat.sub_self];rfl
 have hm:dM L=M:=by
  unfold dM;rw[hlen,hL,show M.length+2-1=M.length+1 by omega,List.take_succ_cons,List.drop_succ_cons,acU,List.take_left]
 have he:jq L=true:=by
  unfold jq;rw[hf,hl,hlen,abj (by omega),bO,bO,ByteArray.toList_eq];rfl
 rw[<-hL];unfold cK;rw[aaj he,hf,hm];rfl
theorem mE.mid {h:Hd}{aq:List Int}{ds:List ByteArray}{A B:List Ch}(s:mE h aq ds A B)(c:Ch):∃M,A++c::B=⟨aE cI,aY h⟩::(M++vK) /\ (M=c::(yY h aq++eW ds)\/(h.kd=3/\M=⟨aE cP,ct aq⟩::c::eW ds)\/M=yY h aq++(eW ds++[c])):=by
 cases s with
 | head=>exact⟨_,by simp only[abG,abb,aaw],.inl rfl⟩
 | aq h3=>exact⟨_,by simp only[abG,abb],.inr (.inl ⟨h3,rfl⟩)⟩
 | last=>exact⟨_,by simp only[abG,abb,aaw],.inr (.inr rfl)⟩
theorem uV (h:Hd)(aq:List Int)(a:ByteArray)(r:List Ch):∃a',cy a [] none (yY h aq++r)=cy a' [] (if h.kd=3 then some (ct aq) else none) r:=by
 unfold yY;split
 ·refine⟨aE cP,?_⟩;rw[abG,abb,cy,aai (by rw[bO,show (cP==cJ)=false from rfl,abD];decide),aaj (by rw[bO];rfl)]
 ·exact⟨a,rfl⟩
theorem DW {h:Hd}{aq:List Int}{ds:List ByteArray}{A B:List Ch}(s:mE h aq ds A B)(hne:ds≠[]){c:Ch}(hs:vJ c)(hc:gM (af c.name 0)=false): cK (A++c::B)=some ⟨aY h,if h.kd=3 then some (ct aq) else none,eG ds⟩:=by
 obtain⟨M,e,hM⟩:=s.mid c;have hemp:ds.isEmpty=false:=by cases ds with|nil=>exact absurd rfl hne|cons x r=>rfl
 have ho:cy (aE cI) [] none M=some (ds,if h.kd=3 then some (ct aq) else none):=by
  rcases hM with rfl|⟨h3,rfl⟩|rfl
  ·rw[qR hs hc];obtain⟨a',ha⟩:=uV h aq c.name (eW ds);rw[ha,kH _ _ _ _ (.inl rfl),abb]
  ·rw[cy,aai (by rw[bO];decide),aaj (by rw[bO];rfl),qR hs hc,kH _ _ _ _ (.inl rfl),abb,aaj h3]
  ·obtain⟨a',ha⟩:=uV h aq (aE cI) (eW ds++[c]);rw[ha,qS ds _ _ _ _ hne (.inl rfl),qR hs hc,cy,abb]
 rw[e,Bp,ho];dsimp only;rw[hemp,aai (by decide)]
theorem DY {h:Hd}{aq:List Int}{ds:List ByteArray}{A B:List Ch}(s:mE h aq ds A B)(hne:ds≠[]){c:Ch}(hs:vJ c)(hc:gM (af c.name 0)=true):cK (A++c::B)=none:=by
 obtain⟨M,e,hM⟩:=s.mid c
 have ho:cy (aE cI) [] none M=none:=by
  rcases hM with rfl|⟨h3,rfl⟩|rfl
  ·rw[uU hs hc]
  ·rw[cy,aai (by rw[bO];decide),aaj (by rw[bO];rfl),uU hs hc]
  ·obtain⟨a',ha⟩:=uV h aq (aE cI) (eW ds++[c]);rw[ha,qS ds _ _ _ _ hne (.inl rfl),uU hs hc]
 rw[e,Bp,ho]
theorem uW (A B:List Ch):aH (A++B)=aH A++aH B:=by unfold aH;rw[List.flatMap_append]
theorem uX {h:Hd}{aq:List Int}{ds:List ByteArray}{A B:List Ch}(s:mE h aq ds A B)(hp:aq.length<=2147483647)(hd:∀d∈ds,d.size<=2147483647){c:Ch}(hs:vJ c){b:ByteArray}(hb:b.data.toList=(sj++aH A)++(kR c++aH B)): gN b=true/\aM (b.extract 8 b.size)=some (A++c::B):=by
 have hn:∀x∈A++c::B,oe x:=by
  intro x hx;have ha:=nZ (h:=h) hp hd;rw[<-s.all]at ha;rcases abA.1 hx with hx|hx
  ·exact ha x (List.mem_append_left _ hx)
  ·rcases ab9.1 hx with rfl|hx
   ·exact hs.nice
   ·exact ha x (List.mem_append_right _ hx)
 obtain⟨h1,h2⟩:=Bg (b:=b) (R:=⟨(aH (A++c::B)).toArray⟩) (by
  rw[hb,uW,aaw]
  rfl)
 exact⟨h1,by rw[h2];exact uQ hn rfl⟩
theorem H4 {h:Hd}{aq:List Int}{ds:List ByteArray}{A B:List Ch}(s:mE h aq ds A B)(hp:aq.length<=2147483647)(hd:∀d∈ds,d.size<=2147483647)(hne:ds≠[]){c:Ch}(hs:vJ c)(hc:gM (af c.name 0)=false){b:ByteArray}(hb:b.data.toList=(sj++aH A)++(kR c++aH B)): partsOf b=.ok ⟨aY h,if h.kd=3 then some (ct aq) else none,eG ds⟩:=by
 obtain⟨h1,h2⟩:=uX s hp hd hs hb;exact uH h1 h2 (DW s hne hs hc)
theorem H5 {h:Hd}{aq:List Int}{ds:List ByteArray}{A B:List Ch}(s:mE h aq ds A B)(hp:aq.length<=2147483647)(hd:∀d∈ds,d.size<=2147483647)(hne:ds≠[]){c:Ch}(hs:vJ c)(hc:gM (af c.name 0)=true){b:ByteArray}(hb:b.data.toList=(sj++aH A)++(kR c++aH B))(limit:Int): dm b limit=.error 12:=by
 obtain⟨h1,h2⟩:=uX s hp hd hs hb;exact xv (A8 h1 h2 (DY s hne hs hc))
end Go.Proofs.YtmfijackgekioabGreatDoor
namespace Go.Proofs.YtmfijackgekioabGreatDoor.Mx
end Go.Proofs.YtmfijackgekioabGreatDoor.Mx
namespace Go.Proofs.YtmfijackgekioabGreatDoor
end Go.Proofs.YtmfijackgekioabGreatDoor
