import Derived.Test.YtmfijackgekioaaGreatDoorQ39
namespace Go.Proofs.YtmfijackgekioaaGreatDoor
theorem ba_eq {a b:ByteArray}(h:a.data.toList=b.data.toList):a=b:=ByteArray.ext (Array.toList_inj.1 h)
theorem cH (b:ByteArray):b.data.toList.length=b.size:=by rw[Array.length_toList];rfl
theorem dq (T:ByteArray)(p q:Nat):(T.extract p q).data.toList=(T.data.toList.take q).drop p:=by
 rw[ByteArray.data_extract,Array.toList_extract,List.extract_eq_take_drop,List.drop_take]
theorem sF (a b:ByteArray):(a++b).data.toList=a.data.toList++b.data.toList:=by rw[ByteArray.data_append,Array.toList_append]
theorem uL {b:ByteArray}{pre post:List UInt8}(h:b.data.toList=pre++post)(i:Nat):ag b (pre.length+i)=(post.getD i 0).toNat:=by
 unfold ag;rw[h,List.getD_eq_getElem?_getD,List.getElem?_append_right (by omega),Nat.add_sub_cancel_left,List.getD_eq_getElem?_getD]
theorem lQ {b:ByteArray}{pre post:List UInt8}{a:Int}(h:b.data.toList=pre++(four a++post))(h0:0<=a)(h1:a<4294967296):aM b pre.length=a:=by
 have e:∀i,ag b (pre.length+i)=((four a++post).getD i 0).toNat:=uL h;unfold aM;have e0:=e 0;rw[Nat.add_zero]at e0;rw[e0,e 1,e 2,e 3]
 have k:∀x:Int,0<=x->x<256->((UInt8.ofNat x.toNat).toNat:Int)=x:=fun x h0 h1=>by
  rw[UInt8.toNat_ofNat'];have:x.toNat%2^8=x.toNat:=Nat.mod_eq_of_lt (by omega);rw[this];omega
 simp only[four,List.cons_append,List.getD_cons_zero,List.getD_cons_succ,List.nil_append];rw[k _ (by omega) (by omega),k _ (by omega) (by omega),k _ (by omega) (by omega),k _ (by omega) (by omega)];omega
theorem oW (s:ByteArray):0<=pH s/\pH s<4294967296:=by
 have:=Mx.DQ s.data.toList;unfold pH;omega
def oh (c:Ch):List UInt8:=four (c.data.size:Int)++(c.name.data.toList++(c.data.data.toList++four (pH (c.name++c.data))))
structure Lq (c:Ch):Prop where
 name:c.name.size=4
 lets:fq c.name 0=true
 size:c.data.size<=2147483647
theorem lU {c:Ch}(h:Lq c):(oh c).length=12+c.data.size:=by
 unfold oh;have:=h.name;simp only[List.length_append,cH];show 4+(_+(_+4))=_;omega
theorem Dl {c:Ch}(h:Lq c){b R:ByteArray}(hb:b.data.toList=oh c++R.data.toList):b.size≠0/\la b=true/\oM b=c/\gw b=R:=by
 have hn:=h.name;have hz:=h.size;have hnl:=cH c.name;have hdl:=cH c.data
 have hs:b.size=12+c.data.size+R.size:=by
  rw[<-cH b,hb,List.length_append,lU h,cH]
 have Iq:∀a,(four a).length=4:=fun _=>rfl
 have b1:b.data.toList=[]++(four (c.data.size:Int)++(c.name.data.toList++(c.data.data.toList++(four (pH (c.name++c.data))++R.data.toList)))):=by
  rw[hb,oh];simp only[List.append_assoc,List.nil_append]
 have b2:b.data.toList=four (c.data.size:Int)++(c.name.data.toList++(c.data.data.toList++(four (pH (c.name++c.data))++R.data.toList))):=b1
 have b3:b.data.toList=(four (c.data.size:Int)++(c.name.data.toList++c.data.data.toList))++(four (pH (c.name++c.data))++R.data.toList):=by
  rw[b2];simp only[List.append_assoc]
 have b4:b.data.toList=(four (c.data.size:Int)++(c.name.data.toList++(c.data.data.toList++four (pH (c.name++c.data)))))++R.data.toList:=hb
 have hlen:dY b=c.data.size:=by
  have e1:=lQ (pre:=[]) (a:=(c.data.size:Int)) b1 (by omega) (by omega);rw[List.length_nil,ua b]at e1;exact Int.ofNat.inj e1
 have l3:(four (c.data.size:Int)++(c.name.data.toList++c.data.data.toList)).length=8+c.data.size:=by
  simp only[List.length_append,Iq,hnl,hdl];omega
 have hcr:aM b (8+c.data.size)=pH (c.name++c.data):=by
  have hc:=oW (c.name++c.data);have:=lQ b3 hc.1 hc.2;rw[l3]at this;exact this
 have t8:b.data.toList.take (8+c.data.size)=four (c.data.size:Int)++(c.name.data.toList++c.data.data.toList):=by
  rw[b3,<-l3,List.take_left]
 have x1:b.extract 4 (8+c.data.size)=c.name++c.data:=by
  refine ba_eq ?_;rw[dq,t8,sF];exact List.drop_left' rfl
 have l2:(four (c.data.size:Int)++c.name.data.toList).length=8:=by simp only[List.length_append,Iq,hnl];omega
 have x2:b.extract 4 8=c.name:=by
  refine ba_eq ?_;rw[dq,b2,<-List.append_assoc,List.take_left' l2];exact List.drop_left' rfl
 have x3:b.extract 8 (8+c.data.size)=c.data:=by
  refine ba_eq ?_;rw[dq,t8,<-List.append_assoc];exact List.drop_left' l2
 have x4:b.extract (12+c.data.size) b.size=R:=by
  refine ba_eq ?_;rw[dq,List.take_of_length_le (by rw[cH];exact Nat.le_refl _),hb];exact List.drop_left' (lU h)
 have hlet:fq b 4=true:=by
  have key:∀i,i<4->ag b (4+i)=ag c.name i:=fun i hi=>by
   have:=uL b2 i;rw[Iq]at this;rw[this];unfold ag;rw[List.getD_eq_getElem?_getD,List.getElem?_append_left (by omega),List.getD_eq_getElem?_getD]
  have hl:=h.lets;unfold fq at hl ⊢;rw[key 0 (by omega),key 1 (by omega),key 2 (by omega),key 3 (by omega)];exact hl
 refine⟨by omega,?_,?_,?_⟩
 ·unfold la;rw[hlen,hcr,x1,hlet,decide_eq_true (show 12<=b.size by omega),decide_eq_true hz,decide_eq_true (show c.data.size+12<=b.size by omega),decide_eq_true rfl];rfl
 ·unfold oM;rw[hlen,x2,x3]
 ·unfold gw;rw[hlen,x4]
def dh (L:List Ch):List UInt8:=L.flatMap oh
theorem rI:∀(L:List Ch) (b R:ByteArray),(∀c∈L,Lq c)->b.data.toList=dh L++R.data.toList->aO b=(aO R).map (L++·)
 | [],b,R,_,hb=>by
  have:b=R:=ba_eq (by rw[hb];rfl);rw[this];cases aO R<;>rfl
 | c::r,b,R,h,hb=>by
  have hb':b.data.toList=oh c++(⟨(dh r++R.data.toList).toArray⟩:ByteArray).data.toList:=by
   rw[hb];show (oh c++dh r)++R.data.toList=oh c++(dh r++R.data.toList)
   rw[List.append_assoc]
  obtain⟨h0,h1,h2,h3⟩:=Dl (h c List.mem_cons_self) hb';rw[ru h0 h1,h2,h3,rI r _ R (fun x hx=>h x (List.mem_cons_of_mem _ hx)) rfl,Option.map_map];rfl
theorem Dm {L:List Ch}{b:ByteArray}(h:∀c∈L,Lq c)(hb:b.data.toList=dh L):aO b=some L:=by
 rw[rI L b ⟨#[]⟩ h (by rw[hb];exact (List.append_nil _).symm),ub rfl];show some (L++[])=some L;rw[List.append_nil]
abbrev SQ:List UInt8:=[137,80,78,71,13,10,26,10]
theorem Lr {b R:ByteArray}(hb:b.data.toList=SQ++R.data.toList):gM b=true/\b.extract 8 b.size=R:=by
 have hs:b.size=8+R.size:=by rw[<-cH b,hb,List.length_append,cH];rfl
 have hl:b.data.toList.length=b.size:=cH b;constructor
 ·unfold gM;rw[decide_eq_true (show 8<=b.size by omega),Bool.true_and,ByteArray.toList_eq,dq,hb];rfl
 ·refine ba_eq ?_;rw[dq,List.take_of_length_le (by omega),hb];rfl
def WX (h:Hd):List UInt8:=four h.wd++(four h.ht++[UInt8.ofNat h.dp.toNat,UInt8.ofNat h.kd.toNat,0,0,if h.ps=true then 1 else 0])
def cS (h:Hd):ByteArray:=⟨(WX h).toArray⟩
def dA (p:List Int):ByteArray:=⟨(p.map fun x=>UInt8.ofNat x.toNat).toArray⟩
abbrev ba (l:List UInt8):ByteArray:=⟨l.toArray⟩
def eu (h:Hd)(aD:List Int)(ds:List ByteArray):List Ch :=
 ⟨ba jg,cS h⟩::((if h.kd=3 then [⟨ba dP,dA aD⟩] else [])++(ds.map (fun d=>⟨ba cV,d⟩)++[⟨ba n9,⟨#[]⟩⟩]))
theorem uM {x:Int}(h0:0<=x)(h1:x<256):((UInt8.ofNat x.toNat).toNat:Int)=x:=by
 rw[UInt8.toNat_ofNat'];have:x.toNat%2^8=x.toNat:=Nat.mod_eq_of_lt (by omega);rw[this];omega
structure lV (h:Hd):Prop where
 wd:1<=h.wd/\h.wd<=5000
 ht:1<=h.ht/\h.ht<=5000
 ch:Pm.chan h.kd h.dp≠0
theorem yz {k d:Int}(h:Pm.chan k d≠0):0<=k/\k<=6:=by
 unfold Pm.chan at h;repeat' split at h
 all_goals omega
theorem He {h:Hd}(hf:lV h):ji (cS h)=h/\ux (cS h)=true:=by
 have hd:=Pm.cm _ _ hf.ch;have hk:=yz hf.ch;obtain⟨w1,w2⟩:=hf.wd;obtain⟨t1,t2⟩:=hf.ht;have e0:aM (cS h) 0=h.wd:=lQ (b:=cS h) (pre:=[]) (post:=four h.ht++[UInt8.ofNat h.dp.toNat,UInt8.ofNat h.kd.toNat,0,0,if h.ps=true then 1 else 0]) (a:=h.wd) rfl (by omega) (by omega);have e4:aM (cS h) 4=h.ht:=lQ (b:=cS h) (pre:=four h.wd) (post:=[UInt8.ofNat h.dp.toNat,UInt8.ofNat h.kd.toNat,0,0,if h.ps=true then 1 else 0]) (a:=h.ht) rfl (by omega) (by omega);have e8:(ag (cS h) 8:Int)=h.dp:=uM (x:=h.dp) (by omega) (by omega);have e9:(ag (cS h) 9:Int)=h.kd:=uM (x:=h.kd) (by omega) (by omega);have e10:ag (cS h) 10=0:=rfl;have e11:ag (cS h) 11=0:=rfl
 have e12:ag (cS h) 12=if h.ps=true then 1 else 0:=by
  show (if h.ps=true then (1:UInt8) else 0).toNat=_;split<;>rfl
 have es:(cS h).size=13:=rfl;constructor
 ·unfold ji;rw[e0,e4,e8,e9,e12];obtain⟨a,b,c,d,p⟩:=h;cases p<;>rfl
 ·unfold ux;rw[es,e0,e4,e8,e9,e10,e11,e12,(Pm.dj h.wd).2 hf.wd,(Pm.dj h.ht).2 hf.ht];have:(Pm.chan h.kd h.dp==0)=false:=by simpa using hf.ch
  rw[this];cases h.ps<;>rfl
theorem Ls {p:List Int}(h:Pm.ee p 256=true):ym (dA p)=p:=by
 unfold Pm.ee at h;rw[List.all_eq_true]at h;have hs:(dA p).size=p.length:=by rw[<-cH];simp[dA]
 unfold ym;refine List.ext_getElem (by rw[List.length_map,List.length_range,hs]) fun i h1 h2=>?_;rw[List.getElem_map,List.getElem_range];have hx:=h _ (List.getElem_mem h2);simp only[Bool.and_eq_true,decide_eq_true_eq]at hx
 have e:ag (dA p) i=(UInt8.ofNat (p[i]).toNat).toNat:=by
  unfold ag dA;rw[List.getD_eq_getElem?_getD];simp only[List.getElem?_map,List.getElem?_eq_getElem h2,Option.map_some,Option.getD_some]
 rw[e,uM hx.1 hx.2]
theorem lY (p:List Int):(dA p).size=p.length:=by rw[<-cH];simp[dA]
theorem kr (l m:List UInt8):jn (ba l) m=(l==m):=by unfold jn;rw[ByteArray.toList_eq]
theorem qN:∀(ds:List ByteArray) (a:ByteArray) (d:List ByteArray) (p:Option ByteArray),(d=[]\/jn a cV=true)->dU a d p (ds.map fun x=>⟨ba cV,x⟩)=some (d++ds,p)
 | [],a,d,p,_=>by rw[List.map_nil,dU,List.append_nil]
 | x::r,a,d,p,h=>by
  rw[List.map_cons,dU,if_pos,qN r _ _ _ (.inr (by rw[kr];rfl))]
  ·rw[List.append_assoc];rfl
  ·rw[kr];rcases h with rfl|h
   ·rfl
   ·rw[h,Bool.or_true];rfl
theorem Dn (h:Hd)(aD:List Int)(ds:List ByteArray)(hne:ds≠[]):cQ (eu h aD ds)=some ⟨cS h,if h.kd=3 then some (dA aD) else none,fe ds⟩:=by
 obtain⟨M,hM⟩:∃M,M=(if h.kd=3 then [(⟨ba dP,dA aD⟩:Ch)] else [])++ds.map (fun d=>⟨ba cV,d⟩):=⟨_,rfl⟩
 have hL:eu h aD ds=⟨ba jg,cS h⟩::(M++[⟨ba n9,⟨#[]⟩⟩]):=by rw[eu,hM,List.append_assoc]
 have hlen:(eu h aD ds).length=M.length+2:=by rw[hL];simp
 have hf:gx (eu h aD ds)=⟨ba jg,cS h⟩:=by rw[hL];rfl
 have hl:mY (eu h aD ds)=⟨ba n9,⟨#[]⟩⟩:=by
  unfold mY;rw[hlen,hL,show M.length+2-1=M.length+1 by omega,List.getD_cons_succ,List.getD_eq_getElem?_getD,List.getElem?_append_right (Nat.le_refl _),Nat.sub_self];rfl
 have hm:dO (eu h aD ds)=M:=by
  unfold dO;rw[hlen,hL,show M.length+2-1=M.length+1 by omega,List.take_succ_cons,List.drop_succ_cons,List.drop_zero,List.take_left]
 have he:ld (eu h aD ds)=true:=by
  unfold ld;rw[hf,hl,hlen,decide_eq_true (by omega),kr,kr,ByteArray.toList_eq];rfl
 have ho:dU (ba jg) [] none M=some (ds,if h.kd=3 then some (dA aD) else none):=by
  rw[hM];split
  ·rw[List.cons_append,List.nil_append,dU,if_neg (by rw[kr];decide),if_pos (by rw[kr];rfl),qN _ _ _ _ (.inl rfl),List.nil_append]
  ·rw[List.nil_append,qN _ _ _ _ (.inl rfl),List.nil_append]
 unfold cQ;rw[if_pos he,hf,hm,ho];dsimp only;rw[if_neg (by cases ds with|nil=>exact absurd rfl hne|cons x r=>exact Bool.false_ne_true)]
def rJ (h:Hd)(aD:List Int)(ds:List ByteArray):List UInt8:=SQ++dh (eu h aD ds)
theorem Hf {h:Hd}{aD:List Int}{ds:List ByteArray}(hp:aD.length<=2147483647)(hd:∀d∈ds,d.size<=2147483647):∀c∈eu h aD ds,Lq c:=by
 intro c hc;unfold eu at hc;rcases List.mem_cons.1 hc with rfl|hc
 ·exact⟨rfl,rfl,by show (cS h).size<=_;rw[show (cS h).size=13 from rfl];omega⟩
 ·rcases List.mem_append.1 hc with hc|hc
  ·split at hc
   ·rcases List.mem_singleton.1 hc with rfl;exact⟨rfl,rfl,by show (dA aD).size<=_;rw[lY];exact hp⟩
   ·cases hc
  ·rcases List.mem_append.1 hc with hc|hc
   ·obtain⟨d,hm,rfl⟩:=List.mem_map.1 hc;exact⟨rfl,rfl,hd d hm⟩
   ·rcases List.mem_singleton.1 hc with rfl;exact⟨rfl,rfl,Nat.zero_le _⟩
theorem Dp {h:Hd}{aD:List Int}{ds:List ByteArray}{b:ByteArray}(hb:b.data.toList=rJ h aD ds)(hp:aD.length<=2147483647)(hd:∀d∈ds,d.size<=2147483647)(hne:ds≠[]): gM b=true/\aO (b.extract 8 b.size)=some (eu h aD ds)/\partsOf b=.ok ⟨cS h,if h.kd=3 then some (dA aD) else none,fe ds⟩:=by
 obtain⟨h1,h2⟩:=Lr (b:=b) (R:=⟨(dh (eu h aD ds)).toArray⟩) hb;have h3:aO (b.extract 8 b.size)=some (eu h aD ds):=by rw[h2];exact Dm (Hf hp hd) rfl
 exact⟨h1,h3,Aw h1 h3 (Dn h aD ds hne)⟩
structure dD (h:Hd) (aD S:List Int):Prop where
 hd:lV h
 raw:ct h<=4194304
 Lt:Pm.pM h.kd (Pm.two h.dp) aD=true
 Uj:Pm.ug h.wd h.ht h.kd (Pm.chan h.kd h.dp) (Pm.two h.dp) aD.length S=true
theorem uN (h:Hd)(aD S:List Int):Pm.check h.wd h.ht h.kd h.dp h.ps aD S=0↔dD h aD S:=by
 unfold Pm.check;constructor
 ·intro e;split at e
  ·omega
  ·rename_i h1;split at e
   ·omega
   ·rename_i h2;have h2:=Classical.not_not.1 h2;split at e
    ·omega
    ·rename_i h3;split at e
     ·omega
     ·rename_i h4;split at e
      ·omega
      ·rename_i h5;exact⟨⟨(Pm.dj _).1 h2.1,(Pm.dj _).1 h2.2,h1⟩,Int.not_lt.1 h3,by simpa using h4,by simpa using h5⟩
 ·intro f;rw[if_neg f.hd.ch,if_neg (Classical.not_not.2 ⟨(Pm.dj _).2 f.hd.wd,(Pm.dj _).2 f.hd.ht⟩),if_neg (show ¬4194304<Pm.raw h.wd h.ht (Pm.chan h.kd h.dp*h.dp) h.ps from Int.not_lt.2 f.raw),if_neg (by rw[f.Lt];decide),if_neg (by rw[f.Uj];decide)]
theorem AX {k d:Int}(h:Pm.chan k d≠0):Pm.rD d.toNat:=by
 unfold Pm.chan at h;unfold Pm.rD;repeat' split at h
 all_goals omega
theorem dD.fits {h:Hd}{aD S:List Int}(f:dD h aD S):Pm.Fits (gG h) S:=by
 have hs:=f.Uj;unfold Pm.ug at hs;rw[Bool.and_eq_true,decide_eq_true_eq]at hs;obtain⟨h1,h2⟩:=hs;have hw:=f.hd.wd;have hh:=f.hd.ht;have hd:=Pm.cm _ _ f.hd.ch;have hc:=Pm.cE h.kd h.dp;refine⟨?_,AX f.hd.ch,?_⟩
 ·have e:((gG h).W*(gG h).H*(gG h).n:Nat)=(h.wd*h.ht*Pm.chan h.kd h.dp).toNat:=by
   show h.wd.toNat*h.ht.toNat*(Pm.chan h.kd h.dp).toNat=_;have e1:(h.wd.toNat:Int)=h.wd:=by omega
   have e2:(h.ht.toNat:Int)=h.ht:=by omega
   have e3:((Pm.chan h.kd h.dp).toNat:Int)=Pm.chan h.kd h.dp:=by omega
   generalize h.wd.toNat=a at *;generalize h.ht.toNat=b at *;generalize (Pm.chan h.kd h.dp).toNat=c at *;rw[<-e1,<-e2,<-e3,<-Int.natCast_mul,<-Int.natCast_mul,Int.toNat_natCast]
  rw[e];omega
 ·have e:(2:Int)^(gG h).dp=Pm.two h.dp:=rfl;rw[e];intro y hy;split at h2
  ·rename_i h3;unfold Pm.ee at h2;rw[List.all_eq_true]at h2;have hy2:=h2 y hy;simp only[Bool.and_eq_true,decide_eq_true_eq]at hy2;have hp:=f.Lt;unfold Pm.pM at hp;rw[if_pos h3]at hp;simp only[Bool.and_eq_true,decide_eq_true_eq]at hp;omega
  ·unfold Pm.ee at h2;rw[List.all_eq_true]at h2;have hy2:=h2 y hy;simp only[Bool.and_eq_true,decide_eq_true_eq]at hy2;exact hy2
theorem Lu {h:Hd}{aD S:List Int}(f:dD h aD S){fl:Nat}{T X b:ByteArray}(hT:Pm.Written (gG h) S (ag T) fl h.ps)(hz:(T.size:Int)=ct h)(h0:cX X (ct h)=0)(h1:i7 X (ct h)=T)(hp:partsOf b=.ok ⟨cS h,if h.kd=3 then some (dA aD) else none,X⟩)(limit:Int)(hl:ct h<=limit):dR b limit=.ok ⟨h,aD,S⟩:=by
 have hpf:=f.Lt;unfold Pm.pM at hpf;have hd':=Pm.cm _ _ f.hd.ch;obtain⟨k1,k2⟩:=He f.hd
 have aa9:jD h.kd (if h.kd=3 then some (dA aD) else none)=aD:=by
  unfold jD;split
  ·rename_i h3;rw[if_pos h3]at hpf;rw[Bool.and_eq_true]at hpf;exact Ls hpf.2
  ·rename_i h3;rw[if_neg h3,decide_eq_true_eq]at hpf;exact (List.eq_nil_of_length_eq_zero (by omega)).symm
 have hpo:gD h.kd h.dp (if h.kd=3 then some (dA aD) else none)=true:=by
  by_cases h3:h.kd=3
  ·rw[if_pos h3]at hpf ⊢;simp only[Bool.and_eq_true,decide_eq_true_eq]at hpf;unfold gD;dsimp only;rw[if_neg (by omega),if_pos h3,lY];unfold fu;rw[decide_eq_true hpf.1.1.1,decide_eq_true hpf.1.1.2,decide_eq_true hpf.1.2];rfl
  ·rw[if_neg h3];unfold gD;have:(h.kd==3)=false:=by simpa using h3
   rw[this];rfl
 have hn:0<(gG h).n:=by
  have:=Pm.cE h.kd h.dp;have:=f.hd.ch;show 0<(Pm.chan h.kd h.dp).toNat;omega
 have hw:=f.hd.wd
 have hpi:Pm.lu (gG h) (ag T) h.ps=some S :=
  Pm.yk f.fits hn (by show 0<h.dp.toNat;omega) (by show 0<h.wd.toNat;omega) hT
 rw[Lj limit hp];unfold partOf;dsimp only;rw[k1,k2,if_neg (by decide),if_neg (by have:=f.raw;omega),hpo,if_neg (by decide)];unfold qL;dsimp only;rw[h0,h1,if_neg (by omega),if_neg (by omega)];unfold oU;rw[hpi];dsimp only;rw[aa9,if_neg];rintro⟨h3,h4⟩;have hs:=f.Uj;unfold Pm.ug at hs;rw[if_pos h3,h4,Bool.and_false]at hs;cases hs
theorem dD.few {h:Hd}{aD S:List Int}(f:dD h aD S):aD.length<=196608:=by
 have hpf:=f.Lt;unfold Pm.pM at hpf;have hd':=Pm.cm _ _ f.hd.ch;have hr:=Pm.gP _ hd';split at hpf
 ·simp only[Bool.and_eq_true,decide_eq_true_eq]at hpf;omega
 ·rw[decide_eq_true_eq]at hpf;omega
theorem Lw {h:Hd}{aD S:List Int}(f:dD h aD S){fl:Nat}{T X b:ByteArray}{ds:List ByteArray}(hT:Pm.Written (gG h) S (ag T) fl h.ps)(hz:(T.size:Int)=ct h)(h0:cX X (ct h)=0)(h1:i7 X (ct h)=T)(hX:fe ds=X)(hb:b.data.toList=rJ h aD ds)(hd:∀d∈ds,d.size<=2147483647)(hne:ds≠[])(limit:Int)(hl:ct h<=limit):dR b limit=.ok ⟨h,aD,S⟩:=by
 obtain⟨_,_,hp⟩:=Dp hb (by have:=f.few;omega) hd hne;rw[hX]at hp;exact Lu f hT hz h0 h1 hp limit hl
abbrev js (ds:List ByteArray):List Ch:=ds.map fun d=>⟨ba cV,d⟩
abbrev Om:List Ch:=[⟨ba n9,⟨#[]⟩⟩]
theorem AY (A B:List Ch):dh (A++B)=dh A++dh B:=by unfold dh;rw[List.flatMap_append]
end Go.Proofs.YtmfijackgekioaaGreatDoor
