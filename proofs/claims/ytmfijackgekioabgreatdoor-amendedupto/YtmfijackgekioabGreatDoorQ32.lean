import Derived.Test.YtmfijackgekioabGreatDoorQ28
set_option maxHeartbeats 2000000
set_option maxRecDepth 100000
namespace Go.Proofs.YtmfijackgekioabGreatDoor
theorem ba_eq {a b:ByteArray}(h:a.data.toList=b.data.toList):a=b:=ByteArray.ext (Array.toList_inj.1 h)
theorem cj (b:ByteArray):b.data.toList.length=b.size:=by rw[abm];rfl
theorem c9 (T:ByteArray)(p q:Nat):(T.extract p q).data.toList=(T.data.toList.take q).drop p:=by
 rw[acs,acF,aco,List.drop_take]
theorem jK (a b:ByteArray):(a++b).data.toList=a.data.toList++b.data.toList:=by rw[ByteArray.data_append,Array.toList_append]
theorem uP {b:ByteArray}{pre post:List UInt8}(h:b.data.toList=pre++post)(i:Nat):af b (pre.length+i)=(post.getD i 0).toNat:=by
 unfold af;rw[h,aab,aaM (by omega),Nat.add_sub_cancel_left,aab]
theorem ju {b:ByteArray}{pre post:List UInt8}{a:Int}(h:b.data.toList=pre++(four a++post))(h0:0<=a)(h1:a<4294967296):aK b pre.length=a:=by
 have e:∀i,af b (pre.length+i)=((four a++post).getD i 0).toNat:=uP h;unfold aK;have e0:=e 0;rw[acz]at e0;rw[e0,e 1,e 2,e 3]
 have k:∀x:Int,0<=x->x<256->((UInt8.ofNat x.toNat).toNat:Int)=x:=fun x h0 h1=>by
  rw[UInt8.toNat_ofNat'];have:x.toNat%2^8=x.toNat:=abE (by omega);rw[this];omega
 simp only[four,abG,List.getD_cons_zero,List.getD_cons_succ,abb];rw[k _ (by omega) (by omega),k _ (by omega) (by omega),k _ (by omega) (by omega),k _ (by omega) (by omega)];omega
theorem l7 (s:ByteArray):0<=lU s/\lU s<4294967296:=by
 have:=Mx.Em s.data.toList;unfold lU;omega
def kR (c:Ch):List UInt8:=four (c.data.size:Int)++(c.name.data.toList++(c.data.data.toList++four (lU (c.name++c.data))))
structure oe (c:Ch):Prop where
 name:c.name.size=4
 lets:fA c.name 0=true
 size:c.data.size<=2147483647
theorem gJ {c:Ch}(h:oe c):(kR c).length=12+c.data.size:=by
 unfold kR;have:=h.name;simp only[aac,cj];show 4+(_+(_+4))=_;omega
theorem DS {c:Ch}(h:oe c){b R:ByteArray}(hb:b.data.toList=kR c++R.data.toList):b.size≠0/\lV b=true/\o6 b=c/\gE b=R:=by
 have hn:=h.name;have hz:=h.size;have hnl:=cj c.name;have hdl:=cj c.data
 have hs:b.size=12+c.data.size+R.size:=by
  rw[<-cj b,hb,aac,gJ h,cj]
 have I3:∀a,(four a).length=4:=fun _=>rfl
 have b1:b.data.toList=[]++(four (c.data.size:Int)++(c.name.data.toList++(c.data.data.toList++(four (lU (c.name++c.data))++R.data.toList)))):=by
  rw[hb,kR];simp only[aaw,abb]
 have b2:b.data.toList=four (c.data.size:Int)++(c.name.data.toList++(c.data.data.toList++(four (lU (c.name++c.data))++R.data.toList))):=b1
 have b3:b.data.toList=(four (c.data.size:Int)++(c.name.data.toList++c.data.data.toList))++(four (lU (c.name++c.data))++R.data.toList):=by
  rw[b2];simp only[aaw]
 have b4:b.data.toList=(four (c.data.size:Int)++(c.name.data.toList++(c.data.data.toList++four (lU (c.name++c.data)))))++R.data.toList:=hb
 have hlen:eg b=c.data.size:=by
  have e1:=ju (pre:=[]) (a:=(c.data.size:Int)) b1 (by omega) (by omega);rw[acH,uC b]at e1;exact Int.ofNat.inj e1
 have l3:(four (c.data.size:Int)++(c.name.data.toList++c.data.data.toList)).length=8+c.data.size:=by
  simp only[aac,I3,hnl,hdl];omega
 have hcr:aK b (8+c.data.size)=lU (c.name++c.data):=by
  have hc:=l7 (c.name++c.data);have:=ju b3 hc.1 hc.2;rw[l3]at this;exact this
 have t8:b.data.toList.take (8+c.data.size)=four (c.data.size:Int)++(c.name.data.toList++c.data.data.toList):=by
  rw[b3,<-l3,List.take_left]
 have x1:b.extract 4 (8+c.data.size)=c.name++c.data:=by
  refine ba_eq ?_;rw[c9,t8,jK];exact List.drop_left' rfl
 have l2:(four (c.data.size:Int)++c.name.data.toList).length=8:=by simp only[aac,I3,hnl];omega
 have x2:b.extract 4 8=c.name:=by
  refine ba_eq ?_;rw[c9,b2,<-aaw,List.take_left' l2];exact List.drop_left' rfl
 have x3:b.extract 8 (8+c.data.size)=c.data:=by
  refine ba_eq ?_;rw[c9,t8,<-aaw];exact List.drop_left' l2
 have x4:b.extract (12+c.data.size) b.size=R:=by
  refine ba_eq ?_;rw[c9,abf (by rw[cj];exact aah _),hb];exact List.drop_left' (gJ h)
 have hlet:fA b 4=true:=by
  have key:∀i,i<4->af b (4+i)=af c.name i:=fun i hi=>by
   have:=uP b2 i;rw[I3]at this;rw[this];unfold af;rw[aab,abn (by omega),aab]
  have hl:=h.lets;unfold fA at hl ⊢;rw[key 0 (by omega),key 1 (by omega),key 2 (by omega),key 3 (by omega)];exact hl
 refine⟨by omega,?_,?_,?_⟩
 ·unfold lV;rw[hlen,hcr,x1,hlet,abj (show 12<=b.size by omega),abj hz,abj (show c.data.size+12<=b.size by omega),abj rfl];rfl
 ·unfold o6;rw[hlen,x2,x3]
 ·unfold gE;rw[hlen,x4]
def aH (L:List Ch):List UInt8:=L.flatMap kR
theorem rO:∀(L:List Ch) (b R:ByteArray),(∀c∈L,oe c)->b.data.toList=aH L++R.data.toList->aM b=(aM R).map (L++·)
 | [],b,R,_,hb=>by
  have:b=R:=ba_eq (by rw[hb];rfl);rw[this];cases aM R<;>rfl
 | c::r,b,R,h,hb=>by
  have hb':b.data.toList=kR c++(⟨(aH r++R.data.toList).toArray⟩:ByteArray).data.toList:=by
   rw[hb];show (kR c++aH r)++R.data.toList=kR c++(aH r++R.data.toList)
   rw[aaw]
  obtain⟨h0,h1,h2,h3⟩:=DS (h c abJ) hb';rw[rJ h0 h1,h2,h3,rO r _ R (fun x hx=>h x (acu _ hx)) rfl,Option.map_map];rfl
theorem uQ {L:List Ch}{b:ByteArray}(h:∀c∈L,oe c)(hb:b.data.toList=aH L):aM b=some L:=by
 rw[rO L b ⟨#[]⟩ h (by rw[hb];exact (abp _).symm),uD rfl];show some (L++[])=some L;rw[abp]
abbrev sj:List UInt8:=[137,80,78,71,13,10,26,10]
theorem Bg {b R:ByteArray}(hb:b.data.toList=sj++R.data.toList):gN b=true/\b.extract 8 b.size=R:=by
 have hs:b.size=8+R.size:=by rw[<-cj b,hb,aac,cj];rfl
 have hl:b.data.toList.length=b.size:=cj b;constructor
 ·unfold gN;rw[abj (show 8<=b.size by omega),acT,ByteArray.toList_eq,c9,hb];rfl
 ·refine ba_eq ?_;rw[c9,abf (by omega),hb];rfl
section
open Go.RowKit Go.Maps
def qe:Nat->List Ch->List Int
 | _,[]=>[]
 | p,c::r=>(p:Int)::qe (p+(12+c.data.size)) r
def iK (p:Nat)(L:List Ch):List Int:=qe p L++[((p+(aH L).length:Nat):Int)]
theorem kG (c:Ch)(r:List Ch):aH (c::r)=kR c++aH r:=by unfold aH;rw[List.flatMap_cons]
theorem nG (A B:List Ch):aH (A++B)=aH A++aH B:=by unfold aH;rw[List.flatMap_append]
theorem sO:∀(L:List Ch) (p:Nat),(qe p L).length=L.length
 | [],_=>rfl
 | c::r,p=>by rw[qe,aaA,aaA,sO r]
theorem yS (L:List Ch)(p:Nat):(iK p L).length=L.length+1:=by unfold iK;rw[aac,sO];rfl
theorem yT:∀(A B:List Ch) (p:Nat),(∀c∈A,oe c)->qe p (A++B)=qe p A++qe (p+(aH A).length) B
 | [],B,p,_=>by rw[abb,qe];rfl
 | c::r,B,p,h=>by
  rw[abG,qe,qe,yT r B _ (fun x hx=>h x (acu _ hx)),abG,kG,aac,gJ (h c abJ)]
  congr 3
  omega
theorem LK (A:List Ch)(c:Ch)(p:Nat)(h:∀x∈A,oe x):qe p (A++[c])=qe p A++[((p+(aH A).length:Nat):Int)]:=by
 rw[yT A [c] p h];rfl
theorem Ti (A B:List Ch)(p:Nat)(hA:∀c∈A,oe c):(iK p (A++B)).getD A.length 0=((p+(aH A).length:Nat):Int):=by
 unfold iK;rw[yT A B p hA];have e:(qe p A).length=A.length:=sO A p;cases B with
 | nil =>
  rw[qe,abp,abp];simp[List.getD,e]
 | cons c r =>
  rw[qe];simp[List.getD,e]
theorem OE {A r:List Ch}{c:Ch}{pre:List UInt8}{b:ByteArray}(hc:oe c)(hb:b.data.toList=pre++aH (A++c::r)):aK b (pre.length+(aH A).length)=(c.data.size:Int):=by
 have hs:=hc.size
 have h:b.data.toList=(pre++aH A)++(four (c.data.size:Int)++(c.name.data.toList++(c.data.data.toList++four (lU (c.name++c.data)))++aH r)):=by
  rw[hb,nG,kG];unfold kR;simp only[aaw]
 have:=ju h (by omega) (by omega)
 rwa [aac]at this
end
section
open Go.RowKit
theorem ad3 (n:Nat)(w:World)(hn:n<4294967296): Calls Tryz.prog 12 #[.int .i64 n] w fun e w'=>e=.returned (.string ⟨(four n).toArray⟩)/\Below w.heap.size w w':=by
 have hcv:=rK n hn w
 go_enter Tryz.func12,Tryz.ntmps12
 go_wp2
 go_ret
 exact⟨rfl,ae w _⟩
theorem WY (s:ByteArray)(k:Nat)(w:World)(hs:s.size<=1000000000)(hk:k+4<=s.size): Calls Tryz.prog 30 #[.string s,.int .i64 k] w fun e w'=>e=.returned (.int .i64 (aK s k))/\∃n,w'=w.drewN n:=by
 have q0:k<s.size:=by omega
 have q1:k+1<s.size:=by omega
 have q2:k+2<s.size:=by omega
 have q3:k+3<s.size:=by omega
 have e0:=cD s k q0;have e1:=cD s (k+1) q1;have e2:=cD s (k+2) q2;have e3:=cD s (k+3) q3;have l0:=cE s k;have l1:=cE s (k+1);have l2:=cE s (k+2);have l3:=cE s (k+3);have HF:Hid (aK s k=af s k*16777216+af s (k+1)*65536+af s (k+2)*256+af s (k+3)):=rfl;generalize aK s k=V at *;generalize af s k=b0 at *;generalize af s (k+1)=b1 at *;generalize af s (k+2)=b2 at *;generalize af s (k+3)=b3 at *;have o1:=fN ((b0:Int)*16777216) ((b1:Int)*65536) (b0*16777216) (b1*65536) 24 (by omega) (by omega) (by omega) (by omega) (by omega) (by omega);have o2:=fN ((b0:Int)*16777216+(b1:Int)*65536) ((b2:Int)*256) (b0*16777216+b1*65536) (b2*256) 16 (by omega) (by omega) (by omega) (by omega) (by omega) (by omega);have o3:=fN ((b0:Int)*16777216+(b1:Int)*65536+(b2:Int)*256) (b3:Int) (b0*16777216+b1*65536+b2*256) b3 8 (by omega) (by omega) (by omega) (by omega) (by omega) rfl;have O:Hid (_/\_/\_):=⟨o1,o2,o3⟩
 clear o1 o2 o3;have p0:(k:Int)<(s.size:Int):=by omega
 have p1:(k:Int)+1<(s.size:Int):=by omega
 have p2:(k:Int)+2<(s.size:Int):=by omega
 have p3:(k:Int)+3<(s.size:Int):=by omega
 have g1:(0:Int)<=(k:Int)+1:=by omega
 have g2:(0:Int)<=(k:Int)+2:=by omega
 have g3:(0:Int)<=(k:Int)+3:=by omega
 have x1:IntKind.i64.wrap ((k:Int)+1)=((k+1:Nat):Int):=by rw[aao _ (by omega)];omega
 have x2:IntKind.i64.wrap ((k:Int)+2)=((k+2:Nat):Int):=by rw[aao _ (by omega)];omega
 have x3:IntKind.i64.wrap ((k:Int)+3)=((k+3:Nat):Int):=by rw[aao _ (by omega)];omega
 have y0:IntKind.i64.wrap (b0:Int)=b0:=aao _ (by omega);have y1:IntKind.i64.wrap (b1:Int)=b1:=aao _ (by omega);have y2:IntKind.i64.wrap (b2:Int)=b2:=aao _ (by omega);have y3:IntKind.i64.wrap (b3:Int)=b3:=aao _ (by omega);have z0:IntKind.i64.wrap ((b0:Int)*16777216)=(b0:Int)*16777216:=aao _ (by omega);have z1:IntKind.i64.wrap ((b1:Int)*65536)=(b1:Int)*65536:=aao _ (by omega);have z2:IntKind.i64.wrap ((b2:Int)*256)=(b2:Int)*256:=aao _ (by omega);clear hk
 go_enter Tryz.func30,Tryz.ntmps30
 go_wp2
 go_quiet (fail)
 go_wp2
 go_ret
 exact⟨aI (by simp only[O.out.1,O.out.2.1,O.out.2.2];rw[HF.out]),_,rfl⟩
end
section
open Go.RowKit Go.Maps
theorem yU:∀(L:List Ch),(∀c∈L,oe c)->12*L.length<=(aH L).length
 | [],_=>aaq _
 | c::r,h=>by
  have:=yU r (fun x hx=>h x (acu _ hx));rw[kG,aac,gJ (h c abJ),aaA];omega
theorem Bh {u:World}{base:Nat}{v:Value}{d:List Int}(h:u.ownsRow base 3 1 v d.length (vals d))(x:Int)(hd:d.length<=100000000)(hb:base<=u.heap.size)(ty:TypeId): ∃v' w',(Builtin.append_ #[22,22] ty #[v,.slice (some ⟨u.heap.size,0,none⟩) 1 1]).run Tryz.prog (u.alloc (.cells #[.int .i64 x] 3))=.ok v' w'/\w'.ownsRow base 3 1 v' (d++[x]).length (vals (d++[x]))/\(u.alloc (.cells #[.int .i64 x] 3)).grownBy w' v.ownBlock:=by
 obtain⟨i0,hi,hz0,hz1,hz2⟩:=abu Tryz.info3;have hq:=ah u (.cells #[.int .i64 x] 3)
 obtain⟨v',w',hr,ho',hg',_,_⟩:=run_append_own_at (P:=Tryz.prog) (u.alloc (.cells #[.int .i64 x] 3)) base 22 ty 3 i0 _ 1 8 Tryz.underlying22 hi hz0 hz1 hz2 rfl (by decide) v d.length (vals d) (h.alloc _) ⟨u.heap.size,0,none⟩ 1 1 [.int .i64 x] rfl (fun j y hj=>by
   rw[eJ,aaO,aR hq];simpa using hj) (fun y hy=>by
   simp only[ab9,abw,or_false]at hy
   rw[hy];rfl) (by unfold maxLen;omega) (by omega) (by simp;omega)
 refine⟨v',w',hr,?_,hg'⟩;have e:vals (d++[x])=vals d++[.int .i64 x]:=by simp[vals]
 rw[e,aac];exact ho'
theorem yV {w:World}{B n:Nat}{v:Value}{xs:List Value}(h:w.ownsRow B 3 1 v n xs):∃ao cp,v=.slice ao n cp:=by
 rcases h.2 with⟨rfl,h0⟩|⟨g,cap,cur,rfl,_⟩
 ·exact⟨none,0,by rw[h0]⟩
 ·exact⟨_,_,rfl⟩
theorem uR {w u u':World}{v:Value}{n:Nat}{xs:List Value}{o:Obj}(k:Below w.heap.size w u)(h:u.ownsRow w.heap.size 3 1 v n xs)(g:(u.alloc o).grownBy u' v.ownBlock):Below w.heap.size w u':=by
 have kk:Kp (fun j=>v.ownBlock=some j) u u':=Kp.grown (Kp.aF (ae _ _)) g (fun j hj=>.inl hj);exact k.trans (kk.below k.size (fun j _ hj=>by have:=(h.lt j hj).1;omega))
theorem OG (b:ByteArray)(L:List Ch)(pre:List UInt8)(w:World)(hL:∀c∈L,oe c)(h3:3<=L.length)(hp:pre.length=8)(hb:b.data.toList=pre++aH L)(hs:b.size<=1000000): Calls Tryz.prog 19 #[.string b] w fun e w'=>∃ao cp,e=.returned (.tuple #[.slice ao (iK 8 L).length cp,.bool true])/\w'.ownsRow w.heap.size 3 1 (.slice ao (iK 8 L).length cp) (iK 8 L).length (vals (iK 8 L))/\Below w.heap.size w w':=by
 have hsz:b.size=8+(aH L).length:=by rw[<-cj,hb,aac,hp]
 have HB:Hid (_/\_/\_):=⟨hL,hb,hp⟩
 have HS:Hid (b.size=8+(aH L).length):=hsz;have HG:Hid (12*L.length<=(aH L).length):=yU L hL;have hfr:=fun k u hk=>WY b k u (by omega) hk;have HFR:Hid (_):=hfr;clear hL hb hp hsz hfr
 go_enter Tryz.func19,Tryz.ntmps19
 go_wp2
 go_loopw [4,5] (fun ov iv wr=>∃(A B:List Ch),Hid (L=A++B)/\iv=.int .i64 ((8+(aH A).length:Nat))/\Hid (wr.ownsRow w.heap.size 3 1 ov (qe 8 A).length (vals (qe 8 A)))/\Hid (Below w.heap.size w wr)) (fun _ iv _=>b.size-(intOf iv).toNat)
 case atStart=>exact⟨[],L,rfl,rfl,⟨rfl,.inl ⟨rfl,rfl⟩⟩,aav _ _⟩
 case round =>
  obtain⟨A,B,HA,rfl,HO,HK⟩:=hrel;obtain⟨p,hP⟩:∃p,p=8+(aH A).length:=⟨_,rfl⟩
  have HP:Hid (p=8+(aH A).length):=hP;rw[<-hP];have Zb:∀c∈A,oe c:=fun c hc=>HB.out.1 c (by rw[HA.out];exact List.mem_append_left _ hc);have HAN:Hid (_):=Zb
  have Rq:(qe 8 A).length<=1000000:=by
   have h1:=yU A Zb;have h2:=HS.out;rw[HA.out,nG,aac]at h2;rw[sO];omega
  obtain⟨oa,oc,hov⟩:=yV HO.out;subst hov;cases B with
  | nil =>
   have hend:p=b.size:=by
    have h2:=HS.out;rw[HA.out,abp]at h2;omega
   obtain⟨v',u,hr,ho',hg'⟩:=Bh HO.out (p:Int) (by omega) HK.out.size 22;have HU:Hid (Below w.heap.size w u):=uR HK.out HO.out hg'
   have eP:qe 8 A++[(p:Int)]=iK 8 L:=by
    unfold iK;rw[HA.out,abp,<-HP.out]
   rw[eP]at ho';obtain⟨rU,ol,hv'⟩:=yV ho';subst hv';obtain⟨M,hM⟩:∃M,M=(iK 8 L).length:=⟨_,rfl⟩
   have hM4:(M:Int)>3:=by rw[hM,yS];omega
   have vr:Hid (u.ownsRow w.heap.size 3 1 (.slice rU M ol) M (vals (iK 8 L))):=by rw[hM];exact ho'
   have Zc:Hid (M=(iK 8 L).length):=hM;rw[<-hM]at hr;obtain⟨m,hm⟩:∃m,m=(qe 8 A).length:=⟨_,rfl⟩
   rw[<-hm]at hr ⊢;have hnlt:¬(p:Int)<(b.size:Int):=by omega
   clear ho' hg' HO HA HP hP Zb HAN hm hM eP HFR HB HS HG Rq hend;go_wp2_with (at_builtin;refine aaX _ rfl _ _ _ _ rfl _ _ rfl rfl _ _ hr ?_);exact aaF (v:=.tuple #[.slice rU M ol,.bool true]) (by simp[results,Tryz.results19,go_sem]) rfl ⟨rU,ol,by rw[<-Zc.out],by rw[<-Zc.out];exact vr.out,HU.out⟩
  | cons c r =>
   have hc:oe c:=HB.out.1 c (by rw[HA.out];exact List.mem_append_right _ abJ)
   have hroom:p+12+c.data.size<=b.size:=by
    have h2:=HS.out;rw[HA.out,nG,aac,kG,aac,gJ hc]at h2;omega
   have h4:aK b p=(c.data.size:Int):=by
    have:=OE (pre:=pre) (b:=b) hc (by rw[<-HA.out];exact HB.out.2.1);rw[HB.out.2.2,<-HP.out]at this;exact this
   have hfr:=fun u=>HFR.out p u (by omega);rw[h4]at hfr;obtain⟨n,hn⟩:∃n,n=c.data.size:=⟨_,rfl⟩
   have HN:Hid (n=c.data.size):=hn;rw[<-hn]at hfr hroom;have q1:(p:Int)<(b.size:Int):=by omega
   have q2:¬(b.size:Int)-(p:Int)<12:=by omega
   have q3:¬(n:Int)>(b.size:Int)-(p:Int)-12:=by omega
   obtain⟨m,hm⟩:∃m,m=(qe 8 A).length:=⟨_,rfl⟩
   have HM:Hid (m=(qe 8 A).length):=hm;rw[<-hm];clear hP Zb h4 hc hn hm;go_wp2_with fail;refine (hfr _).mono ?_;rintro e w1 ⟨rfl,k1,hw1⟩
   have IV:w1.ownsRow w.heap.size 3 1 (.slice oa m oc) (qe 8 A).length (vals (qe 8 A)):=by
    rw[hw1,HM.out];exact aJ HO.out (fun _ _=>rfl)
   have hK1:Below w.heap.size w w1:=by rw[hw1];exact aaD HK.out _
   obtain⟨v',u,hr,ho',hg'⟩:=Bh IV (p:Int) (by omega) hK1.size 22;have HU:Hid (Below w.heap.size w u):=uR hK1 IV hg';have vr:Hid (u.ownsRow w.heap.size 3 1 v' (qe 8 A++[(p:Int)]).length (vals (qe 8 A++[(p:Int)]))):=ho';obtain⟨rU,ol,hv'⟩:=yV ho';subst hv';obtain⟨M,hM⟩:∃M,M=(qe 8 A++[(p:Int)]).length:=⟨_,rfl⟩
   have Zc:Hid (M=(qe 8 A++[(p:Int)]).length):=hM;rw[<-hM]at hr;clear ho' hg' IV hK1 hw1 hfr hM;go_wp2_with (at_builtin;refine aaX _ rfl _ _ _ _ rfl _ _ rfl rfl _ _ hr ?_)
   go_roundw
   case rel =>
    refine⟨A++[c],r,?_,?_,?_,HU⟩
    ·rw[aaw];exact HA.out
    ·rw[nG,aac,<-acy,<-HP.out];have hc2:oe c:=HB.out.1 c (by rw[HA.out];exact List.mem_append_right _ abJ);have e1:(aH [c]).length=12+n:=by rw[kG,aac,gJ hc2,HN.out];rfl
     rw[e1]
     congr 1
     omega
    ·rw[LK A c 8 HAN.out,<-HP.out,Zc.out];exact vr.out
   case measure=>simp only[intOf];omega
end
end Go.Proofs.YtmfijackgekioabGreatDoor
