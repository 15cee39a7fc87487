import Derived.Test.YtmfijackgekioabGreatDoorQ36
import Derived.Lib.Builder
import Derived.Lib.AppendStr
import Derived.Laws.Externs
set_option maxHeartbeats 1000000
set_option maxRecDepth 100000
namespace Go.Proofs.YtmfijackgekioabGreatDoor
theorem ba_eq {a b:ByteArray}(h:a.data.toList=b.data.toList):a=b:=ByteArray.ext (Array.toList_inj.1 h)
theorem ba (b:ByteArray):b.data.toList.length=b.size:=by rw[abk];rfl
theorem cF (T:ByteArray)(p q:Nat):(T.extract p q).data.toList=(T.data.toList.take q).drop p:=by
 rw[acs,acP,acl,List.drop_take]
theorem je (a b:ByteArray):(a++b).data.toList=a.data.toList++b.data.toList:=by rw[ByteArray.data_append,Array.toList_append]
theorem pK {b:ByteArray}{pre post:List UInt8}(h:b.data.toList=pre++post)(i:Nat):af b (pre.length+i)=(post.getD i 0).toNat:=by
 unfold af;rw[h,aad,aax (by omega),Nat.add_sub_cancel_left,aad]
theorem fe {b:ByteArray}{pre post:List UInt8}{a:Int}(h:b.data.toList=pre++(four a++post))(h0:0<=a)(h1:a<4294967296):aJ b pre.length=a:=by
 have e:∀i,af b (pre.length+i)=((four a++post).getD i 0).toNat:=pK h;unfold aJ;have e0:=e 0;rw[acq]at e0;rw[e0,e 1,e 2,e 3]
 have k:∀x:Int,0<=x->x<256->((UInt8.ofNat x.toNat).toNat:Int)=x:=fun x h0 h1=>by
  rw[adh];have:x.toNat%2^8=x.toNat:=abt (by omega);rw[this];omega
 simp only[four,abv,List.getD_cons_zero,List.getD_cons_succ,aa9];rw[k _ (by omega) (by omega),k _ (by omega) (by omega),k _ (by omega) (by omega),k _ (by omega) (by omega)];omega
theorem im (s:ByteArray):0<=fF s/\fF s<4294967296:=by
 have:=Mx.EM s.data.toList;unfold fF;omega
def fg (c:Ch):List UInt8:=four (c.data.size:Int)++(c.name.data.toList++(c.data.data.toList++four (fF (c.name++c.data))))
structure k8 (c:Ch):Prop where
 name:c.name.size=4
 lets:fG c.name 0=true
 size:c.data.size<=2147483647
theorem dQ {c:Ch}(h:k8 c):(fg c).length=12+c.data.size:=by
 unfold fg;have:=h.name;simp only[aae,ba];show 4+(_+(_+4))=_;omega
theorem vu {c:Ch}(h:k8 c){b R:ByteArray}(hb:b.data.toList=fg c++R.data.toList):b.size≠0/\ky b=true/\pA b=c/\gL b=R:=by
 have hn:=h.name;have hz:=h.size;have hnl:=ba c.name;have hdl:=ba c.data
 have hs:b.size=12+c.data.size+R.size:=by
  rw[<-ba b,hb,aae,dQ h,ba]
 have Jp:∀a,(four a).length=4:=fun _=>rfl
 have b1:b.data.toList=[]++(four (c.data.size:Int)++(c.name.data.toList++(c.data.data.toList++(four (fF (c.name++c.data))++R.data.toList)))):=by
  rw[hb,fg];simp only[aar,aa9]
 have b2:b.data.toList=four (c.data.size:Int)++(c.name.data.toList++(c.data.data.toList++(four (fF (c.name++c.data))++R.data.toList))):=b1
 have b3:b.data.toList=(four (c.data.size:Int)++(c.name.data.toList++c.data.data.toList))++(four (fF (c.name++c.data))++R.data.toList):=by
  rw[b2];simp only[aar]
 have b4:b.data.toList=(four (c.data.size:Int)++(c.name.data.toList++(c.data.data.toList++four (fF (c.name++c.data)))))++R.data.toList:=hb
 have hlen:dY b=c.data.size:=by
  have e1:=fe (pre:=[]) (a:=(c.data.size:Int)) b1 (by omega) (by omega);rw[acm,nO b]at e1;exact Int.ofNat.inj e1
 have l3:(four (c.data.size:Int)++(c.name.data.toList++c.data.data.toList)).length=8+c.data.size:=by
  simp only[aae,Jp,hnl,hdl];omega
 have hcr:aJ b (8+c.data.size)=fF (c.name++c.data):=by
  have hc:=im (c.name++c.data);have:=fe b3 hc.1 hc.2;rw[l3]at this;exact this
 have t8:b.data.toList.take (8+c.data.size)=four (c.data.size:Int)++(c.name.data.toList++c.data.data.toList):=by
  rw[b3,<-l3,List.take_left]
 have x1:b.extract 4 (8+c.data.size)=c.name++c.data:=by
  refine ba_eq ?_;rw[cF,t8,je];exact List.drop_left' rfl
 have l2:(four (c.data.size:Int)++c.name.data.toList).length=8:=by simp only[aae,Jp,hnl];omega
 have x2:b.extract 4 8=c.name:=by
  refine ba_eq ?_;rw[cF,b2,<-aar,List.take_left' l2];exact List.drop_left' rfl
 have x3:b.extract 8 (8+c.data.size)=c.data:=by
  refine ba_eq ?_;rw[cF,t8,<-aar];exact List.drop_left' l2
 have x4:b.extract (12+c.data.size) b.size=R:=by
  refine ba_eq ?_;rw[cF,aa5 (by rw[ba];exact aaf _),hb];exact List.drop_left' (dQ h)
 have hlet:fG b 4=true:=by
  have key:∀i,i<4->af b (4+i)=af c.name i:=fun i hi=>by
   have:=pK b2 i;rw[Jp]at this;rw[this];unfold af;rw[aad,aaZ (by omega),aad]
  have hl:=h.lets;unfold fG at hl ⊢;rw[key 0 (by omega),key 1 (by omega),key 2 (by omega),key 3 (by omega)];exact hl
 refine⟨by omega,?_,?_,?_⟩
 ·unfold ky;rw[hlen,hcr,x1,hlet,abh (show 12<=b.size by omega),abh hz,abh (show c.data.size+12<=b.size by omega),abh rfl];rfl
 ·unfold pA;rw[hlen,x2,x3]
 ·unfold gL;rw[hlen,x4]
def aC (L:List Ch):List UInt8:=L.flatMap fg
theorem nW:∀(L:List Ch) (b R:ByteArray),(∀c∈L,k8 c)->b.data.toList=aC L++R.data.toList->aM b=(aM R).map (L++·)
 | [],b,R,_,hb=>by
  have:b=R:=ba_eq (by rw[hb];rfl);rw[this];cases aM R<;>rfl
 | c::r,b,R,h,hb=>by
  have hb':b.data.toList=fg c++(⟨(aC r++R.data.toList).toArray⟩:ByteArray).data.toList:=by
   rw[hb];show (fg c++aC r)++R.data.toList=fg c++(aC r++R.data.toList)
   rw[aar]
  obtain⟨h0,h1,h2,h3⟩:=vu (h c abo) hb';rw[jV h0 h1,h2,h3,nW r _ R (fun x hx=>h x (ab3 _ hx)) rfl,Option.map_map];rfl
theorem vw {L:List Ch}{b:ByteArray}(h:∀c∈L,k8 c)(hb:b.data.toList=aC L):aM b=some L:=by
 rw[nW L b ⟨#[]⟩ h (by rw[hb];exact (abm _).symm),pB rfl];show some (L++[])=some L;rw[abm]
abbrev mO:List UInt8:=[137,80,78,71,13,10,26,10]
theorem qu {b R:ByteArray}(hb:b.data.toList=mO++R.data.toList):gy b=true/\b.extract 8 b.size=R:=by
 have hs:b.size=8+R.size:=by rw[<-ba b,hb,aae,ba];rfl
 have hl:b.data.toList.length=b.size:=ba b;constructor
 ·unfold gy;rw[abh (show 8<=b.size by omega),ade,ByteArray.toList_eq,cF,hb];rfl
 ·refine ba_eq ?_;rw[cF,aa5 (by omega),hb];rfl
section
open Go.RowKit Go.Maps
theorem Tryz.infoBuilder:(Tryz.prog.info? 132).map (·.size)=some 2:=by kernel_rfl
theorem Tryz.liesBuilder:liesAt Tryz.prog Tryz.prog.depth 132 (2/Tryz.prog.cellsOf 132) 0 132 1=true:=by kernel_rfl
theorem IG (x:Value)(u:World):(callFunc 154 #[x]).run Tryz.prog u=.ok (.value x) u:=by
 rw[run_callFunc_extern Tryz.func154 (by kernel_rfl) (by kernel_rfl) (by kernel_rfl) (e:=Extern.AbiNoEscape.same) (by kernel_rfl)];rw[Lib.run_noEscape];rfl
structure mR (w:World) (B b:Nat) (l:List UInt8) (v:Value):Prop where
 low:B<=b
 blk:∃p,w.heap[b]?=some (.cells #[p,v] 132 (0,0))/\(p=.pointer none\/p=.pointer (some ⟨b,0,none⟩))
 own:w.ownsRow B 5 1 v l.length (l.map cx)
theorem mR.lt {w:World}{B b:Nat}{l:List UInt8}{v:Value}(h:mR w B b l v):b<w.heap.size:=by
 obtain⟨p,hb,_⟩:=h.blk;exact aac hb
theorem mR.ne {w:World}{B b:Nat}{l:List UInt8}{v:Value}(h:mR w B b l v){j:Nat}{cs:Array Value}{t:TypeId}{fr:Nat×Nat}(hj:w.heap[j]?=some (.cells cs t fr))(ht:t≠5):v.ownBlock≠some j:=Lib.ownBlock_ne h.own hj ht
theorem mR.kept {w w':World}{B b:Nat}{l:List UInt8}{v:Value}(h:mR w B b l v)(k:∀j,j=b\/v.ownBlock=some j->w'.heap[j]?=w.heap[j]?):mR w' B b l v:=by
 obtain⟨p,hb,hp⟩:=h.blk;exact⟨h.low,⟨p,(k b (.inl rfl)).trans hb,hp⟩,aL h.own (fun g hg=>k g (.inr hg))⟩
theorem mR.below {w w':World}{B b:Nat}{l:List UInt8}{v:Value}(h:mR w B b l v)(k:Below w.heap.size w w'):mR w' B b l v :=
 h.kept (fun j hj=>k.block j (by rcases hj with rfl|hj;exact h.lt;exact (h.own.lt j hj).2))
theorem Eo (B b:Nat)(l:List UInt8)(v:Value)(w:World)(h:mR w B b l v): Calls Tryz.prog 128 #[.pointer (some ⟨b,0,none⟩)] w fun e w'=>e=.returned (.tuple #[])/\w'.heap[b]?=some (.cells #[.pointer (some ⟨b,0,none⟩),v] 132 (0,0))/\w'.ownsRow B 5 1 v l.length (l.map cx)/\Kp (·=b) w w':=by
 obtain⟨j,hj,hjs⟩:=Option.map_eq_some_iff.1 Tryz.infoBuilder;obtain⟨p,hb,rfl|rfl⟩:=h.blk
 ·have c0:w.cell? ⟨b,0,none⟩=some (.pointer none):=aas _ _ _ _ _ _ hb;have fz:=aaM w b 0 _ _ hb;have hsh:w.shape? b=some (132,2):=by simp[World.shape?,hb]
  have r1:=Lib.run_to_unsafe (P:=Tryz.prog) w ⟨b,0,none⟩ Tryz.underlying130 Tryz.underlying195 hj (by rw[hjs];decide) hsh (Nat.zero_lt_succ 1);have r2:=Lib.run_from_unsafe (P:=Tryz.prog) w ⟨b,0,none⟩ Tryz.underlying195 Tryz.underlying130 hj hsh Tryz.liesBuilder;have lb:=aac hb
  have HF:Hid ((w.setCell ⟨b,0,none⟩ (.pointer (some ⟨b,0,none⟩))).heap[b]?=some (.cells #[.pointer (some ⟨b,0,none⟩),v] 132 (0,0))/\(w.setCell ⟨b,0,none⟩ (.pointer (some ⟨b,0,none⟩))).ownsRow B 5 1 v l.length (l.map cx)/\Kp (·=b) w (w.setCell ⟨b,0,none⟩ (.pointer (some ⟨b,0,none⟩)))):=by
   refine⟨(aau w b 0 _ _ _ hb).trans rfl,aL h.own (fun g hg=>aam _ ⟨b,0,none⟩ _ g (fun e=>?_)),(Kp.refl (·=b) w).setCell (p:=⟨b,0,none⟩) (.inl rfl) _⟩;exact h.ne hb (by decide) (by rw[hg];exact abY some e)
  have hes:=IG;clear h hb
  go_enter Tryz.func128,Tryz.ntmps128
  go_wp2
  go_end0
  exact⟨rfl,HF.out⟩
 ·have c0:w.cell? ⟨b,0,none⟩=some (.pointer (some ⟨b,0,none⟩)):=aas _ _ _ _ _ _ hb;have r1:=Lib.run_neq_ptr_same (P:=Tryz.prog) w ⟨b,0,none⟩ Tryz.underlying130 hj;have HF:Hid (_/\_):=⟨hb,h.own⟩
  clear h hb
  go_enter Tryz.func128,Tryz.ntmps128
  go_wp2
  go_end0
  exact⟨rfl,HF.out.1,HF.out.2,Kp.refl _ _⟩
theorem la (B b:Nat)(l:List UInt8)(s:ByteArray)(v:Value)(w:World)(h:mR w B b l v)(hB:B<=w.heap.size)(hz:l.length+s.size<=1000000000): Calls Tryz.prog 85 #[.pointer (some ⟨b,0,none⟩),.string s] w fun e w'=>e=.returned (.tuple #[.int .i64 s.size,.nilIface])/\∃v',mR w' B b (l++s.data.toList) v'/\Kp (Rw b v) w w'/\Below B w w':=by
 have hcc:=Eo B b l v w h;have HH:Hid (_):=h;clear h
 go_enter Tryz.func85,Tryz.ntmps85
 go_wp2_with fail;refine hcc.mono ?_;rintro e w1 ⟨rfl,hb,hown,ly⟩;obtain⟨i0,hi,hz0,hz1,hz2⟩:=abx Tryz.infoByte;have z1:=ly.size;obtain⟨v',w2,hr,ho',hg',_⟩:=Lib.run_append_own_string (P:=Tryz.prog) w1 B 36 9 36 5 i0 Tryz.underlying36 Tryz.underlying9 hi hz0 hz1 hz2 v l.length (l.map cx) hown s (by unfold maxLen;omega) (by omega) (by omega);have hne:v.ownBlock≠some b:=Lib.ownBlock_ne hown hb (by decide);have lb:=aac hb;have hb2:w2.heap[b]?=some (.cells #[.pointer (some ⟨b,0,none⟩),v] 132 (0,0)):=(hg'.block b lb (fun e=>hne e.symm)).trans hb;have c1:w1.cell? ⟨b,1,none⟩=some v:=aas _ _ _ _ _ _ hb;have d1:w2.cell? ⟨b,1,none⟩=some v:=aas _ _ _ _ _ _ hb2;have f1:w2.frozen? ⟨b,1,none⟩=false:=aaM w2 b 1 _ _ hb2;have hne2:v'.ownBlock≠some b:=Lib.ownBlock_ne ho' hb2 (by decide)
 have HF:Hid (mR (w2.setCell ⟨b,1,none⟩ v') B b (l++s.data.toList) v'/\Kp (Rw b v) w (w2.setCell ⟨b,1,none⟩ v')/\Below B w (w2.setCell ⟨b,1,none⟩ v')):=by
  have kA:Kp (Rw b v) w (w2.setCell ⟨b,1,none⟩ v'):=by
   have k1:Kp (Rw b v) w w1:=⟨ly.os,ly.tape,ly.output,ly.size,fun k hk hs=>ly.block k hk (fun e=>hs (.inl e))⟩
   exact (Kp.grown k1 hg' (fun k hk=>.inl (.inr hk))).setCell (p:=⟨b,1,none⟩) (.inl (.inl rfl)) _
  refine⟨⟨HH.out.low,⟨_,(aau w2 b 1 _ _ v' hb2).trans rfl,.inr rfl⟩,aL ?_ (fun g hg=>aam _ ⟨b,1,none⟩ _ g (fun e=>hne2 (by rw[hg];exact abY some e)))⟩,kA,kA.below hB (fun k _ e=>?_)⟩
  ·rw[aae,aca,ba];exact ho'
  ·rcases e with e|e
   ·rw[e];exact HH.out.low
   ·exact (HH.out.own.lt k e).1
 obtain⟨ao,cp,hv⟩:∃ao cp,v=.slice ao l.length cp:=by
  rcases hown.2 with⟨rfl,h00⟩|⟨g',cap,cur,rfl,_⟩
  ·exact⟨none,0,by rw[h00]⟩
  ·exact⟨_,_,rfl⟩
 obtain⟨Vi,cp',hv'⟩:∃ao cp,v'=.slice ao (l.length+s.size) cp:=by
  rcases ho'.2 with⟨rfl,h00⟩|⟨g',cap,cur,rfl,_⟩
  ·exact⟨none,0,by rw[h00]⟩
  ·exact⟨_,_,rfl⟩
 obtain⟨m0,hm0⟩:∃m0,m0=l.length:=⟨_,rfl⟩
 obtain⟨m1,hm1⟩:∃m1,m1=l.length+s.size:=⟨_,rfl⟩
 rw[<-hm0]at hv;rw[<-hm1]at hv';subst hv hv';clear hb hb2 hown ho' hg' hne hne2 ly z1 hm0 hm1 hcc HH hz;go_wp2_with (at_builtin;refine aa8 _ rfl (.tmp 12) (.tmp 13) _ _ rfl _ _ rfl rfl _ _ hr ?_);exact aaG (v:=.tuple #[.int .i64 s.size,.nilIface]) (by simp[results,Tryz.results85,go_sem]) rfl ⟨rfl,_,HF.out⟩
structure ld (B b:Nat) (w w':World):Prop where
 below:Below B w w'
 typ:∀j cs t fr,w.heap[j]?=some (.cells cs t fr)->t≠5->j≠b->w'.heap[j]?=some (.cells cs t fr)
theorem ld.refl (B b:Nat)(w:World):ld B b w w:=⟨aav _ _,fun _ _ _ _ h _ _=>h⟩
theorem ld.trans {B b:Nat}{u v w:World}(h:ld B b u v)(k:ld B b v w):ld B b u w:=⟨h.below.trans k.below,fun j cs t fr hj ht hb=>k.typ j cs t fr (h.typ j cs t fr hj ht hb) ht hb⟩
theorem ld.aH {B b:Nat}{w w':World}(k:Below w.heap.size w w')(hB:B<=w.heap.size):ld B b w w':=⟨k.mono hB,fun j _ _ _ hj _ _=>(k.block j (aac hj)).trans hj⟩
theorem ld.jJ {B b:Nat}{l:List UInt8}{v:Value}{w w':World}(h:mR w B b l v)(k:Kp (Rw b v) w w')(kb:Below B w w'):ld B b w w':=⟨kb,fun j _ _ _ hj ht hb=>(k.block j (aac hj) (fun e=>by
 rcases e with e|e
 ·exact hb e
 ·exact h.ne hj ht e)).trans hj⟩
theorem ld.size {B b:Nat}{w w':World}(h:ld B b w w'):w.heap.size<=w'.heap.size:=h.below.size
theorem zw {w:World}{j:Nat}{a c:Value}{t:TypeId}(h:w.heap[j]?=some (.cells #[a,c] t (0,0))):w.cell? ⟨j,0,none⟩=some a/\w.cell? ⟨j,1,none⟩=some c:=⟨aas _ _ _ _ _ _ h,aas _ _ _ _ _ _ h⟩
theorem acn (B b:Nat)(l:List UInt8)(c:Ch)(v:Value)(w:World)(h:mR w B b l v)(hB:B<=w.heap.size)(hz:l.length+12+c.name.size+c.data.size<=900000000): Calls Tryz.prog 86 #[.agg #[.string c.name,.string c.data],.pointer (some ⟨b,0,none⟩)] w fun e w'=>e=.returned (.tuple #[])/\∃v',mR w' B b (l++(four (c.data.size:Int)++(c.name.data.toList++(c.data.data.toList++four (fF (c.name++c.data)))))) v'/\ld B b w w':=by
 have k0:=ae w (.cells #[.string c.name,.string c.data] 83);have q0:=ah w (.cells #[.string c.name,.string c.data] 83);have h0:=h.below k0;have z0:(w.alloc (.cells #[.string c.name,.string c.data] 83)).heap.size=w.heap.size+1:=by simp
 have lb:=h.lt;have hf1:=fun u=>qk c.data.size u (by omega);obtain⟨cr,hcr⟩:∃cr:Nat,fF (c.name++c.data)=(cr:Int):=⟨(fF (c.name++c.data)).toNat,by have:=(im (c.name++c.data)).1;omega⟩
 have hcb:cr<4294967296:=by have:=(im (c.name++c.data)).2;omega
 have hcc:=fun u=>Vv (c.name++c.data) u (by unfold maxLen;rw[ByteArray.size_append];omega);have ecr:4294967295-(Mx.mT (c.name++c.data).data.toList:Int)=(cr:Int):=hcr;rw[ecr]at hcc;have hf2:=fun u=>qk cr u hcb;have ahS:(c.name.size+c.data.size:Nat)<=maxLen:=by unfold maxLen;omega
 obtain⟨x0,x1⟩:=zw q0;have HH:Hid (_/\_/\_/\_):=⟨h0,q0,k0,hcr⟩
 have hl4:∀a,(four a).length=4:=fun _=>rfl;clear h h0 q0 k0 hcr ecr
 go_enter Tryz.func86,Tryz.ntmps86
 go_wp2_with fail;refine (hf1 _).mono ?_;rintro e w1 ⟨rfl,b1⟩;obtain⟨h0,q0,k0,hcr⟩:=HH.out;have zb1:=b1.size;rw[z0]at zb1;have h1:=h0.below b1;have q1:=(b1.block w.heap.size (by omega)).trans q0;have t1:ld B b w w1:=(ld.aH k0 hB).trans (ld.aH b1 (by omega));have hs1:=la B b l ⟨(four (c.data.size:Int)).toArray⟩ v w1 h1 (by omega) (by show _+4<=_;omega);have HX1:Hid (_/\_/\_):=⟨h1,q1,t1⟩
 clear h0 q0 k0 h1 q1 t1 b1 hf1 x0 x1;go_wp2_with fail;refine hs1.mono ?_;rintro e w2 ⟨rfl,v2,h2,vo,Vj⟩;obtain⟨h1,q1,t1⟩:=HX1.out;have t2:=ld.jJ h1 vo Vj;have q2:=t2.typ _ _ _ _ q1 (by decide) (by omega);have zb2:=t2.size;obtain⟨x0,x1⟩:=zw q2;have hs2:=la B b _ c.name v2 w2 h2 (by omega) (by rw[aae,hl4];omega);have Cr:Hid (_/\_/\_):=⟨h2,q2,t1.trans t2⟩
 clear h1 q1 t1 t2 h2 q2 vo Vj hs1 HX1;go_wp2_with fail;refine hs2.mono ?_;rintro e w3 ⟨rfl,v3,h3,Cv,bl3⟩;obtain⟨h2,q2,t2⟩:=Cr.out;have t3:=ld.jJ h2 Cv bl3;have q3:=t3.typ _ _ _ _ q2 (by decide) (by omega);have zb3:=t3.size;obtain⟨x0,x1⟩:=zw q3;have hs3:=la B b _ c.data v3 w3 h3 (by omega) (by rw[aae,aae,hl4,ba];omega);have FW:Hid (_/\_/\_):=⟨h3,q3,t2.trans t3⟩
 clear h2 q2 t2 t3 h3 q3 Cv bl3 hs2 Cr;go_wp2_with fail;refine hs3.mono ?_;rintro e w4 ⟨rfl,v4,h4,Pf,bl4⟩;obtain⟨h3,q3,t3⟩:=FW.out;have t4:=ld.jJ h3 Pf bl4;have q4:=t4.typ _ _ _ _ q3 (by decide) (by omega);have zb4:=t4.size;obtain⟨x0,x1⟩:=zw q4;have HX4:Hid (_/\_/\_):=⟨h4,q4,t3.trans t4⟩
 clear h3 q3 t3 t4 h4 q4 Pf bl4 hs3 FW;go_wp2_with fail;refine (hcc _).mono ?_;rintro e w' ⟨rfl,rfl⟩;go_wp2_with fail;refine (hf2 _).mono ?_;rintro e w5 ⟨rfl,b5⟩;obtain⟨h4,q4,t4⟩:=HX4.out;have zb5:=b5.size;have h5:=h4.below b5;have t5:ld B b w w5:=t4.trans (ld.aH b5 (by omega));have hs5:=la B b _ ⟨(four (cr:Int)).toArray⟩ v4 w5 h5 (by omega) (by simp only[aae,hl4,ba];show _+4<=_;omega);have X9:Hid (_/\_):=⟨h5,t5⟩
 clear h4 q4 t4 b5 h5 t5 HX4 hcc hf2 x0 x1;go_wp2_with fail;refine hs5.mono ?_;rintro e w6 ⟨rfl,v6,h6,oQ,bl6⟩;obtain⟨h5,t5⟩:=X9.out;have HF:Hid (_/\_):=⟨h6,t5.trans (ld.jJ h5 oQ bl6)⟩
 clear h5 t5 h6 oQ bl6 hs5 X9;go_wp2
 go_end0
 refine⟨rfl,v6,?_,HF.out.2⟩;have:=HF.out.1;rw[<-hcr]at this;simp only[aar]at this;exact this
def qC:Nat->List Ch->List Int
 | _,[]=>[]
 | p,c::r=>(p:Int)::qC (p+(12+c.data.size)) r
def iX (p:Nat)(L:List Ch):List Int:=qC p L++[((p+(aC L).length:Nat):Int)]
theorem gq (c:Ch)(r:List Ch):aC (c::r)=fg c++aC r:=by unfold aC;rw[List.flatMap_cons]
theorem jG (A B:List Ch):aC (A++B)=aC A++aC B:=by unfold aC;rw[List.flatMap_append]
theorem tv:∀(L:List Ch) (p:Nat),(qC p L).length=L.length
 | [],_=>rfl
 | c::r,p=>by rw[qC,aaw,aaw,tv r]
theorem zx (L:List Ch)(p:Nat):(iX p L).length=L.length+1:=by unfold iX;rw[aae,tv];rfl
theorem zy:∀(A B:List Ch) (p:Nat),(∀c∈A,k8 c)->qC p (A++B)=qC p A++qC (p+(aC A).length) B
 | [],B,p,_=>by rw[aa9,qC];rfl
 | c::r,B,p,h=>by
  rw[abv,qC,qC,zy r B _ (fun x hx=>h x (ab3 _ hx)),abv,gq,aae,dQ (h c abo)]
  congr 3
  omega
theorem Mn (A:List Ch)(c:Ch)(p:Nat)(h:∀x∈A,k8 x):qC p (A++[c])=qC p A++[((p+(aC A).length:Nat):Int)]:=by
 rw[zy A [c] p h];rfl
theorem Ub (A B:List Ch)(p:Nat)(hA:∀c∈A,k8 c):(iX p (A++B)).getD A.length 0=((p+(aC A).length:Nat):Int):=by
 unfold iX;rw[zy A B p hA];have e:(qC p A).length=A.length:=tv A p;cases B with
 | nil =>
  rw[qC,abm,abm];simp[List.getD,e]
 | cons c r =>
  rw[qC];simp[List.getD,e]
theorem Pw {A r:List Ch}{c:Ch}{pre:List UInt8}{b:ByteArray}(hc:k8 c)(hb:b.data.toList=pre++aC (A++c::r)):aJ b (pre.length+(aC A).length)=(c.data.size:Int):=by
 have hs:=hc.size
 have h:b.data.toList=(pre++aC A)++(four (c.data.size:Int)++(c.name.data.toList++(c.data.data.toList++four (fF (c.name++c.data)))++aC r)):=by
  rw[hb,jG,gq];unfold fg;simp only[aar]
 have:=fe h (by omega) (by omega)
 rwa [aae]at this
def xX:List Ch->Nat->Nat->Nat
 | [],_,i=>i
 | c::r,p,i=>xX r (p+(12+c.data.size)) (if p<=i/\i<p+4 then p+4 else i)
theorem zA:∀(L:List Ch) (p i:Nat),i<p->xX L p i=i
 | [],_,_,_=>rfl
 | c::r,p,i,h=>by rw[xX,aag (by omega),zA r _ i (by omega)]
theorem Mp:∀(L:List Ch) (p i:Nat),i<=xX L p i
 | [],_,i=>aaf i
 | c::r,p,i=>by
  rw[xX];refine aba ?_ (Mp r _ _);split<;>omega
theorem Mq:∀(L:List Ch) (p i:Nat),(∀c∈L,k8 c)->i<p+(aC L).length->xX L p i<p+(aC L).length/\∀A c B,L=A++c::B->¬(p+(aC A).length<=xX L p i/\xX L p i<p+(aC A).length+4)
 | [],p,i,_,h=>⟨h,fun A c B e=>by simp at e⟩
 | d::r,p,i,hN,h=>by
  have hl:(aC (d::r)).length=12+d.data.size+(aC r).length:=by rw[gq,aae,dQ (hN d abo)]
  have hA:∀A' c B,d::r=(d::A')++c::B->(aC (d::A')).length=12+d.data.size+(aC A').length:=fun A' _ _ _=>by
   rw[gq,aae,dQ (hN d abo)]
  by_cases q:p<=i/\i<p+4
  ·have e:xX (d::r) p i=p+4:=by rw[xX,aai q,zA r _ _ (by omega)]
   rw[e,hl];refine⟨by omega,fun A c B eL=>?_⟩;cases A with
   | nil=>show ¬(p+0<=p+4/\p+4<p+0+4);omega
   | cons a A' =>
    have ea:d=a:=(List.cons.inj eL).1;subst ea;rw[hA A' c B eL];omega
  ·have e:xX (d::r) p i=xX r (p+(12+d.data.size)) i:=by rw[xX,aag q]
   by_cases hlt:i<p
   ·have e2:xX r (p+(12+d.data.size)) i=i:=zA r _ _ (by omega);rw[e,e2];exact⟨h,fun A c B _=>by omega⟩
   ·obtain⟨h1,h2⟩:=Mq r (p+(12+d.data.size)) i (fun x hx=>hN x (ab3 _ hx)) (by omega);have hu:=Mp r (p+(12+d.data.size)) i;rw[e,hl];refine⟨by omega,fun A c B eL=>?_⟩;cases A with
    | nil=>show ¬(p+0<=_/\_<p+0+4);omega
    | cons a A' =>
     have ea:=List.cons.inj eL;obtain⟨ea,er⟩:=ea;subst ea;have:=h2 A' c B er;rw[hA A' c B eL];omega
end
end Go.Proofs.YtmfijackgekioabGreatDoor
