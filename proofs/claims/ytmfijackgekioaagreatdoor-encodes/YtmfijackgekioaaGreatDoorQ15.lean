import Derived.Test.YtmfijackgekioaaGreatDoorQ14
set_option maxHeartbeats 2000000
set_option maxRecDepth 100000
namespace Go.Proofs.YtmfijackgekioaaGreatDoor
open Go.RowKit
def heavy (ws:List Int)(k:Nat):List Nat:=(List.range k).filter (fun x=>decide (0<ws.getD x 0))
theorem zq (ws:List Int)(k:Nat):(heavy ws k).Nodup:=List.nodup_range.filter _
theorem gi (ws:List Int)(k x:Nat):x∈heavy ws k↔x<k/\0<ws.getD x 0:=by simp[heavy]
theorem pY (ws:List Int)(k:Nat)(h:0<ws.getD k 0):heavy ws (k+1)=heavy ws k++[k]:=by
 rw[heavy,List.range_succ,List.filter_append,List.filter_cons,aaf (by simpa using h)];rfl
theorem zr (ws:List Int)(k:Nat)(h:¬0<ws.getD k 0):heavy ws (k+1)=heavy ws k:=by
 rw[heavy,List.range_succ,List.filter_append,List.filter_cons,aae (by simpa using h),List.filter_nil,aa9];rfl
theorem sO (ws:List Int)(k:Nat):(heavy ws k).length<=k:=by
 have:=List.length_filter_le (fun x=>decide (0<ws.getD x 0)) (List.range k);simpa[heavy]using this
structure xk (S:List Mb) (X:List Nat) (M:Int) (lo:Nat):Prop where
 ns:S.map Mb.ns=X.map (fun x=>[x])
 all:∀x∈S,0<x.w/\x.w<=M/\x.n=1/\∀ad,x.a=some ad->∃b,ad=⟨b,0,none⟩/\lo<=b
theorem xk.perm {S S':List Mb}{X:List Nat}{M:Int}{lo:Nat}(h:xk S X M lo)(hp:S'.Perm S):∃X',xk S' X' M lo/\X'.Perm X:=by
 have h1:(S'.map Mb.ns).Perm (X.map (fun x=>[x])):=by rw[<-h.ns];exact hp.map _
 refine⟨S'.map (fun x=>x.ns.headD 0),⟨?_,fun x hx=>h.all x ((hp.mem_iff).1 hx)⟩,?_⟩
 ·rw[List.map_map];refine abn (fun x hx=>?_);have:x.ns∈X.map (fun x=>[x]):=(h1.mem_iff).1 (List.mem_map.2 ⟨x,hx,rfl⟩);obtain⟨k,_,e⟩:=List.mem_map.1 this;simp[<-e]
 ·have:=h1.map (fun l=>l.headD 0);rw[List.map_map,List.map_map]at this
  have e:X.map ((fun l:List Nat=>l.headD 0)∘fun x=>[x])=X:=by
   have:((fun l:List Nat=>l.headD 0)∘fun x=>[x])=id:=by funext x;rfl
   rw[this,List.map_id]
  rw[e]at this;exact this
theorem qK (ws:List Int)(N cap:Nat)(ao:Option Addr)(w:World)(hN:ws.length=N)(LH:N<=320)(hint:Ints w ao ws)(ha:∀a,ao=some a->ws≠[]->a.block<w.heap.size)(M:Int)(hw:∀j,0<=ws.getD j 0/\ws.getD j 0<=M): Calls Tryz.prog 245 #[.slice ao N cap] w fun e w'=>∃v S X,e=.returned v/\ki w' w.heap.size v S/\S.Pairwise (fun a b=>a.w<=b.w)/\xk S X M w.heap.size/\X.Perm (heavy ws N)/\Below w.heap.size w w':=by
 obtain⟨i0,hi,hz0,hz1,hz2⟩:=aaX Tryz.infoBundle
 go_enter Tryz.func245,Tryz.ntmps245
 go_wp2
 go_loopw [3,8] (fun ov iv wr=>∃(k:Nat) (R:List Mb) (oa:Option Addr) (oc m:Nat),k<=N/\m<=k/\iv=.int .i64 k/\ov=.slice oa m oc/\R.length=m/\Hid (ND wr w.heap.size (.slice oa m oc) R)/\Hid (xk R (heavy ws k) M w.heap.size)/\Below w.heap.size w wr) (fun _ iv _=>N-(intOf iv).toNat)
 case atStart=>exact⟨0,[],none,0,0,aaj _,aad _,rfl,rfl,rfl,⟨aba _ _ _ _,by simp⟩,⟨by simp[heavy],by simp⟩,aak _ _⟩
 case round =>
  obtain⟨k,R,oa,oc,m,hk,hmk,rfl,rfl,VI,HB,HO,hb⟩:=hrel;by_cases hlt:k<N
  ·obtain⟨b,off,rfl,hc⟩:=hint k (by omega);have hbk:=ha _ rfl (ne_of_lt (show k<ws.length by omega));have hy2:ws[k]=ws.getD k 0:=by simp[List.getD,List.getElem?_eq_getElem (show k<ws.length by omega)]
   have hc2:wr.cell? ⟨b,off+k,none⟩=some (.int .i64 (ws.getD k 0)):=(hb.cell (p:=⟨b,off+k,none⟩) hbk).trans (by rw[hc,hy2]);have hwk:=hw k;clear hc hy2;by_cases hpos:0<ws.getD k 0
   ·have Ri:Hid (heavy ws (k+1)=heavy ws k++[k]):=pY ws k hpos;generalize ws.getD k 0=y at *;have kB:Below wr.heap.size wr ((wr.alloc (.cells #[.int .i64 (k:Int)] 3)).alloc (.cells #[.int .i64 y,.slice (some ⟨wr.heap.size,0,none⟩) 1 1] 262)):=((aak _ _).alloc (aad _) _).alloc (by simp) _
    have Zz:iZ ((wr.alloc (.cells #[.int .i64 (k:Int)] 3)).alloc (.cells #[.int .i64 y,.slice (some ⟨wr.heap.size,0,none⟩) 1 1] 262)) ⟨y,some ⟨wr.heap.size,0,none⟩,1,1,[k]⟩:=by
     refine iZ.below (w:=wr.alloc (.cells #[.int .i64 (k:Int)] 3)) ⟨⟨⟨_,_,rfl,(fun e=>nomatch e),fun ad e _=>?_⟩,rfl,fun u hu=>?_⟩,fun ad e _=>?_⟩ (ag _ _)
     ·cases e;refine⟨by simp,fun j u hj=>?_⟩;rw[fX,aaF,d8 (ak wr _)];simpa using hj
     ·simp only[ach,List.map_nil,abf]at hu;rw[hu];rfl
     ·simp only[abH]at e;subst e;exact⟨_,_,ak wr _⟩
    have Ir:((wr.alloc (.cells #[.int .i64 (k:Int)] 3)).alloc (.cells #[.int .i64 y,.slice (some ⟨wr.heap.size,0,none⟩) 1 1] 262)).ownsRow w.heap.size 262 2 (.slice oa m oc) m (cellsOf R):=by
     have:=bK HB.out.own (fun g hg=>kB.block g (HB.out.own.lt g hg).2)
     rwa [VI]at this
    have hsB:Src ((wr.alloc (.cells #[.int .i64 (k:Int)] 3)).alloc (.cells #[.int .i64 y,.slice (some ⟨wr.heap.size,0,none⟩) 1 1] 262)) 2 (.slice (some ⟨wr.heap.size+1,0,none⟩) 1 1) 1 [.int .i64 y,.slice (some ⟨wr.heap.size,0,none⟩) 1 1]:=by
     refine⟨⟨_,_,rfl,(fun e=>nomatch e),fun ad e hne=>?_⟩,rfl,fun u hu=>?_⟩
     ·cases e;refine⟨by simp,fun j u hu=>?_⟩;have hbn:((wr.alloc (.cells #[.int .i64 (k:Int)] 3)).alloc (.cells #[.int .i64 y,.slice (some ⟨wr.heap.size,0,none⟩) 1 1] 262)).heap[wr.heap.size+1]?=some (.cells #[.int .i64 y,.slice (some ⟨wr.heap.size,0,none⟩) 1 1] 262 (0,0)):=sK (by simp);rw[fX,aaF,d8 hbn];simpa using hu
     ·simp only[ab0,abC,or_false]at hu;rcases hu with rfl|rfl<;>rfl
    have RU:=kB.size;obtain⟨v',w',hr,ho',hg'⟩:=cj (ty:=259) Tryz.underlying259 hi hz0 hz1 hz2 rfl (by decide) Ir hsB (by unfold maxLen;omega) (by omega) (by have:=hb.size;omega);obtain⟨ll,j5,rfl⟩:=aU ho'
    have O6:Hid (ND w' w.heap.size (.slice ll (m+1) j5) (R++[⟨y,some ⟨wr.heap.size,0,none⟩,1,1,[k]⟩])):=by
     refine⟨?_,fun z hz=>?_⟩
     ·rw[iI,aac,VI];exact ho'
     ·rcases aa8.1 hz with q|q
      ·exact ((HB.out.nums z q).below kB).grown Ir hg'
      ·rw[abf.1 q];exact Zz.grown Ir hg'
    have SD:Hid (xk (R++[⟨y,some ⟨wr.heap.size,0,none⟩,1,1,[k]⟩]) (heavy ws (k+1)) M w.heap.size):=by
     rw[Ri.out];refine⟨by rw[abo,abo,HO.out.ns];rfl,fun x hx=>?_⟩;rcases aa8.1 hx with q|q
     ·exact HO.out.all x q
     ·rw[abf.1 q];exact⟨hpos,hwk.2,rfl,fun ad e=>by cases e;exact⟨_,rfl,hb.size⟩⟩
    have hb':Below w.heap.size w w':=bH (hb.trans (kB.mono hb.size)) hg' (fun k hk=>(Ir.lt k hk).1) (aad _);have hpos':(y:Int)>0:=hpos;clear Zz Ir hsB ho' hg' HB HO;go_wp2_with (at_builtin;refine aa6 _ rfl _ _ _ _ rfl _ _ rfl rfl _ _ hr ?_)
    go_roundw
    case rel=>exact⟨k+1,_,ll,j5,m+1,by omega,by omega,by go_num,rfl,by simp[VI],O6,SD,hb'⟩
    case measure=>simp[intOf];omega
   ·have Ri:Hid (heavy ws (k+1)=heavy ws k):=zr ws k hpos;generalize ws.getD k 0=y at *;have hpos':¬y>0:=hpos;go_wp2
    go_roundw
    case rel=>exact⟨k+1,R,oa,oc,m,by omega,by omega,by go_num,rfl,VI,HB,by rw[Ri.out];exact HO,hb⟩
    case measure=>simp[intOf];omega
  ·have e:k=N:=by omega
   subst e;have O8:=HB.out.O7;have hRl:R.length<=1000000:=by omega
   go_wp2_with fail;refine (Dg 255 O1 w.heap.size _ R wr O8 hRl hb.size).mono ?_;rintro e w1 ⟨rfl,S,h1,h2,h3⟩;obtain⟨X,hX1,hX2⟩:=HO.out.perm h2.perm;go_wp2
   go_ret
   exact⟨_,S,X,rfl,h1,h2.sorted,hX1,hX2,hb.trans h3⟩
def bd (N:Nat)(xs:List Nat):List Int:=(List.range N).map (fun x=>((xs.count x:Nat):Int))
theorem bX (N:Nat)(xs:List Nat):(bd N xs).length=N:=by simp[bd]
theorem gN (N:Nat)(xs:List Nat)(j:Nat)(h:j<N):(bd N xs).getD j 0=((xs.count j:Nat):Int):=by
 unfold bd;rw[aaa,abk,List.getElem?_range h];rfl
theorem zt (N:Nat)(xs:List Nat)(k:Nat):bd N (xs++[k])=(bd N xs).set k ((bd N xs).getD k 0+1):=by
 apply abt
 ·simp[bd]
 ·intro j h1 h2;have hj:j<N:=by simpa[bd]using h1
  rw[List.getElem_set];by_cases e:k=j
  ·subst e;rw[aaf rfl,gN N xs k hj];simp only[bd,abL,abP,List.count_append];simp
  ·rw[aae e];simp only[bd,abL,abP,List.count_append];have:¬k=j:=e;simp[this]
theorem Bu (N:Nat):vals (bd N [])=List.replicate N (.int .i64 0):=by
 rw[<-aX]
 congr 1
 apply abt
 ·simp[bd]
 ·intro j _ _;simp[bd]
def la (N:Nat)(W:Int)(K:Nat)(l:List Mb):Prop:=∀x∈l,0<=x.w/\x.w<=W/\x.n<=K/\x.ns.length=x.n/\∀k∈x.ns,k<N
def vI (lo:Nat)(l:List Mb):Prop:=∀x∈l,∀ad,x.a=some ad->∃b,ad=⟨b,0,none⟩/\lo<=b
theorem la.mono {N:Nat}{W W':Int}{K K':Nat}{l:List Mb}(h:la N W K l)(h1:W<=W')(h2:K<=K'):la N W' K' l:=fun x hx=>by
 obtain⟨a,b,c,d⟩:=h x hx;exact⟨a,by omega,by omega,d⟩
theorem la.perm {N:Nat}{W:Int}{K:Nat}{l l':List Mb}(h:la N W K l)(hp:l'.Perm l):la N W K l':=fun x hx=>h x ((hp.mem_iff).1 hx)
theorem la.append {N:Nat}{W:Int}{K:Nat}{l l':List Mb}(h:la N W K l)(h':la N W K l'):la N W K (l++l'):=fun x hx=>by
 rcases aa8.1 hx with q|q
 ·exact h x q
 ·exact h' x q
theorem qJ.fine {N:Nat}{W:Int}{K:Nat}{l out:List Mb}(h:qJ l out)(hf:la N W K l):la N (2*W) (2*K) out:=by
 intro x hx;obtain⟨j,hj,rfl⟩:=abU hx;have ht:=h.2 j hj;rw[dS out j hj]at ht;obtain⟨t1,t2,t3⟩:=ht;have hl:=h.1;have m1:cV l (2*j)∈l:=by rw[dS l _ (by omega)];exact aaR _
 have m2:cV l (2*j+1)∈l:=by rw[dS l _ (by omega)];exact aaR _
 obtain⟨a1,b1,c1,d1,e1⟩:=hf _ m1;obtain⟨a2,b2,c2,d2,e2⟩:=hf _ m2;refine⟨by omega,by omega,by omega,by rw[t2,aac];omega,fun k hk=>?_⟩;rw[t2]at hk;rcases aa8.1 hk with q|q
 ·exact e1 k q
 ·exact e2 k q
theorem qJ.O9 {l out:List Mb}(h:qJ l out)(hl:out.length=l.length/2):Rf.j8 Mb.w Mb.ns l out:=by
 refine⟨hl,fun j hj h1 h2=>?_⟩;have ht:=h.2 j hj;rw[dS out j hj,dS l _ h1,dS l _ h2]at ht;exact⟨ht.1,ht.2.1⟩
theorem xk.fine {N:Nat}{S:List Mb}{X:List Nat}{M:Int}{lo:Nat}(h:xk S X M lo)(hX:∀x∈X,x<N):la N M 1 S:=by
 intro x hx;obtain⟨a,b,c,_⟩:=h.all x hx;have:x.ns∈X.map (fun x=>[x]):=by rw[<-h.ns];exact List.mem_map.2 ⟨x,hx,rfl⟩
 obtain⟨k,hk,e⟩:=List.mem_map.1 this;refine⟨by omega,b,by omega,by rw[<-e,c];rfl,fun q hq=>?_⟩;rw[<-e]at hq;rw[abf.1 hq];exact hX k hk
structure dr (ws:List Int) (N L:Nat) (lens:List Int):Prop where
 len:lens.length=N
 uH:∀j,0<=lens.getD j 0/\lens.getD j 0<=L
 pos:∀j,j∈heavy ws N->0<lens.getD j 0
 non:∀j,j∉heavy ws N->lens.getD j 0=0
 full:2<=(heavy ws N).length->Rf.fs lens N=32768
 one:(heavy ws N).length=1->∀j,j∈heavy ws N->lens.getD j 0=1
theorem LV {ws:List Int}{N L:Nat}{S rl:List Mb}{X:List Nat}{M:Int}{lo:Nat}(hN:N<=2^L)(hL:L<=15)(hL1:1<=L)(hS:S.Pairwise (fun a b=>a.w<=b.w))(h1:xk S X M lo)(hX:X.Perm (heavy ws N))(hr:Rf.Rows Mb.w Mb.ns S L rl)(hn1:X.length≠1)(hfi:∀x∈rl,∀k∈x.ns,k<N): dr ws N L (bd N ((rl.take (2*X.length-2)).flatMap Mb.ns)):=by
 have Ra:S.length=X.length:=by have:=abq List.length h1.ns;simpa using this
 have VJ:∀x∈X,x<N:=fun x hx=>((gi ws N x).1 ((hX.mem_iff).1 hx)).1;have hlen:=hX.length_eq;have hle:=sO ws N;by_cases h2:2<=X.length
 ·have:=Rf.wY (wt:=Mb.w) (ns:=Mb.ns) (S:=S) (row:=rl) (X:=X) (L:=L) (M:=N) (lens:=bd N ((rl.take (2*X.length-2)).flatMap Mb.ns)) hS (fun x hx=>by have:=(h1.all x hx).1;omega) h1.ns ((hX.nodup_iff).2 (zq ws N)) VJ h2 (by omega) hL hr (fun j=>?_)
  ·obtain⟨a,b,c,d⟩:=this;exact⟨bX _ _,a,fun j hj=>b j ((hX.mem_iff).2 hj),fun j hj=>c j (fun q=>hj ((hX.mem_iff).1 q)),fun _=>d,fun q=>by omega⟩
  ·by_cases hj:j<N
   ·rw[gN N _ j hj];rfl
   ·rw[aaa,aas (by rw[bX];omega)]
    have:Rf.cnt Mb.ns j (rl.take (2*X.length-2))=0:=by
     unfold Rf.cnt;rw[List.count_eq_zero];intro hm;obtain⟨x,hx,hk⟩:=List.mem_flatMap.1 hm;exact hj (hfi x (acb hx) j hk)
    rw[this];rfl
 ·have h0:X.length=0:=by omega
  have Rj:X=[]:=aau h0;have hh:heavy ws N=[]:=aau (by omega);rw[h0];have e:(rl.take (2*0-2)).flatMap Mb.ns=[]:=by simp
  rw[e]
  have z:∀j,(bd N []).getD j 0=0:=fun j=>by
   by_cases hj:j<N
   ·rw[gN N [] j hj];simp
   ·rw[aaa,aas (by rw[bX];omega)];rfl
  exact⟨bX _ _,fun j=>by rw[z];omega,fun j hj=>by rw[hh]at hj;simp at hj,fun j _=>z j,fun q=>by omega,fun q=>by omega⟩
structure pZ (wr:World) (base:Nat) (N:Nat) (M:Int) (S:List Mb) (v6:Value) (k:Nat) (v7:Value) (rl:List Mb):Prop where
 rows:Rf.Rows Mb.w Mb.ns S (k+1) rl
 VK:ki wr base v7 rl
 Pa:ki wr base v6 S
 fine:la N (M*2^k) (2^k) rl
 VL:vI base rl
 ZA:vI base S
 len:rl.length<2*S.length\/rl=[]
theorem ki.row {w:World}{base:Nat}{v:Value}{l:List Mb}(h:ki w base v l):∃T ao cap,v=.slice ao l.length cap/\(0<l.length->ao=some ⟨T,0,none⟩/\aW w T l.length (fun k=>(cV l k,k))):=by
 rcases h.val with⟨rfl,rfl⟩|⟨T,cap,h1,_,_,h3⟩
 ·exact⟨0,none,0,rfl,fun h=>by simp at h⟩
 ·exact⟨T,_,cap,h1,fun _=>⟨rfl,h3⟩⟩
theorem pZ.next {wr w2 w3 w4 w5:World}{base N k:Nat}{M:Int}{S rl out l':List Mb}{v6 v7 ZB:Value}(h:pZ wr base N M S v6 k v7 rl)(hp:qJ rl out)(hpl:out.length=rl.length/2)(hst:Rf.Stable Mb.w (S++out) l')(hf0:la N M 1 S)(hM:0<=M)(hab:vI base out)(O8:ki w5 base ZB l')(b1:Below wr.heap.size wr w2)(b2:Below w2.heap.size w2 w3)(b3:Below w3.heap.size w3 w4)(b4:Below w3.heap.size w4 w5):pZ w5 base N M S v6 (k+1) ZB l':=by
 have hl:=hst.perm.length_eq;rw[aac]at hl;have p1:1<=2^(k+1):=Nat.one_le_two_pow;refine⟨⟨rl,out,h.rows,hp.O9 hpl,hst⟩,O8,((h.Pa.below b1).below b2).below (b3.trans b4),?_,fun x hx=>?_,h.ZA,?_⟩
 ·refine la.perm (la.append (hf0.mono ?_ p1) ((hp.fine h.fine).mono ?_ ?_)) hst.perm
  ·have:M*1<=M*2^(k+1):=Int.mul_le_mul_of_nonneg_left (by
    have:(1:Int)<=((2^(k+1):Nat):Int):=by omega
    simpa using this) hM
   omega
  ·rw[Int.pow_succ,Int.mul_comm 2,Int.mul_assoc];exact abj _
  ·rw[ab1];omega
 ·rcases aa8.1 ((hst.perm.mem_iff).1 hx) with q|q
  ·exact h.ZA x q
  ·exact hab x q
 ·cases S with
  | nil =>
   rcases h.len with q|q
   ·simp at q
   ·right
    subst q;have h0:out.length=0:=by simpa using hpl
    rw[aau h0]at hst;have:=hst.perm.length_eq;exact aau (by simpa using this)
  | cons x l =>
   left
   rcases h.len with q|q
   ·simp only[aao]at *;omega
   ·subst q;simp only[aao,abS]at *;omega
theorem zu {w:World}{base base':Nat}{e:TypeId}{size:Nat}{v:Value}{n:Nat}{xs:List Value}(h:w.ownsRow base e size v n xs)(hb:base'<=base):w.ownsRow base' e size v n xs:=by
 refine⟨h.1,?_⟩;rcases h.2 with h'|⟨g,cap,cur,rfl,hb',r⟩
 ·exact .inl h'
 ·exact .inr ⟨g,cap,cur,rfl,by omega,r⟩
theorem iZ.apart {w w':World}{x:Mb}{Lb:Nat}(h:iZ w x)(k:Kp (·=Lb) w w')(ha:∀ad,x.a=some ad->∃b,ad=⟨b,0,none⟩/\Lb+1<=b):iZ w' x:=by
 have key:∀ad,x.a=some ad->x.ns≠[]->w'.heap[ad.block]?=w.heap[ad.block]?:=fun ad e hne=>by
  obtain⟨cs,fr,q⟩:=h.typ ad e hne;obtain⟨b,rfl,hb⟩:=ha ad e;exact k.block _ (aab q) (show ¬b=Lb by omega)
 obtain⟨⟨⟨a,c,h1,h2,h3⟩,h4,h5⟩,h6⟩:=h;refine⟨⟨⟨a,c,h1,h2,fun ad e hne=>?_⟩,h4,h5⟩,fun ad e hne=>?_⟩
 ·obtain⟨q1,q2⟩:=h3 ad e hne;simp only[abd]at h1;have kk:=key ad (h1.1.trans e) (fun hh=>hne (by rw[hh];rfl));exact⟨aar q1 k.size,fun j u hj=>(aaT (w:=w) (a:=ad.add j) (by rw[add_block];exact kk)).trans (q2 j u hj)⟩
 ·obtain⟨cs,fr,q⟩:=h6 ad e hne;exact⟨cs,fr,(key ad e hne).trans q⟩
theorem NF (k:Nat)(h:k<=14):(2:Nat)^k<=16384:=by
 have:=aa2 (n:=2) (by omega) h;omega
theorem cF (ws:List Int)(N L cap:Nat)(ao:Option Addr)(w:World)(hN:ws.length=N)(LH:N<=320)(hNL:N<=2^L)(hL:L<=15)(hL1:1<=L)(hint:Ints w ao ws)(ha:∀a,ao=some a->ws≠[]->a.block<w.heap.size)(hw:∀j,0<=ws.getD j 0/\ws.getD j 0<=1000000): Calls Tryz.prog 232 #[.slice ao N cap,.int .i64 L] w fun e w'=>∃lens,e=.returned (.slice (some ⟨w.heap.size,0,none⟩) N N)/\aR w' w.heap.size lens/\dr ws N L lens/\Below w.heap.size w w':=by
 obtain⟨Z,hZ⟩:∃Z:List Value,Z=List.replicate N (.int .i64 0):=⟨_,rfl⟩
 have hmk:∀u:World,(Instr.makeSlice 24 (.int .i64 N) (.int .i64 N)).run Tryz.prog u=.ok (.slice (some ⟨u.heap.size,0,none⟩) N N) (u.alloc (.cells Z.toArray 3)):=fun u=>iE N LH Z hZ u;have HZ:Hid (Z=vals (bd N [])):=by show _=_;rw[hZ,Bu]
 clear hZ;have k0:=ag w (.cells Z.toArray 3)
 go_enter Tryz.func232,Tryz.ntmps232
 go_wp2_with fail;refine (qK ws N cap ao _ hN LH (hint.below k0 ha) (fun a e h=>by have:=ha a e h;simp;omega) 1000000 hw).mono ?_;rintro e w1 ⟨v6,S,X,rfl,hS1,hS2,uI,hX,hb1⟩;obtain⟨s6,c6,e6⟩:=hS1.slice;have Ra:S.length=X.length:=by have:=abq List.length uI.ns;simpa using this
 have GA:=hX.length_eq;have hle:=sO ws N
 have hL0:aR w1 w.heap.size (bd N []):=by
  have:w1.heap[w.heap.size]?=some (.cells Z.toArray 3 (0,0)):=(hb1.block _ (by simp)).trans (ak w _);rw[HZ.out]at this;exact this
 simp only[aaC]at hS1 hb1;have uJ:Below w.heap.size w w1:=k0.trans (hb1.mono (by omega));have hs1:=hb1.size;rw[aaC]at hs1;have VJ:∀x∈X,x<N:=fun x hx=>((gi ws N x).1 ((hX.mem_iff).1 hx)).1;have WY:S.length<=320:=by omega
 have SE:Hid (S.length=X.length/\X.length=(heavy ws N).length):=⟨Ra,GA⟩
 clear Ra GA;by_cases hone:S.length=1
 ·obtain⟨x,rfl⟩:=List.length_eq_one_iff.1 hone;obtain⟨q,rfl⟩:=List.length_eq_one_iff.1 (show X.length=1 by have:=SE.out;omega);have hns:x.ns=[q]:=by have:=uI.ns;simpa using this
  have VM:heavy ws N=[q]:=by
   have:=hX.symm
   rwa [List.perm_singleton]at this
  obtain⟨w1',w2',hxn,hxa⟩:=uI.all x (by simp);have d9:=hS1.nums x (by simp);have SG:=VJ q (by simp);rcases hS1.val with⟨_,e2⟩|⟨T,cT,e1,hT,_,hrow⟩
  ·simp at e2
  ·have x1:w1.cell? ⟨T,0*2,none⟩=some x.val.1/\w1.cell? ⟨T,0*2+1,none⟩=some x.val.2:=hrow.cell 0 (by simp);have ba:=hrow.lt;obtain⟨xw,xa,xn,xc,xs⟩:=x;simp only at hns hxn hxa x1;subst hns hxn;obtain⟨a0,c0,e0,h2,h3⟩:=d9.src.val;simp only[abd,abG]at e0;obtain⟨rfl,rfl⟩:=e0
   have hsome:∃ad,xa=some ad:=by
    cases xa with
    | none=>have:=(h2 rfl).1;simp at this
    | some ad=>exact⟨ad,rfl⟩
   obtain⟨ad,rfl⟩:=hsome;obtain⟨bn,rfl,hbn⟩:=hxa ad rfl;obtain⟨q1,q2⟩:=h3 _ rfl (by simp);have hcn:=q2 0 (Fa q) (by simp);rw[fX,aaF]at hcn;obtain⟨x10,fH⟩:=x1;simp only[abz,aaF]at x10 fH;have hlc:=hL0.at_ q (by rw[bX];exact SG);have S1:=hL0.set q 1;have hfz:∀o,w1.frozen? ⟨w.heap.size,o,none⟩=false:=fun o=>aaE w1 _ o _ _ hL0;have K1:Kp (·=w.heap.size) w1 (w1.setCell ⟨w.heap.size,q,none⟩ (.int .i64 1)):=(Kp.refl (·=w.heap.size) w1).setCell (p:=⟨w.heap.size,q,none⟩) (.inl rfl) _
   have AL:Hid (dr ws N L ((bd N []).set q 1)):=by
    have hz:∀j,(bd N []).getD j 0=0:=fun j=>by
     by_cases hj:j<N
     ·rw[gN N [] j hj];simp
     ·rw[aaa,aas (by rw[bX];omega)];rfl
    have hg:∀j,((bd N []).set q 1).getD j 0=if j=q then 1 else 0:=fun j=>by
     by_cases e:j=q
     ·subst e;rw[aaf rfl,aaa,List.getElem?_set_self (by rw[bX];exact SG)];rfl
     ·rw[aae e,aaa,aca (Ne.symm e),<-aaa,hz j]
    refine⟨by rw[aaZ,bX],fun j=>by rw[hg];split<;>omega,fun j hj=>?_,fun j hj=>?_,fun hh=>by rw[VM]at hh;simp at hh,fun _ j hj=>?_⟩
    ·rw[VM]at hj;rw[hg,aaf (by simpa using hj)];decide
    ·rw[VM]at hj;rw[hg,aae (by simpa using hj)]
    ·rw[VM]at hj;rw[hg,aaf (by simpa using hj)]
   have NG:Hid (_/\_):=⟨S1,uJ.trans (K1.below (by omega) (fun k _ hk=>by omega))⟩
   rw[e6]at e1;simp only[abb,abd,abG]at e1;obtain⟨rfl,rfl⟩:=e1;subst e6;have hqI:(q:Int)<(N:Int):=by omega
   clear hS1 uI hX SE d9 hrow h2 h3 q2 S1 K1 hL0;go_wp2
   go_ret
   exact⟨_,rfl,NG.out.1,AL.out,NG.out.2⟩
 ·have hne:((S.length:Int)==1)=false:=by simp;omega
  have Iu:=uI.fine VJ;have VN:vI (w.heap.size+1) S:=fun x hx ad e=>by have:=(uI.all x hx).2.2.2 ad e;simpa using this
  have Pb:Hid (pZ w1 (w.heap.size+1) N 1000000 S v6 0 v6 S):=by
   refine⟨Rf.Rows.one hS2,hS1,hS1,by simpa using Iu,VN,VN,?_⟩;cases S with
   | nil=>exact .inr rfl
   | cons x l=>left;simp only[aao];omega
  have NH:Hid (aR w1 w.heap.size (bd N [])):=hL0;subst e6;have HF0:Hid (la N 1000000 1 S):=Iu;have hLi:(L:Int)-1=((L-1:Nat):Int):=by omega
  clear hS1 hL0 Iu hmk;go_wp2
  go_loopw [7,32] (fun rv iv wr=>∃(k:Nat) (rl:List Mb) (ra:Option Addr) (rc:Nat),k+1<=L/\iv=.int .i64 k/\rv=.slice ra rl.length rc/\Hid (pZ wr (w.heap.size+1) N 1000000 S (.slice s6 S.length c6) k (.slice ra rl.length rc) rl)/\Hid (aR wr w.heap.size (bd N []))/\Below w.heap.size w wr/\w.heap.size+1<=wr.heap.size) (fun _ iv _=>L-(intOf iv).toNat)
  case atStart=>exact⟨0,S,s6,c6,hL1,rfl,rfl,Pb,NH,uJ,hs1⟩
  case round =>
   clear Pb NH;obtain⟨k,rl,ra,rc,hk,rfl,rfl,HR,HL,hb,hsz⟩:=hrel
   have acL:rl.length<=640:=by
    rcases HR.out.len with q|q
    ·omega
    ·rw[q];simp
   by_cases hlt:k+1<L
   ·have hlt':(k:Int)<((L-1:Nat):Int):=by omega
    obtain⟨T7,a7,c7,e7,SH⟩:=HR.out.VK.row;simp only[abd,abG]at e7;obtain⟨rfl,rfl⟩:=e7;have hpw:=NF k (by omega)
    have hcall:=Iq T7 rl.length rc ra rl wr rfl SH HR.out.VK.nums (1000000*2^k) (by
     have:((2^k:Nat):Int)<=16384:=by omega
     have e:((2^k:Nat):Int)=(2:Int)^k:=by simp
     omega) (fun x hx=>by obtain⟨q1,q2,_⟩:=HR.out.fine x hx;exact⟨q1,q2⟩) (fun x hx=>by have:=(HR.out.fine x hx).2.2.1;omega) (by omega)
    go_wp2_with fail;refine hcall.mono ?_;rintro e w2 ⟨vp,out,rfl,hbg,hpl,hol,hb2,SI⟩;obtain⟨pa,pc,rfl⟩:=aU hbg.own;have HAB:Hid (vI (w.heap.size+1) out):=fun x hx ad e=>by obtain⟨b,q1,q2⟩:=SI x hx ad e;exact⟨b,q1,by omega⟩
    have HB2:Hid (_/\_/\_/\_):=⟨hbg,hpl,hol,hb2⟩
    clear SI;have hsz2:=hb2.size;clear hcall hbg hpl hol hb2;go_wp2_with fail;have kA:=ag w2 (.cells #[.slice s6 S.length c6,.slice pa out.length pc] 259);have hs6:=((HR.out.Pa.below HB2.out.2.2.2).below kA).src;have hsp:=(HB2.out.1.O7.below kA).src;have hol:out.length<=rl.length/2:=Nat.le_of_eq HB2.out.2.2.1;refine (LO w2.heap.size 2 S.length out.length _ _ _ _ _ (ak w2 _) hs6 hsp (by omega)).mono ?_;rintro e w4 ⟨v7,rfl,Gw,hb4⟩;have WZ:=hb4.size;have hszA:(w2.alloc (.cells #[.slice s6 S.length c6,.slice pa out.length pc] 259)).heap.size=w2.heap.size+1:=by simp
    have NI:ND w4 (w2.heap.size+1) v7 (S++out):=by
     refine⟨?_,fun x hx=>?_⟩
     ·rw[aac,iI];exact zu Gw (by omega)
     ·rcases aa8.1 hx with q|q
      ·exact (((HR.out.Pa.nums x q).below HB2.out.2.2.2).below kA).below hb4
      ·exact ((HB2.out.1.nums x q).below kA).below hb4
    obtain⟨ZC,ZD,rfl⟩:=aU Gw;have Rk:Hid (_/\_/\_):=⟨NI,kA,hb4⟩
    clear hs6 hsp Gw NI kA hb4;rw[hszA]at WZ;go_wp2_with fail;refine (Dg 249 O0 (w2.heap.size+1) _ (S++out) w4 Rk.out.1.O7 (by rw[aac];omega) (by omega)).mono ?_;rintro e w5 ⟨rfl,l',VO,Pc,hb5⟩
    have Iv:Hid (pZ w5 (w.heap.size+1) N 1000000 S (.slice s6 S.length c6) (k+1) (.slice ZC (S.length+out.length) ZD) l') :=
     HR.out.next HB2.out.2.1 HB2.out.2.2.1 Pc HF0.out (by omega) HAB.out (VO.low (by omega)) HB2.out.2.2.2 Rk.out.2.1 Rk.out.2.2 (by rw[hszA];exact hb5)
    have LW:Below wr.heap.size wr w5:=((HB2.out.2.2.2.trans (Rk.out.2.1.mono hsz2)).trans (Rk.out.2.2.mono (by rw[hszA];omega))).trans (hb5.mono (by omega));have hll:=Pc.perm.length_eq;rw[aac]at hll;have SJ:Hid (l'.length=S.length+out.length):=hll;have SK:aR w5 w.heap.size (bd N []):=(LW.block _ (by omega)).trans HL.out;have hbw:Below w.heap.size w w5:=hb.trans (LW.mono (by omega));have hs5:=LW.size;rw[<-hll]at Iv;have NH:Hid (aR w5 w.heap.size _):=SK;clear hll SK VO Pc hb5 LW Rk HB2 HR HL hb hol;go_wp2
    go_roundw
    case rel=>exact⟨k+1,l',ZC,ZD,by omega,by go_num,by rw[SJ.out],Iv,NH,hbw,by omega⟩
    case measure=>simp[intOf];omega
   ·have hlt':¬(k:Int)<((L-1:Nat):Int):=by omega
    have ek:k+1=L:=by omega
    have HRW:Hid (Rf.Rows Mb.w Mb.ns S L rl):=by rw[<-ek];exact HR.out.rows
    have hSN:S.length<=N:=by have:=SE.out;omega
    obtain⟨c,hcd⟩:∃c:Nat,c=2*S.length-2:=⟨_,rfl⟩
    have hcr:c<=rl.length:=by
     by_cases q:0<S.length
     ·have:=HRW.out.enough q (by omega);omega
     ·omega
    have HCD:Hid (c=2*S.length-2):=hcd;have hmx:max (2*(S.length:Int)-2) 0=(c:Int):=by omega
    have NJ:Hid (∀x∈rl,∀k∈x.ns,k<N):=fun x hx=>(HR.out.fine x hx).2.2.2.2
    have AL:Hid (dr ws N L (bd N ((rl.take c).flatMap Mb.ns))):=by
     have:=LV (ws:=ws) hNL hL hL1 hS2 uI hX HRW.out (by have:=SE.out;omega) NJ.out;rw[<-SE.out.1,<-HCD.out]at this;exact this
    have hpw:=NF k (by omega);have NG:Hid (∀x∈rl,x.n<=16384/\x.ns.length=x.n):=fun x hx=>by have:=HR.out.fine x hx;exact⟨by omega,this.2.2.2.1⟩
    have ZE:Hid (vI (w.heap.size+1) rl):=HR.out.VL;have Iw:Hid (∀x∈rl,iZ wr x):=HR.out.VK.nums;rcases HR.out.VK.val with⟨e1,e2⟩|⟨T,rc',e1,hT,hcap,hrow⟩
    ·subst e2;simp only[abS,abd,abG]at e1;obtain⟨rfl,rfl⟩:=e1;have hc0:c=0:=by simpa using hcr
     subst hc0;clear HR Iw hcd ek;go_wp2
     rename World=>wA
     go_loopw [50] (fun iv wq=>iv=.int .i64 0/\wq=wA) (fun _ _=>0)
     case atStart=>exact⟨rfl,rfl⟩
     case round =>
      obtain⟨rfl,rfl⟩:=hrel;go_wp2
      go_ret
      exact⟨_,rfl,by simpa using HL.out,AL.out,hb⟩
    ·simp only[abd,abG]at e1;obtain⟨rfl,rfl⟩:=e1;have HRR:Hid (aW wr T rl.length (fun k=>(cV rl k,k))):=hrow;have hci:(c:Int)<=(rc:Int):=by omega
     have hcn:c<=rc:=by omega
     clear HR hrow hcd ek;go_wp2
     rename World=>wA
     go_loopw [50] (fun iv wq=>∃i:Nat,i<=c/\iv=.int .i64 i/\Hid (aR wq w.heap.size (bd N ((rl.take i).flatMap Mb.ns)))/\Hid (((rl.take i).flatMap Mb.ns).length<=16384*i)/\Hid (aW wq T rl.length (fun k=>(cV rl k,k)))/\Hid (∀x∈rl,iZ wq x)/\Below w.heap.size w wq/\w.heap.size+1<=wq.heap.size) (fun iv _=>c-(intOf iv).toNat)
     case atStart=>exact⟨0,aaj _,rfl,by rw[List.take_zero,List.flatMap_nil];exact HL,by show _<=_;simp,HRR,Iw,hb,hsz⟩
     case round =>
      clear HL HRR Iw hb hsz;obtain⟨i,hi,rfl,HL,Ny,HRR,Iw,hb,hsz⟩:=hrel;by_cases hic:i<c
      ·have hir:i<rl.length:=by omega
       have hmem:cV rl i∈rl:=by rw[dS rl i hir];exact aaR _
       have x1:wr.cell? ⟨T,i*2,none⟩=some (cV rl i).val.1/\wr.cell? ⟨T,i*2+1,none⟩=some (cV rl i).val.2:=HRR.out.cell i hir;have ba:=HRR.out.lt;have hfn:=NG.out _ hmem;have ZF:Hid (rl.take (i+1)=rl.take i++[cV rl i]):=by show _=_;rw[aaB hir,dS rl i hir]
       generalize hX:cV rl i=X at *;obtain⟨xw,xa,xn,xc,xs⟩:=X;obtain⟨x10,fH⟩:=x1;simp only at x10 fH hfn;have Pd:Hid ((⟨xw,xa,xn,xc,xs⟩:Mb)∈rl):=hmem;have hxn:xn<=16384:=hfn.1;have SL:Hid (xs.length=xn):=hfn.2;generalize SM:(rl.take i).flatMap Mb.ns=KJ at *;have SN:Hid ((rl.take (i+1)).flatMap Mb.ns=KJ++xs):=by show _=_;rw[ZF.out,List.flatMap_append,SM];simp
       clear hX hmem hfn SM ZF;have kA:=ag wr (.cells #[.int .i64 xw,.slice xa xn xc] 262);have HA:Hid (_/\_/\_/\_):=⟨(kA.block _ (by omega)).trans HL.out,HRR.out.kept (kA.block _ ba),fun x hx=>(Iw.out x hx).below kA,hb.trans (kA.mono (by omega))⟩
       clear kA HL HRR Iw hb;go_wp2
       rename World=>wB
       go_loopw [57] (fun jv wz=>∃j:Nat,j<=xn/\jv=.int .i64 j/\Hid (aR wz w.heap.size (bd N (KJ++xs.take j)))/\Hid (aW wz T rl.length (fun k=>(cV rl k,k)))/\Hid (∀x∈rl,iZ wz x)/\Below w.heap.size w wz/\w.heap.size+1<=wz.heap.size) (fun jv _=>xn-(intOf jv).toNat)
       case atStart=>exact⟨0,aaj _,rfl,by rw[List.take_zero,aa9];exact HA.out.1,HA.out.2.1,HA.out.2.2.1,HA.out.2.2.2,by simp;omega⟩
       case round =>
        clear HA x10 fH ba;obtain⟨j,hj,rfl,HL,HRR,Iw,hb,hsz'⟩:=hrel;by_cases hjx:j<xn
        ·have hjl:j<xs.length:=by have:=SL.out;omega
         have d9:=Iw.out _ Pd.out;obtain⟨a0,c0,e0,h2,h3⟩:=d9.src.val;simp only[abd,abG]at e0;obtain⟨rfl,rfl⟩:=e0
         have hsome:∃ad,xa=some ad:=by
          cases xa with
          | none=>have:=(h2 rfl).1;simp only at this;omega
          | some ad=>exact⟨ad,rfl⟩
         obtain⟨ad,rfl⟩:=hsome;obtain⟨bn,rfl,hbn⟩:=ZE.out _ Pd.out ad rfl
         have hne:(xs.map Fa)≠[]:=by
          intro hh;have:=abq List.length hh;rw[abE]at this;simp only[abS]at this;omega
         obtain⟨q1,q2⟩:=h3 _ rfl hne;have Pe:=q2 j (Fa xs[j]) (by rw[abk,aai hjl];rfl);rw[fX,aaF]at Pe;have SG:=NJ.out _ Pd.out xs[j] (aaR hjl);have ZG:Hid (KJ++xs.take (j+1)=(KJ++xs.take j)++[xs[j]]):=by show _=_;rw[aaB hjl,aaq]
         generalize xs[j]=q at *;have hlc:=HL.out.at_ q (by rw[bX];exact SG);have S1:=HL.out.set q ((bd N (KJ++xs.take j)).getD q 0+1);rw[<-zt,<-ZG.out]at S1
         have hv0:0<=(bd N (KJ++xs.take j)).getD q 0/\(bd N (KJ++xs.take j)).getD q 0<=20000000:=by
          rw[gN N _ q SG];have a:=List.count_le_length (a:=q) (l:=KJ++xs.take j);rw[aac,aaQ]at a;have b:=Ny.out;omega
         have K1:Kp (·=w.heap.size) wr (wr.setCell ⟨w.heap.size,q,none⟩ (.int .i64 ((bd N (KJ++xs.take j)).getD q 0+1))):=(Kp.refl (·=w.heap.size) wr).setCell (p:=⟨w.heap.size,q,none⟩) (.inl rfl) _;have hfz:∀o,wr.frozen? ⟨w.heap.size,o,none⟩=false:=fun o=>aaE wr _ o _ _ HL.out;have HH:Hid (_/\_/\_/\_):=⟨S1,HRR.out.kept (K1.block _ HRR.out.lt (by omega)),fun x hx=>(Iw.out x hx).apart K1 (ZE.out x hx),hb.trans (K1.below (by omega) (fun k _ hk=>by omega))⟩
         have hqI:(q:Int)<(N:Int):=by omega
         have hjI:(j:Int)<(xn:Int):=by omega
         generalize (bd N (KJ++xs.take j)).getD q 0=vq at *;clear S1 K1 HL HRR Iw hb h2 h3 q2 d9 hne ZG;go_wp2
         go_roundw
         case rel=>exact⟨j+1,by omega,by go_num,HH.out.1,HH.out.2.1,HH.out.2.2.1,HH.out.2.2.2,by simp;omega⟩
         case measure=>simp[intOf];omega
        ·have ej:j=xn:=by omega
         have HLF:Hid (aR wr w.heap.size (bd N ((rl.take (i+1)).flatMap Mb.ns))):=by
          rw[SN.out];have:=HL.out;rw[aav (by have:=SL.out;omega)]at this;exact this
         have OI:Hid (((rl.take (i+1)).flatMap Mb.ns).length<=16384*(i+1)):=by
          rw[SN.out,aac];have:=Ny.out;have:=SL.out;show _<=_;omega
         clear HL Ny ej;go_wp2
         go_roundw
         case rel=>exact⟨i+1,by omega,by go_num,HLF,OI,HRR,Iw,hb,hsz'⟩
         case measure=>simp[intOf];omega
      ·have eic:i=c:=by omega
       subst eic;go_wp2
       go_ret
       exact⟨_,rfl,HL.out,AL.out,hb⟩
end Go.Proofs.YtmfijackgekioaaGreatDoor
