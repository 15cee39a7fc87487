import Derived.Test.YtmfijackgekioaaGreatDoorQ18
set_option maxHeartbeats 2000000
set_option maxRecDepth 100000
namespace Go.Proofs.YtmfijackgekioaaGreatDoor
open Go.RowKit
def heavy (ws:List Int)(k:Nat):List Nat:=(List.range k).filter (fun x=>decide (0<ws.getD x 0))
theorem z9 (ws:List Int)(k:Nat):(heavy ws k).Nodup:=List.nodup_range.filter _
theorem gK (ws:List Int)(k x:Nat):x∈heavy ws k↔x<k/\0<ws.getD x 0:=by simp[heavy]
theorem qB (ws:List Int)(k:Nat)(h:0<ws.getD k 0):heavy ws (k+1)=heavy ws k++[k]:=by
 rw[heavy,List.range_succ,List.filter_append,List.filter_cons,if_pos (by simpa using h)];rfl
theorem Aa (ws:List Int)(k:Nat)(h:¬0<ws.getD k 0):heavy ws (k+1)=heavy ws k:=by
 rw[heavy,List.range_succ,List.filter_append,List.filter_cons,if_neg (by simpa using h),List.filter_nil,List.append_nil];rfl
theorem tG (ws:List Int)(k:Nat):(heavy ws k).length<=k:=by
 have:=List.length_filter_le (fun x=>decide (0<ws.getD x 0)) (List.range k);simpa[heavy]using this
structure xI (S:List Mb) (X:List Nat) (M:Int) (lo:Nat):Prop where
 ns:S.map Mb.ns=X.map (fun x=>[x])
 all:∀x∈S,0<x.w/\x.w<=M/\x.n=1/\∀ad,x.a=some ad->∃b,ad=⟨b,0,none⟩/\lo<=b
theorem xI.perm {S S':List Mb}{X:List Nat}{M:Int}{lo:Nat}(h:xI S X M lo)(hp:S'.Perm S):∃X',xI S' X' M lo/\X'.Perm X:=by
 have h1:(S'.map Mb.ns).Perm (X.map (fun x=>[x])):=by rw[<-h.ns];exact hp.map _
 refine⟨S'.map (fun x=>x.ns.headD 0),⟨?_,fun x hx=>h.all x ((hp.mem_iff).1 hx)⟩,?_⟩
 ·rw[List.map_map];refine List.map_congr_left (fun x hx=>?_);have:x.ns∈X.map (fun x=>[x]):=(h1.mem_iff).1 (List.mem_map.2 ⟨x,hx,rfl⟩);obtain⟨k,_,e⟩:=List.mem_map.1 this;simp[<-e]
 ·have:=h1.map (fun l=>l.headD 0);rw[List.map_map,List.map_map]at this
  have e:X.map ((fun l:List Nat=>l.headD 0)∘fun x=>[x])=X:=by
   have:((fun l:List Nat=>l.headD 0)∘fun x=>[x])=id:=by funext x;rfl
   rw[this,List.map_id]
  rw[e]at this;exact this
theorem rp (ws:List Int)(N cap:Nat)(ao:Option Addr)(w:World)(hN:ws.length=N)(Ij:N<=320)(hint:Ints w ao ws)(ha:∀a,ao=some a->ws≠[]->a.block<w.heap.size)(M:Int)(hw:∀j,0<=ws.getD j 0/\ws.getD j 0<=M): Calls Tryz.prog 245 #[.slice ao N cap] w fun e w'=>∃v S X,e=.returned v/\kR w' w.heap.size v S/\S.Pairwise (fun a b=>a.w<=b.w)/\xI S X M w.heap.size/\X.Perm (heavy ws N)/\Below w.heap.size w w':=by
 obtain⟨i0,hi,hz0,hz1,hz2⟩:=info_parts Tryz.infoBundle
 go_enter Tryz.func245,Tryz.ntmps245
 go_wp2
 go_loopw [3,8] (fun ov iv wr=>∃(k:Nat) (R:List Mb) (oa:Option Addr) (oc m:Nat),k<=N/\m<=k/\iv=.int .i64 k/\ov=.slice oa m oc/\R.length=m/\Hid (Pv wr w.heap.size (.slice oa m oc) R)/\Hid (xI R (heavy ws k) M w.heap.size)/\Below w.heap.size w wr) (fun _ iv _=>N-(intOf iv).toNat)
 case atStart=>exact⟨0,[],none,0,0,Nat.zero_le _,Nat.le_refl _,rfl,rfl,rfl,⟨World.ownsRow_nil _ _ _ _,by simp⟩,⟨by simp[heavy],by simp⟩,Below.refl _ _⟩
 case round =>
  obtain⟨k,R,oa,oc,m,hk,hmk,rfl,rfl,Yp,HB,HO,hb⟩:=hrel;by_cases hlt:k<N
  ·obtain⟨b,off,rfl,hc⟩:=hint k (by omega);have hbk:=ha _ rfl (ne_of_lt (show k<ws.length by omega));have hy2:ws[k]=ws.getD k 0:=by simp[List.getD,List.getElem?_eq_getElem (show k<ws.length by omega)]
   have hc2:wr.cell? ⟨b,off+k,none⟩=some (.int .i64 (ws.getD k 0)):=(hb.cell (p:=⟨b,off+k,none⟩) hbk).trans (by rw[hc,hy2]);have hwk:=hw k;clear hc hy2;by_cases hpos:0<ws.getD k 0
   ·have Ns:Hid (heavy ws (k+1)=heavy ws k++[k]):=qB ws k hpos;generalize ws.getD k 0=y at *;have kB:Below wr.heap.size wr ((wr.alloc (.cells #[.int .i64 (k:Int)] 3)).alloc (.cells #[.int .i64 y,.slice (some ⟨wr.heap.size,0,none⟩) 1 1] 262)):=((Below.refl _ _).alloc (Nat.le_refl _) _).alloc (by simp) _
    have hN5:jr ((wr.alloc (.cells #[.int .i64 (k:Int)] 3)).alloc (.cells #[.int .i64 y,.slice (some ⟨wr.heap.size,0,none⟩) 1 1] 262)) ⟨y,some ⟨wr.heap.size,0,none⟩,1,1,[k]⟩:=by
     refine jr.below (w:=wr.alloc (.cells #[.int .i64 (k:Int)] 3)) ⟨⟨⟨_,_,rfl,(fun e=>nomatch e),fun ad e _=>?_⟩,rfl,fun u hu=>?_⟩,fun ad e _=>?_⟩ (ae _ _)
     ·cases e;refine⟨by simp,fun j u hj=>?_⟩;rw[eU,Nat.zero_add,aR (ah wr _)];simpa using hj
     ·simp only[List.map_cons,List.map_nil,List.mem_singleton]at hu;rw[hu];rfl
     ·simp only[Option.some.injEq]at e;subst e;exact⟨_,_,ah wr _⟩
    have JO:((wr.alloc (.cells #[.int .i64 (k:Int)] 3)).alloc (.cells #[.int .i64 y,.slice (some ⟨wr.heap.size,0,none⟩) 1 1] 262)).ownsRow w.heap.size 262 2 (.slice oa m oc) m (cellsOf R):=by
     have:=aI HB.out.own (fun g hg=>kB.block g (HB.out.own.lt g hg).2)
     rwa [Yp]at this
    have hsB:Src ((wr.alloc (.cells #[.int .i64 (k:Int)] 3)).alloc (.cells #[.int .i64 y,.slice (some ⟨wr.heap.size,0,none⟩) 1 1] 262)) 2 (.slice (some ⟨wr.heap.size+1,0,none⟩) 1 1) 1 [.int .i64 y,.slice (some ⟨wr.heap.size,0,none⟩) 1 1]:=by
     refine⟨⟨_,_,rfl,(fun e=>nomatch e),fun ad e hne=>?_⟩,rfl,fun u hu=>?_⟩
     ·cases e;refine⟨by simp,fun j u hu=>?_⟩;have hbn:((wr.alloc (.cells #[.int .i64 (k:Int)] 3)).alloc (.cells #[.int .i64 y,.slice (some ⟨wr.heap.size,0,none⟩) 1 1] 262)).heap[wr.heap.size+1]?=some (.cells #[.int .i64 y,.slice (some ⟨wr.heap.size,0,none⟩) 1 1] 262 (0,0)):=tB (by simp);rw[eU,Nat.zero_add,aR hbn];simpa using hu
     ·simp only[List.mem_cons,List.not_mem_nil,or_false]at hu;rcases hu with rfl|rfl<;>rfl
    have ZI:=kB.size;obtain⟨v',w',hr,ho',hg'⟩:=cD (ty:=259) Tryz.underlying259 hi hz0 hz1 hz2 rfl (by decide) JO hsB (by unfold maxLen;omega) (by omega) (by have:=hb.size;omega);obtain⟨vT,qm,rfl⟩:=aT ho'
    have Rq:Hid (Pv w' w.heap.size (.slice vT (m+1) qm) (R++[⟨y,some ⟨wr.heap.size,0,none⟩,1,1,[k]⟩])):=by
     refine⟨?_,fun z hz=>?_⟩
     ·rw[jb,List.length_append,Yp];exact ho'
     ·rcases List.mem_append.1 hz with q|q
      ·exact ((HB.out.nums z q).below kB).grown JO hg'
      ·rw[List.mem_singleton.1 q];exact hN5.grown JO hg'
    have Vm:Hid (xI (R++[⟨y,some ⟨wr.heap.size,0,none⟩,1,1,[k]⟩]) (heavy ws (k+1)) M w.heap.size):=by
     rw[Ns.out];refine⟨by rw[List.map_append,List.map_append,HO.out.ns];rfl,fun x hx=>?_⟩;rcases List.mem_append.1 hx with q|q
     ·exact HO.out.all x q
     ·rw[List.mem_singleton.1 q];exact⟨hpos,hwk.2,rfl,fun ad e=>by cases e;exact⟨_,rfl,hb.size⟩⟩
    have hb':Below w.heap.size w w':=bV (hb.trans (kB.mono hb.size)) hg' (fun k hk=>(JO.lt k hk).1) (Nat.le_refl _);have hpos':(y:Int)>0:=hpos;clear hN5 JO hsB ho' hg' HB HO;go_wp2_with (at_builtin;refine Lib.wpList_append_run _ rfl _ _ _ _ rfl _ _ rfl rfl _ _ hr ?_)
    go_roundw
    case rel=>exact⟨k+1,_,vT,qm,m+1,by omega,by omega,by go_num,rfl,by simp[Yp],Rq,Vm,hb'⟩
    case measure=>simp[intOf];omega
   ·have Ns:Hid (heavy ws (k+1)=heavy ws k):=Aa ws k hpos;generalize ws.getD k 0=y at *;have hpos':¬y>0:=hpos;go_wp2
    go_roundw
    case rel=>exact⟨k+1,R,oa,oc,m,by omega,by omega,by go_num,rfl,Yp,HB,by rw[Ns.out];exact HO,hb⟩
    case measure=>simp[intOf];omega
  ·have e:k=N:=by omega
   subst e;have Rs:=HB.out.Rr;have hRl:R.length<=1000000:=by omega
   go_wp2_with fail;refine (Ej 255 JK w.heap.size _ R wr Rs hRl hb.size).mono ?_;rintro e w1 ⟨rfl,S,h1,h2,h3⟩;obtain⟨X,hX1,hX2⟩:=HO.out.perm h2.perm;go_wp2
   go_ret
   exact⟨_,S,X,rfl,h1,h2.sorted,hX1,hX2,hb.trans h3⟩
def bk (N:Nat)(xs:List Nat):List Int:=(List.range N).map (fun x=>((xs.count x:Nat):Int))
theorem cx (N:Nat)(xs:List Nat):(bk N xs).length=N:=by simp[bk]
theorem ig (N:Nat)(xs:List Nat)(j:Nat)(h:j<N):(bk N xs).getD j 0=((xs.count j:Nat):Int):=by
 unfold bk;rw[List.getD_eq_getElem?_getD,List.getElem?_map,List.getElem?_range h];rfl
theorem Ab (N:Nat)(xs:List Nat)(k:Nat):bk N (xs++[k])=(bk N xs).set k ((bk N xs).getD k 0+1):=by
 apply List.ext_getElem
 ·simp[bk]
 ·intro j h1 h2;have hj:j<N:=by simpa[bk]using h1
  rw[List.getElem_set];by_cases e:k=j
  ·subst e;rw[if_pos rfl,ig N xs k hj];simp only[bk,List.getElem_map,List.getElem_range,List.count_append];simp
  ·rw[if_neg e];simp only[bk,List.getElem_map,List.getElem_range,List.count_append];have:¬k=j:=e;simp[this]
theorem CC (N:Nat):vals (bk N [])=List.replicate N (.int .i64 0):=by
 rw[<-bC]
 congr 1
 apply List.ext_getElem
 ·simp[bk]
 ·intro j _ _;simp[bk]
def mg (N:Nat)(W:Int)(K:Nat)(l:List Mb):Prop:=∀x∈l,0<=x.w/\x.w<=W/\x.n<=K/\x.ns.length=x.n/\∀k∈x.ns,k<N
def v9 (lo:Nat)(l:List Mb):Prop:=∀x∈l,∀ad,x.a=some ad->∃b,ad=⟨b,0,none⟩/\lo<=b
theorem mg.mono {N:Nat}{W W':Int}{K K':Nat}{l:List Mb}(h:mg N W K l)(h1:W<=W')(h2:K<=K'):mg N W' K' l:=fun x hx=>by
 obtain⟨a,b,c,d⟩:=h x hx;exact⟨a,by omega,by omega,d⟩
theorem mg.perm {N:Nat}{W:Int}{K:Nat}{l l':List Mb}(h:mg N W K l)(hp:l'.Perm l):mg N W K l':=fun x hx=>h x ((hp.mem_iff).1 hx)
theorem mg.append {N:Nat}{W:Int}{K:Nat}{l l':List Mb}(h:mg N W K l)(h':mg N W K l'):mg N W K (l++l'):=fun x hx=>by
 rcases List.mem_append.1 hx with q|q
 ·exact h x q
 ·exact h' x q
theorem rk.fine {N:Nat}{W:Int}{K:Nat}{l out:List Mb}(h:rk l out)(hf:mg N W K l):mg N (2*W) (2*K) out:=by
 intro x hx;obtain⟨j,hj,rfl⟩:=List.getElem_of_mem hx;have ht:=h.2 j hj;rw[eo out j hj]at ht;obtain⟨t1,t2,t3⟩:=ht;have hl:=h.1;have m1:c9 l (2*j)∈l:=by rw[eo l _ (by omega)];exact List.getElem_mem _
 have m2:c9 l (2*j+1)∈l:=by rw[eo l _ (by omega)];exact List.getElem_mem _
 obtain⟨a1,b1,c1,d1,e1⟩:=hf _ m1;obtain⟨a2,b2,c2,d2,e2⟩:=hf _ m2;refine⟨by omega,by omega,by omega,by rw[t2,List.length_append];omega,fun k hk=>?_⟩;rw[t2]at hk;rcases List.mem_append.1 hk with q|q
 ·exact e1 k q
 ·exact e2 k q
theorem rk.Rt {l out:List Mb}(h:rk l out)(hl:out.length=l.length/2):Rf.kO Mb.w Mb.ns l out:=by
 refine⟨hl,fun j hj h1 h2=>?_⟩;have ht:=h.2 j hj;rw[eo out j hj,eo l _ h1,eo l _ h2]at ht;exact⟨ht.1,ht.2.1⟩
theorem xI.fine {N:Nat}{S:List Mb}{X:List Nat}{M:Int}{lo:Nat}(h:xI S X M lo)(hX:∀x∈X,x<N):mg N M 1 S:=by
 intro x hx;obtain⟨a,b,c,_⟩:=h.all x hx;have:x.ns∈X.map (fun x=>[x]):=by rw[<-h.ns];exact List.mem_map.2 ⟨x,hx,rfl⟩
 obtain⟨k,hk,e⟩:=List.mem_map.1 this;refine⟨by omega,b,by omega,by rw[<-e,c];rfl,fun q hq=>?_⟩;rw[<-e]at hq;rw[List.mem_singleton.1 hq];exact hX k hk
structure dK (ws:List Int) (N L:Nat) (lens:List Int):Prop where
 len:lens.length=N
 ve:∀j,0<=lens.getD j 0/\lens.getD j 0<=L
 pos:∀j,j∈heavy ws N->0<lens.getD j 0
 non:∀j,j∉heavy ws N->lens.getD j 0=0
 full:2<=(heavy ws N).length->Rf.fs lens N=32768
 one:(heavy ws N).length=1->∀j,j∈heavy ws N->lens.getD j 0=1
theorem Nt {ws:List Int}{N L:Nat}{S rl:List Mb}{X:List Nat}{M:Int}{lo:Nat}(hN:N<=2^L)(hL:L<=15)(hL1:1<=L)(hS:S.Pairwise (fun a b=>a.w<=b.w))(h1:xI S X M lo)(hX:X.Perm (heavy ws N))(hr:Rf.Rows Mb.w Mb.ns S L rl)(hn1:X.length≠1)(hfi:∀x∈rl,∀k∈x.ns,k<N): dK ws N L (bk N ((rl.take (2*X.length-2)).flatMap Mb.ns)):=by
 have TM:S.length=X.length:=by have:=congrArg List.length h1.ns;simpa using this
 have Yq:∀x∈X,x<N:=fun x hx=>((gK ws N x).1 ((hX.mem_iff).1 hx)).1;have hlen:=hX.length_eq;have hle:=tG ws N;by_cases h2:2<=X.length
 ·have:=Rf.xD (wt:=Mb.w) (ns:=Mb.ns) (S:=S) (row:=rl) (X:=X) (L:=L) (M:=N) (lens:=bk N ((rl.take (2*X.length-2)).flatMap Mb.ns)) hS (fun x hx=>by have:=(h1.all x hx).1;omega) h1.ns ((hX.nodup_iff).2 (z9 ws N)) Yq h2 (by omega) hL hr (fun j=>?_)
  ·obtain⟨a,b,c,d⟩:=this;exact⟨cx _ _,a,fun j hj=>b j ((hX.mem_iff).2 hj),fun j hj=>c j (fun q=>hj ((hX.mem_iff).1 q)),fun _=>d,fun q=>by omega⟩
  ·by_cases hj:j<N
   ·rw[ig N _ j hj];rfl
   ·rw[List.getD_eq_getElem?_getD,List.getElem?_eq_none (by rw[cx];omega)]
    have:Rf.cnt Mb.ns j (rl.take (2*X.length-2))=0:=by
     unfold Rf.cnt;rw[List.count_eq_zero];intro hm;obtain⟨x,hx,hk⟩:=List.mem_flatMap.1 hm;exact hj (hfi x (List.mem_of_mem_take hx) j hk)
    rw[this];rfl
 ·have h0:X.length=0:=by omega
  have TQ:X=[]:=List.eq_nil_of_length_eq_zero h0;have hh:heavy ws N=[]:=List.eq_nil_of_length_eq_zero (by omega);rw[h0];have e:(rl.take (2*0-2)).flatMap Mb.ns=[]:=by simp
  rw[e]
  have z:∀j,(bk N []).getD j 0=0:=fun j=>by
   by_cases hj:j<N
   ·rw[ig N [] j hj];simp
   ·rw[List.getD_eq_getElem?_getD,List.getElem?_eq_none (by rw[cx];omega)];rfl
  exact⟨cx _ _,fun j=>by rw[z];omega,fun j hj=>by rw[hh]at hj;simp at hj,fun j _=>z j,fun q=>by omega,fun q=>by omega⟩
structure qC (wr:World) (base:Nat) (N:Nat) (M:Int) (S:List Mb) (v6:Value) (k:Nat) (v7:Value) (rl:List Mb):Prop where
 rows:Rf.Rows Mb.w Mb.ns S (k+1) rl
 Yr:kR wr base v7 rl
 Ru:kR wr base v6 S
 fine:mg N (M*2^k) (2^k) rl
 Ys:v9 base rl
 abS:v9 base S
 len:rl.length<2*S.length\/rl=[]
theorem kR.row {w:World}{base:Nat}{v:Value}{l:List Mb}(h:kR w base v l):∃T ao cap,v=.slice ao l.length cap/\(0<l.length->ao=some ⟨T,0,none⟩/\aV w T l.length (fun k=>(c9 l k,k))):=by
 rcases h.val with⟨rfl,rfl⟩|⟨T,cap,h1,_,_,h3⟩
 ·exact⟨0,none,0,rfl,fun h=>by simp at h⟩
 ·exact⟨T,_,cap,h1,fun _=>⟨rfl,h3⟩⟩
theorem qC.next {wr w2 w3 w4 w5:World}{base N k:Nat}{M:Int}{S rl out l':List Mb}{v6 v7 v7':Value}(h:qC wr base N M S v6 k v7 rl)(hp:rk rl out)(hpl:out.length=rl.length/2)(hst:Rf.Stable Mb.w (S++out) l')(hf0:mg N M 1 S)(hM:0<=M)(hab:v9 base out)(Rs:kR w5 base v7' l')(b1:Below wr.heap.size wr w2)(b2:Below w2.heap.size w2 w3)(b3:Below w3.heap.size w3 w4)(b4:Below w3.heap.size w4 w5):qC w5 base N M S v6 (k+1) v7' l':=by
 have hl:=hst.perm.length_eq;rw[List.length_append]at hl;have p1:1<=2^(k+1):=Nat.one_le_two_pow;refine⟨⟨rl,out,h.rows,hp.Rt hpl,hst⟩,Rs,((h.Ru.below b1).below b2).below (b3.trans b4),?_,fun x hx=>?_,h.abS,?_⟩
 ·refine mg.perm (mg.append (hf0.mono ?_ p1) ((hp.fine h.fine).mono ?_ ?_)) hst.perm
  ·have:M*1<=M*2^(k+1):=Int.mul_le_mul_of_nonneg_left (by
    have:(1:Int)<=((2^(k+1):Nat):Int):=by omega
    simpa using this) hM
   omega
  ·rw[Int.pow_succ,Int.mul_comm 2,Int.mul_assoc];exact Int.le_refl _
  ·rw[Nat.pow_succ];omega
 ·rcases List.mem_append.1 ((hst.perm.mem_iff).1 hx) with q|q
  ·exact h.abS x q
  ·exact hab x q
 ·cases S with
  | nil =>
   rcases h.len with q|q
   ·simp at q
   ·right
    subst q;have h0:out.length=0:=by simpa using hpl
    rw[List.eq_nil_of_length_eq_zero h0]at hst;have:=hst.perm.length_eq;exact List.eq_nil_of_length_eq_zero (by simpa using this)
  | cons x l =>
   left
   rcases h.len with q|q
   ·simp only[List.length_cons]at *;omega
   ·subst q;simp only[List.length_cons,List.length_nil]at *;omega
theorem Ac {w:World}{base base':Nat}{e:TypeId}{size:Nat}{v:Value}{n:Nat}{xs:List Value}(h:w.ownsRow base e size v n xs)(hb:base'<=base):w.ownsRow base' e size v n xs:=by
 refine⟨h.1,?_⟩;rcases h.2 with h'|⟨g,cap,cur,rfl,hb',r⟩
 ·exact .inl h'
 ·exact .inr ⟨g,cap,cur,rfl,by omega,r⟩
theorem jr.apart {w w':World}{x:Mb}{Lb:Nat}(h:jr w x)(k:Kp (·=Lb) w w')(ha:∀ad,x.a=some ad->∃b,ad=⟨b,0,none⟩/\Lb+1<=b):jr w' x:=by
 have key:∀ad,x.a=some ad->x.ns≠[]->w'.heap[ad.block]?=w.heap[ad.block]?:=fun ad e hne=>by
  obtain⟨cs,fr,q⟩:=h.typ ad e hne;obtain⟨b,rfl,hb⟩:=ha ad e;exact k.block _ (lt_of_block q) (show ¬b=Lb by omega)
 obtain⟨⟨⟨a,c,h1,h2,h3⟩,h4,h5⟩,h6⟩:=h;refine⟨⟨⟨a,c,h1,h2,fun ad e hne=>?_⟩,h4,h5⟩,fun ad e hne=>?_⟩
 ·obtain⟨q1,q2⟩:=h3 ad e hne;simp only[Value.slice.injEq]at h1;have kk:=key ad (h1.1.trans e) (fun hh=>hne (by rw[hh];rfl));exact⟨Nat.lt_of_lt_of_le q1 k.size,fun j u hj=>(World.cell?_of_block (w:=w) (a:=ad.add j) (by rw[add_block];exact kk)).trans (q2 j u hj)⟩
 ·obtain⟨cs,fr,q⟩:=h6 ad e hne;exact⟨cs,fr,(key ad e hne).trans q⟩
theorem Pw (k:Nat)(h:k<=14):(2:Nat)^k<=16384:=by
 have:=Nat.pow_le_pow_right (n:=2) (by omega) h;omega
theorem cN (ws:List Int)(N L cap:Nat)(ao:Option Addr)(w:World)(hN:ws.length=N)(Ij:N<=320)(hNL:N<=2^L)(hL:L<=15)(hL1:1<=L)(hint:Ints w ao ws)(ha:∀a,ao=some a->ws≠[]->a.block<w.heap.size)(hw:∀j,0<=ws.getD j 0/\ws.getD j 0<=1000000): Calls Tryz.prog 232 #[.slice ao N cap,.int .i64 L] w fun e w'=>∃lens,e=.returned (.slice (some ⟨w.heap.size,0,none⟩) N N)/\aP w' w.heap.size lens/\dK ws N L lens/\Below w.heap.size w w':=by
 obtain⟨Z,hZ⟩:∃Z:List Value,Z=List.replicate N (.int .i64 0):=⟨_,rfl⟩
 have hmk:∀u:World,(Instr.makeSlice 24 (.int .i64 N) (.int .i64 N)).run Tryz.prog u=.ok (.slice (some ⟨u.heap.size,0,none⟩) N N) (u.alloc (.cells Z.toArray 3)):=fun u=>mA N Ij Z hZ u;have HZ:Hid (Z=vals (bk N [])):=by show _=_;rw[hZ,CC]
 clear hZ;have k0:=ae w (.cells Z.toArray 3)
 go_enter Tryz.func232,Tryz.ntmps232
 go_wp2_with fail;refine (rp ws N cap ao _ hN Ij (hint.below k0 ha) (fun a e h=>by have:=ha a e h;simp;omega) 1000000 hw).mono ?_;rintro e w1 ⟨v6,S,X,rfl,hS1,hS2,iA,hX,hb1⟩;obtain⟨s6,c6,e6⟩:=hS1.slice;have TM:S.length=X.length:=by have:=congrArg List.length iA.ns;simpa using this
 have ZJ:=hX.length_eq;have hle:=tG ws N
 have hL0:aP w1 w.heap.size (bk N []):=by
  have:w1.heap[w.heap.size]?=some (.cells Z.toArray 3 (0,0)):=(hb1.block _ (by simp)).trans (ah w _);rw[HZ.out]at this;exact this
 simp only[World.size_alloc]at hS1 hb1;have vg:Below w.heap.size w w1:=k0.trans (hb1.mono (by omega));have hs1:=hb1.size;rw[World.size_alloc]at hs1;have Yq:∀x∈X,x<N:=fun x hx=>((gK ws N x).1 ((hX.mem_iff).1 hx)).1;have ZK:S.length<=320:=by omega
 have Vn:Hid (S.length=X.length/\X.length=(heavy ws N).length):=⟨TM,ZJ⟩
 clear TM ZJ;by_cases hone:S.length=1
 ·obtain⟨x,rfl⟩:=List.length_eq_one_iff.1 hone;obtain⟨q,rfl⟩:=List.length_eq_one_iff.1 (show X.length=1 by have:=Vn.out;omega);have hns:x.ns=[q]:=by have:=iA.ns;simpa using this
  have Yt:heavy ws N=[q]:=by
   have:=hX.symm
   rwa [List.perm_singleton]at this
  obtain⟨w1',w2',hxn,hxa⟩:=iA.all x (by simp);have bZ:=hS1.nums x (by simp);have Vo:=Yq q (by simp);rcases hS1.val with⟨_,e2⟩|⟨T,cT,e1,hT,_,hrow⟩
  ·simp at e2
  ·have x1:w1.cell? ⟨T,0*2,none⟩=some x.val.1/\w1.cell? ⟨T,0*2+1,none⟩=some x.val.2:=hrow.cell 0 (by simp);have aY:=hrow.lt;obtain⟨xw,xa,xn,xc,xs⟩:=x;simp only at hns hxn hxa x1;subst hns hxn;obtain⟨a0,c0,e0,h2,h3⟩:=bZ.src.val;simp only[Value.slice.injEq,true_and]at e0;obtain⟨rfl,rfl⟩:=e0
   have hsome:∃ad,xa=some ad:=by
    cases xa with
    | none=>have:=(h2 rfl).1;simp at this
    | some ad=>exact⟨ad,rfl⟩
   obtain⟨ad,rfl⟩:=hsome;obtain⟨bn,rfl,hbn⟩:=hxa ad rfl;obtain⟨q1,q2⟩:=h3 _ rfl (by simp);have hcn:=q2 0 (Gj q) (by simp);rw[eU,Nat.zero_add]at hcn;obtain⟨x10,fW⟩:=x1;simp only[Nat.zero_mul,Nat.zero_add]at x10 fW;have hlc:=hL0.at_ q (by rw[cx];exact Vo);have S1:=hL0.set q 1;have hfz:∀o,w1.frozen? ⟨w.heap.size,o,none⟩=false:=fun o=>frozen_of_row w1 _ o _ _ hL0;have K1:Kp (·=w.heap.size) w1 (w1.setCell ⟨w.heap.size,q,none⟩ (.int .i64 1)):=(Kp.refl (·=w.heap.size) w1).setCell (p:=⟨w.heap.size,q,none⟩) (.inl rfl) _
   have oZ:Hid (dK ws N L ((bk N []).set q 1)):=by
    have hz:∀j,(bk N []).getD j 0=0:=fun j=>by
     by_cases hj:j<N
     ·rw[ig N [] j hj];simp
     ·rw[List.getD_eq_getElem?_getD,List.getElem?_eq_none (by rw[cx];omega)];rfl
    have hg:∀j,((bk N []).set q 1).getD j 0=if j=q then 1 else 0:=fun j=>by
     by_cases e:j=q
     ·subst e;rw[if_pos rfl,List.getD_eq_getElem?_getD,List.getElem?_set_self (by rw[cx];exact Vo)];rfl
     ·rw[if_neg e,List.getD_eq_getElem?_getD,List.getElem?_set_ne (Ne.symm e),<-List.getD_eq_getElem?_getD,hz j]
    refine⟨by rw[List.length_set,cx],fun j=>by rw[hg];split<;>omega,fun j hj=>?_,fun j hj=>?_,fun hh=>by rw[Yt]at hh;simp at hh,fun _ j hj=>?_⟩
    ·rw[Yt]at hj;rw[hg,if_pos (by simpa using hj)];decide
    ·rw[Yt]at hj;rw[hg,if_neg (by simpa using hj)]
    ·rw[Yt]at hj;rw[hg,if_pos (by simpa using hj)]
   have MT:Hid (_/\_):=⟨S1,vg.trans (K1.below (by omega) (fun k _ hk=>by omega))⟩
   rw[e6]at e1;simp only[List.length_singleton,Value.slice.injEq,true_and]at e1;obtain⟨rfl,rfl⟩:=e1;subst e6;have hqI:(q:Int)<(N:Int):=by omega
   clear hS1 iA hX Vn bZ hrow h2 h3 q2 S1 K1 hL0;go_wp2
   go_ret
   exact⟨_,rfl,MT.out.1,oZ.out,MT.out.2⟩
 ·have hne:((S.length:Int)==1)=false:=by simp;omega
  have JP:=iA.fine Yq;have Yu:v9 (w.heap.size+1) S:=fun x hx ad e=>by have:=(iA.all x hx).2.2.2 ad e;simpa using this
  have BW:Hid (qC w1 (w.heap.size+1) N 1000000 S v6 0 v6 S):=by
   refine⟨Rf.Rows.one hS2,hS1,hS1,by simpa using JP,Yu,Yu,?_⟩;cases S with
   | nil=>exact .inr rfl
   | cons x l=>left;simp only[List.length_cons];omega
  have Yv:Hid (aP w1 w.heap.size (bk N [])):=hL0;subst e6;have ZL:Hid (mg N 1000000 1 S):=JP;have hLi:(L:Int)-1=((L-1:Nat):Int):=by omega
  clear hS1 hL0 JP hmk;go_wp2
  go_loopw [7,32] (fun rv iv wr=>∃(k:Nat) (rl:List Mb) (ra:Option Addr) (rc:Nat),k+1<=L/\iv=.int .i64 k/\rv=.slice ra rl.length rc/\Hid (qC wr (w.heap.size+1) N 1000000 S (.slice s6 S.length c6) k (.slice ra rl.length rc) rl)/\Hid (aP wr w.heap.size (bk N []))/\Below w.heap.size w wr/\w.heap.size+1<=wr.heap.size) (fun _ iv _=>L-(intOf iv).toNat)
  case atStart=>exact⟨0,S,s6,c6,hL1,rfl,rfl,BW,Yv,vg,hs1⟩
  case round =>
   clear BW Yv;obtain⟨k,rl,ra,rc,hk,rfl,rfl,HR,HL,hb,hsz⟩:=hrel
   have afG:rl.length<=640:=by
    rcases HR.out.len with q|q
    ·omega
    ·rw[q];simp
   by_cases hlt:k+1<L
   ·have hlt':(k:Int)<((L-1:Nat):Int):=by omega
    obtain⟨T7,a7,c7,e7,Vp⟩:=HR.out.Yr.row;simp only[Value.slice.injEq,true_and]at e7;obtain⟨rfl,rfl⟩:=e7;have hpw:=Pw k (by omega)
    have hcall:=JN T7 rl.length rc ra rl wr rfl Vp HR.out.Yr.nums (1000000*2^k) (by
     have:((2^k:Nat):Int)<=16384:=by omega
     have e:((2^k:Nat):Int)=(2:Int)^k:=by simp
     omega) (fun x hx=>by obtain⟨q1,q2,_⟩:=HR.out.fine x hx;exact⟨q1,q2⟩) (fun x hx=>by have:=(HR.out.fine x hx).2.2.1;omega) (by omega)
    go_wp2_with fail;refine hcall.mono ?_;rintro e w2 ⟨vp,out,rfl,hbg,hpl,hol,hb2,Vq⟩;obtain⟨pa,pc,rfl⟩:=aT hbg.own;have Yw:Hid (v9 (w.heap.size+1) out):=fun x hx ad e=>by obtain⟨b,q1,q2⟩:=Vq x hx ad e;exact⟨b,q1,by omega⟩
    have HB2:Hid (_/\_/\_/\_):=⟨hbg,hpl,hol,hb2⟩
    clear Vq;have hsz2:=hb2.size;clear hcall hbg hpl hol hb2;go_wp2_with fail;have kA:=ae w2 (.cells #[.slice s6 S.length c6,.slice pa out.length pc] 259);have hs6:=((HR.out.Ru.below HB2.out.2.2.2).below kA).src;have hsp:=(HB2.out.1.Rr.below kA).src;have hol:out.length<=rl.length/2:=Nat.le_of_eq HB2.out.2.2.1;refine (Nl w2.heap.size 2 S.length out.length _ _ _ _ _ (ah w2 _) hs6 hsp (by omega)).mono ?_;rintro e w4 ⟨v7,rfl,Ih,hb4⟩;have Jj:=hb4.size;have hszA:(w2.alloc (.cells #[.slice s6 S.length c6,.slice pa out.length pc] 259)).heap.size=w2.heap.size+1:=by simp
    have Px:Pv w4 (w2.heap.size+1) v7 (S++out):=by
     refine⟨?_,fun x hx=>?_⟩
     ·rw[List.length_append,jb];exact Ac Ih (by omega)
     ·rcases List.mem_append.1 hx with q|q
      ·exact (((HR.out.Ru.nums x q).below HB2.out.2.2.2).below kA).below hb4
      ·exact ((HB2.out.1.nums x q).below kA).below hb4
    obtain⟨ra7,rc7,rfl⟩:=aT Ih;have Mc:Hid (_/\_/\_):=⟨Px,kA,hb4⟩
    clear hs6 hsp Ih Px kA hb4;rw[hszA]at Jj;go_wp2_with fail;refine (Ej 249 Rm (w2.heap.size+1) _ (S++out) w4 Mc.out.1.Rr (by rw[List.length_append];omega) (by omega)).mono ?_;rintro e w5 ⟨rfl,l',Yx,Rv,hb5⟩
    have ma:Hid (qC w5 (w.heap.size+1) N 1000000 S (.slice s6 S.length c6) (k+1) (.slice ra7 (S.length+out.length) rc7) l') :=
     HR.out.next HB2.out.2.1 HB2.out.2.2.1 Rv ZL.out (by omega) Yw.out (Yx.low (by omega)) HB2.out.2.2.2 Mc.out.2.1 Mc.out.2.2 (by rw[hszA];exact hb5)
    have Nu:Below wr.heap.size wr w5:=((HB2.out.2.2.2.trans (Mc.out.2.1.mono hsz2)).trans (Mc.out.2.2.mono (by rw[hszA];omega))).trans (hb5.mono (by omega));have hll:=Rv.perm.length_eq;rw[List.length_append]at hll;have ZM:Hid (l'.length=S.length+out.length):=hll;have Vr:aP w5 w.heap.size (bk N []):=(Nu.block _ (by omega)).trans HL.out;have hbw:Below w.heap.size w w5:=hb.trans (Nu.mono (by omega));have hs5:=Nu.size;rw[<-hll]at ma;have Yv:Hid (aP w5 w.heap.size _):=Vr;clear hll Vr Yx Rv hb5 Nu Mc HB2 HR HL hb hol;go_wp2
    go_roundw
    case rel=>exact⟨k+1,l',ra7,rc7,by omega,by go_num,by rw[ZM.out],ma,Yv,hbw,by omega⟩
    case measure=>simp[intOf];omega
   ·have hlt':¬(k:Int)<((L-1:Nat):Int):=by omega
    have ek:k+1=L:=by omega
    have HRW:Hid (Rf.Rows Mb.w Mb.ns S L rl):=by rw[<-ek];exact HR.out.rows
    have hSN:S.length<=N:=by have:=Vn.out;omega
    obtain⟨c,hcd⟩:∃c:Nat,c=2*S.length-2:=⟨_,rfl⟩
    have hcr:c<=rl.length:=by
     by_cases q:0<S.length
     ·have:=HRW.out.enough q (by omega);omega
     ·omega
    have Zk:Hid (c=2*S.length-2):=hcd;have hmx:max (2*(S.length:Int)-2) 0=(c:Int):=by omega
    have JQ:Hid (∀x∈rl,∀k∈x.ns,k<N):=fun x hx=>(HR.out.fine x hx).2.2.2.2
    have oZ:Hid (dK ws N L (bk N ((rl.take c).flatMap Mb.ns))):=by
     have:=Nt (ws:=ws) hNL hL hL1 hS2 iA hX HRW.out (by have:=Vn.out;omega) JQ.out;rw[<-Vn.out.1,<-Zk.out]at this;exact this
    have hpw:=Pw k (by omega);have MT:Hid (∀x∈rl,x.n<=16384/\x.ns.length=x.n):=fun x hx=>by have:=HR.out.fine x hx;exact⟨by omega,this.2.2.2.1⟩
    have HAV:Hid (v9 (w.heap.size+1) rl):=HR.out.Ys;have CD:Hid (∀x∈rl,jr wr x):=HR.out.Yr.nums;rcases HR.out.Yr.val with⟨e1,e2⟩|⟨T,rc',e1,hT,hcap,hrow⟩
    ·subst e2;simp only[List.length_nil,Value.slice.injEq,true_and]at e1;obtain⟨rfl,rfl⟩:=e1;have hc0:c=0:=by simpa using hcr
     subst hc0;clear HR CD hcd ek;go_wp2
     rename World=>wA
     go_loopw [50] (fun iv wq=>iv=.int .i64 0/\wq=wA) (fun _ _=>0)
     case atStart=>exact⟨rfl,rfl⟩
     case round =>
      obtain⟨rfl,rfl⟩:=hrel;go_wp2
      go_ret
      exact⟨_,rfl,by simpa using HL.out,oZ.out,hb⟩
    ·simp only[Value.slice.injEq,true_and]at e1;obtain⟨rfl,rfl⟩:=e1;have HRR:Hid (aV wr T rl.length (fun k=>(c9 rl k,k))):=hrow;have hci:(c:Int)<=(rc:Int):=by omega
     have hcn:c<=rc:=by omega
     clear HR hrow hcd ek;go_wp2
     rename World=>wA
     go_loopw [50] (fun iv wq=>∃i:Nat,i<=c/\iv=.int .i64 i/\Hid (aP wq w.heap.size (bk N ((rl.take i).flatMap Mb.ns)))/\Hid (((rl.take i).flatMap Mb.ns).length<=16384*i)/\Hid (aV wq T rl.length (fun k=>(c9 rl k,k)))/\Hid (∀x∈rl,jr wq x)/\Below w.heap.size w wq/\w.heap.size+1<=wq.heap.size) (fun iv _=>c-(intOf iv).toNat)
     case atStart=>exact⟨0,Nat.zero_le _,rfl,by rw[List.take_zero,List.flatMap_nil];exact HL,by show _<=_;simp,HRR,CD,hb,hsz⟩
     case round =>
      clear HL HRR CD hb hsz;obtain⟨i,hi,rfl,HL,Bl,HRR,CD,hb,hsz⟩:=hrel;by_cases hic:i<c
      ·have hir:i<rl.length:=by omega
       have hmem:c9 rl i∈rl:=by rw[eo rl i hir];exact List.getElem_mem _
       have x1:wr.cell? ⟨T,i*2,none⟩=some (c9 rl i).val.1/\wr.cell? ⟨T,i*2+1,none⟩=some (c9 rl i).val.2:=HRR.out.cell i hir;have aY:=HRR.out.lt;have hfn:=MT.out _ hmem;have Yd:Hid (rl.take (i+1)=rl.take i++[c9 rl i]):=by show _=_;rw[List.take_succ_eq_append_getElem hir,eo rl i hir]
       generalize hX:c9 rl i=X at *;obtain⟨xw,xa,xn,xc,xs⟩:=X;obtain⟨x10,fW⟩:=x1;simp only at x10 fW hfn;have Rx:Hid ((⟨xw,xa,xn,xc,xs⟩:Mb)∈rl):=hmem;have hxn:xn<=16384:=hfn.1;have Vs:Hid (xs.length=xn):=hfn.2;generalize Vt:(rl.take i).flatMap Mb.ns=Mf at *;have Vu:Hid ((rl.take (i+1)).flatMap Mb.ns=Mf++xs):=by show _=_;rw[Yd.out,List.flatMap_append,Vt];simp
       clear hX hmem hfn Vt Yd;have kA:=ae wr (.cells #[.int .i64 xw,.slice xa xn xc] 262);have HA:Hid (_/\_/\_/\_):=⟨(kA.block _ (by omega)).trans HL.out,HRR.out.kept (kA.block _ aY),fun x hx=>(CD.out x hx).below kA,hb.trans (kA.mono (by omega))⟩
       clear kA HL HRR CD hb;go_wp2
       rename World=>wB
       go_loopw [57] (fun jv wz=>∃j:Nat,j<=xn/\jv=.int .i64 j/\Hid (aP wz w.heap.size (bk N (Mf++xs.take j)))/\Hid (aV wz T rl.length (fun k=>(c9 rl k,k)))/\Hid (∀x∈rl,jr wz x)/\Below w.heap.size w wz/\w.heap.size+1<=wz.heap.size) (fun jv _=>xn-(intOf jv).toNat)
       case atStart=>exact⟨0,Nat.zero_le _,rfl,by rw[List.take_zero,List.append_nil];exact HA.out.1,HA.out.2.1,HA.out.2.2.1,HA.out.2.2.2,by simp;omega⟩
       case round =>
        clear HA x10 fW aY;obtain⟨j,hj,rfl,HL,HRR,CD,hb,hsz'⟩:=hrel;by_cases hjx:j<xn
        ·have hjl:j<xs.length:=by have:=Vs.out;omega
         have bZ:=CD.out _ Rx.out;obtain⟨a0,c0,e0,h2,h3⟩:=bZ.src.val;simp only[Value.slice.injEq,true_and]at e0;obtain⟨rfl,rfl⟩:=e0
         have hsome:∃ad,xa=some ad:=by
          cases xa with
          | none=>have:=(h2 rfl).1;simp only at this;omega
          | some ad=>exact⟨ad,rfl⟩
         obtain⟨ad,rfl⟩:=hsome;obtain⟨bn,rfl,hbn⟩:=HAV.out _ Rx.out ad rfl
         have hne:(xs.map Gj)≠[]:=by
          intro hh;have:=congrArg List.length hh;rw[List.length_map]at this;simp only[List.length_nil]at this;omega
         obtain⟨q1,q2⟩:=h3 _ rfl hne;have ZN:=q2 j (Gj xs[j]) (by rw[List.getElem?_map,List.getElem?_eq_getElem hjl];rfl);rw[eU,Nat.zero_add]at ZN;have Vo:=JQ.out _ Rx.out xs[j] (List.getElem_mem hjl);have HTJ:Hid (Mf++xs.take (j+1)=(Mf++xs.take j)++[xs[j]]):=by show _=_;rw[List.take_succ_eq_append_getElem hjl,List.append_assoc]
         generalize xs[j]=q at *;have hlc:=HL.out.at_ q (by rw[cx];exact Vo);have S1:=HL.out.set q ((bk N (Mf++xs.take j)).getD q 0+1);rw[<-Ab,<-HTJ.out]at S1
         have hv0:0<=(bk N (Mf++xs.take j)).getD q 0/\(bk N (Mf++xs.take j)).getD q 0<=20000000:=by
          rw[ig N _ q Vo];have a:=List.count_le_length (a:=q) (l:=Mf++xs.take j);rw[List.length_append,List.length_take]at a;have b:=Bl.out;omega
         have K1:Kp (·=w.heap.size) wr (wr.setCell ⟨w.heap.size,q,none⟩ (.int .i64 ((bk N (Mf++xs.take j)).getD q 0+1))):=(Kp.refl (·=w.heap.size) wr).setCell (p:=⟨w.heap.size,q,none⟩) (.inl rfl) _;have hfz:∀o,wr.frozen? ⟨w.heap.size,o,none⟩=false:=fun o=>frozen_of_row wr _ o _ _ HL.out;have HH:Hid (_/\_/\_/\_):=⟨S1,HRR.out.kept (K1.block _ HRR.out.lt (by omega)),fun x hx=>(CD.out x hx).apart K1 (HAV.out x hx),hb.trans (K1.below (by omega) (fun k _ hk=>by omega))⟩
         have hqI:(q:Int)<(N:Int):=by omega
         have hjI:(j:Int)<(xn:Int):=by omega
         generalize (bk N (Mf++xs.take j)).getD q 0=vq at *;clear S1 K1 HL HRR CD hb h2 h3 q2 bZ hne HTJ;go_wp2
         go_roundw
         case rel=>exact⟨j+1,by omega,by go_num,HH.out.1,HH.out.2.1,HH.out.2.2.1,HH.out.2.2.2,by simp;omega⟩
         case measure=>simp[intOf];omega
        ·have ej:j=xn:=by omega
         have HLF:Hid (aP wr w.heap.size (bk N ((rl.take (i+1)).flatMap Mb.ns))):=by
          rw[Vu.out];have:=HL.out;rw[List.take_of_length_le (by have:=Vs.out;omega)]at this;exact this
         have Q9:Hid (((rl.take (i+1)).flatMap Mb.ns).length<=16384*(i+1)):=by
          rw[Vu.out,List.length_append];have:=Bl.out;have:=Vs.out;show _<=_;omega
         clear HL Bl ej;go_wp2
         go_roundw
         case rel=>exact⟨i+1,by omega,by go_num,HLF,Q9,HRR,CD,hb,hsz'⟩
         case measure=>simp[intOf];omega
      ·have eic:i=c:=by omega
       subst eic;go_wp2
       go_ret
       exact⟨_,rfl,HL.out,oZ.out,hb⟩
end Go.Proofs.YtmfijackgekioaaGreatDoor
