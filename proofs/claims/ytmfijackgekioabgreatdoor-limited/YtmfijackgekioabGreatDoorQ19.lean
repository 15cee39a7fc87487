import Derived.Test.YtmfijackgekioabGreatDoorQ18
set_option maxHeartbeats 2000000
set_option maxRecDepth 100000
namespace Go.Proofs.YtmfijackgekioabGreatDoor
open Go.RowKit
def heavy (ws:List Int)(k:Nat):List Nat:=(List.range k).filter (fun x=>decide (0<ws.getD x 0))
theorem A7 (ws:List Int)(k:Nat):(heavy ws k).Nodup:=List.nodup_range.filter _
theorem gY (ws:List Int)(k x:Nat):x∈heavy ws k↔x<k/\0<ws.getD x 0:=by simp[heavy]
theorem qY (ws:List Int)(k:Nat)(h:0<ws.getD k 0):heavy ws (k+1)=heavy ws k++[k]:=by
 rw[heavy,List.range_succ,List.filter_append,List.filter_cons,aai (by simpa using h)];rfl
theorem A8 (ws:List Int)(k:Nat)(h:¬0<ws.getD k 0):heavy ws (k+1)=heavy ws k:=by
 rw[heavy,List.range_succ,List.filter_append,List.filter_cons,aag (by simpa using h),List.filter_nil,abm];rfl
theorem uj (ws:List Int)(k:Nat):(heavy ws k).length<=k:=by
 have:=List.length_filter_le (fun x=>decide (0<ws.getD x 0)) (List.range k);simpa[heavy]using this
structure yG (S:List Mb) (X:List Nat) (M:Int) (lo:Nat):Prop where
 ns:S.map Mb.ns=X.map (fun x=>[x])
 all:∀x∈S,0<x.w/\x.w<=M/\x.n=1/\∀ad,x.a=some ad->∃b,ad=⟨b,0,none⟩/\lo<=b
theorem yG.perm {S S':List Mb}{X:List Nat}{M:Int}{lo:Nat}(h:yG S X M lo)(hp:S'.Perm S):∃X',yG S' X' M lo/\X'.Perm X:=by
 have h1:(S'.map Mb.ns).Perm (X.map (fun x=>[x])):=by rw[<-h.ns];exact hp.map _
 refine⟨S'.map (fun x=>x.ns.headD 0),⟨?_,fun x hx=>h.all x ((hp.mem_iff).1 hx)⟩,?_⟩
 ·rw[List.map_map];refine acS (fun x hx=>?_);have:x.ns∈X.map (fun x=>[x]):=(h1.mem_iff).1 (adj.2 ⟨x,hx,rfl⟩);obtain⟨k,_,e⟩:=adj.1 this;simp[<-e]
 ·have:=h1.map (fun l=>l.headD 0);rw[List.map_map,List.map_map]at this
  have e:X.map ((fun l:List Nat=>l.headD 0)∘fun x=>[x])=X:=by
   have:((fun l:List Nat=>l.headD 0)∘fun x=>[x])=id:=by funext x;rfl
   rw[this,List.map_id]
  rw[e]at this;exact this
theorem rW (ws:List Int)(N cap:Nat)(ao:Option Addr)(w:World)(hN:ws.length=N)(Jj:N<=320)(hint:Ints w ao ws)(ha:∀a,ao=some a->ws≠[]->a.block<w.heap.size)(M:Int)(hw:∀j,0<=ws.getD j 0/\ws.getD j 0<=M): Calls Tryz.prog 197 #[.slice ao N cap] w fun e w'=>∃v S X,e=.returned v/\lY w' w.heap.size v S/\S.Pairwise (fun a b=>a.w<=b.w)/\yG S X M w.heap.size/\X.Perm (heavy ws N)/\Below w.heap.size w w':=by
 obtain⟨i0,hi,hz0,hz1,hz2⟩:=abx Tryz.infoBundle
 go_enter Tryz.func197,Tryz.ntmps197
 go_wp2
 go_loopw [3,8] (fun ov iv wr=>∃(k:Nat) (R:List Mb) (oa:Option Addr) (oc m:Nat),k<=N/\m<=k/\iv=.int .i64 k/\ov=.slice oa m oc/\R.length=m/\Hid (Qy wr w.heap.size (.slice oa m oc) R)/\Hid (yG R (heavy ws k) M w.heap.size)/\Below w.heap.size w wr) (fun _ iv _=>N-(intOf iv).toNat)
 case atStart=>exact⟨0,[],none,0,0,aao _,aaf _,rfl,rfl,rfl,⟨World.ownsRow_nil _ _ _ _,by simp⟩,⟨by simp[heavy],by simp⟩,aav _ _⟩
 case round =>
  obtain⟨k,R,oa,oc,m,hk,hmk,rfl,rfl,Zr,HB,HO,hb⟩:=hrel;by_cases hlt:k<N
  ·obtain⟨b,off,rfl,hc⟩:=hint k (by omega);have hbk:=ha _ rfl (ne_of_lt (show k<ws.length by omega));have hy2:ws[k]=ws.getD k 0:=by simp[List.getD,List.getElem?_eq_getElem (show k<ws.length by omega)]
   have hc2:wr.cell? ⟨b,off+k,none⟩=some (.int .i64 (ws.getD k 0)):=(hb.cell (p:=⟨b,off+k,none⟩) hbk).trans (by rw[hc,hy2]);have hwk:=hw k;clear hc hy2;by_cases hpos:0<ws.getD k 0
   ·have z0z:Hid (heavy ws (k+1)=heavy ws k++[k]):=qY ws k hpos;generalize ws.getD k 0=y at *;have kB:Below wr.heap.size wr ((wr.alloc (.cells #[.int .i64 (k:Int)] 3)).alloc (.cells #[.int .i64 y,.slice (some ⟨wr.heap.size,0,none⟩) 1 1] 227)):=((aav _ _).alloc (aaf _) _).alloc (by simp) _
    have hN5:jL ((wr.alloc (.cells #[.int .i64 (k:Int)] 3)).alloc (.cells #[.int .i64 y,.slice (some ⟨wr.heap.size,0,none⟩) 1 1] 227)) ⟨y,some ⟨wr.heap.size,0,none⟩,1,1,[k]⟩:=by
     refine jL.below (w:=wr.alloc (.cells #[.int .i64 (k:Int)] 3)) ⟨⟨⟨_,_,rfl,(fun e=>nomatch e),fun ad e _=>?_⟩,rfl,fun u hu=>?_⟩,fun ad e _=>?_⟩ (ae _ _)
     ·cases e;refine⟨by simp,fun j u hj=>?_⟩;rw[ey,aaR,aU (ah wr _)];simpa using hj
     ·simp only[acR,List.map_nil,abR]at hu;rw[hu];rfl
     ·simp only[acv]at e;subst e;exact⟨_,_,ah wr _⟩
    have KM:((wr.alloc (.cells #[.int .i64 (k:Int)] 3)).alloc (.cells #[.int .i64 y,.slice (some ⟨wr.heap.size,0,none⟩) 1 1] 227)).ownsRow w.heap.size 227 2 (.slice oa m oc) m (cellsOf R):=by
     have:=aL HB.out.own (fun g hg=>kB.block g (HB.out.own.lt g hg).2)
     rwa [Zr]at this
    have hsB:Src ((wr.alloc (.cells #[.int .i64 (k:Int)] 3)).alloc (.cells #[.int .i64 y,.slice (some ⟨wr.heap.size,0,none⟩) 1 1] 227)) 2 (.slice (some ⟨wr.heap.size+1,0,none⟩) 1 1) 1 [.int .i64 y,.slice (some ⟨wr.heap.size,0,none⟩) 1 1]:=by
     refine⟨⟨_,_,rfl,(fun e=>nomatch e),fun ad e hne=>?_⟩,rfl,fun u hu=>?_⟩
     ·cases e;refine⟨by simp,fun j u hu=>?_⟩;have hbn:((wr.alloc (.cells #[.int .i64 (k:Int)] 3)).alloc (.cells #[.int .i64 y,.slice (some ⟨wr.heap.size,0,none⟩) 1 1] 227)).heap[wr.heap.size+1]?=some (.cells #[.int .i64 y,.slice (some ⟨wr.heap.size,0,none⟩) 1 1] 227 (0,0)):=ue (by simp);rw[ey,aaR,aU hbn];simpa using hu
     ·simp only[ab5,abC,or_false]at hu;rcases hu with rfl|rfl<;>rfl
    have aaV:=kB.size;obtain⟨v',w',hr,ho',hg'⟩:=cS (ty:=224) Tryz.underlying224 hi hz0 hz1 hz2 rfl (by decide) KM hsB (by unfold maxLen;omega) (by omega) (by have:=hb.size;omega);obtain⟨sH,oF,rfl⟩:=aX ho'
    have SC:Hid (Qy w' w.heap.size (.slice sH (m+1) oF) (R++[⟨y,some ⟨wr.heap.size,0,none⟩,1,1,[k]⟩])):=by
     refine⟨?_,fun z hz=>?_⟩
     ·rw[jw,aae,Zr];exact ho'
     ·rcases abw.1 hz with q|q
      ·exact ((HB.out.nums z q).below kB).grown KM hg'
      ·rw[abR.1 q];exact hN5.grown KM hg'
    have Wo:Hid (yG (R++[⟨y,some ⟨wr.heap.size,0,none⟩,1,1,[k]⟩]) (heavy ws (k+1)) M w.heap.size):=by
     rw[z0z.out];refine⟨by rw[aca,aca,HO.out.ns];rfl,fun x hx=>?_⟩;rcases abw.1 hx with q|q
     ·exact HO.out.all x q
     ·rw[abR.1 q];exact⟨hpos,hwk.2,rfl,fun ad e=>by cases e;exact⟨_,rfl,hb.size⟩⟩
    have hb':Below w.heap.size w w':=cy (hb.trans (kB.mono hb.size)) hg' (fun k hk=>(KM.lt k hk).1) (aaf _);have hpos':(y:Int)>0:=hpos;clear hN5 KM hsB ho' hg' HB HO;go_wp2_with (at_builtin;refine aa8 _ rfl _ _ _ _ rfl _ _ rfl rfl _ _ hr ?_)
    go_roundw
    case rel=>exact⟨k+1,_,sH,oF,m+1,by omega,by omega,by go_num,rfl,by simp[Zr],SC,Wo,hb'⟩
    case measure=>simp[intOf];omega
   ·have z0z:Hid (heavy ws (k+1)=heavy ws k):=A8 ws k hpos;generalize ws.getD k 0=y at *;have hpos':¬y>0:=hpos;go_wp2
    go_roundw
    case rel=>exact⟨k+1,R,oa,oc,m,by omega,by omega,by go_num,rfl,Zr,HB,by rw[z0z.out];exact HO,hb⟩
    case measure=>simp[intOf];omega
  ·have e:k=N:=by omega
   subst e;have SE:=HB.out.SD;have hRl:R.length<=1000000:=by omega
   go_wp2_with fail;refine (Ff 207 Sw w.heap.size _ R wr SE hRl hb.size).mono ?_;rintro e w1 ⟨rfl,S,h1,h2,h3⟩;obtain⟨X,hX1,hX2⟩:=HO.out.perm h2.perm;go_wp2
   go_ret
   exact⟨_,S,X,rfl,h1,h2.sorted,hX1,hX2,hb.trans h3⟩
def bu (N:Nat)(xs:List Nat):List Int:=(List.range N).map (fun x=>((xs.count x:Nat):Int))
theorem cP (N:Nat)(xs:List Nat):(bu N xs).length=N:=by simp[bu]
theorem iI (N:Nat)(xs:List Nat)(j:Nat)(h:j<N):(bu N xs).getD j 0=((xs.count j:Nat):Int):=by
 unfold bu;rw[aad,abQ,List.getElem?_range h];rfl
theorem A9 (N:Nat)(xs:List Nat)(k:Nat):bu N (xs++[k])=(bu N xs).set k ((bu N xs).getD k 0+1):=by
 apply ace
 ·simp[bu]
 ·intro j h1 h2;have hj:j<N:=by simpa[bu]using h1
  rw[List.getElem_set];by_cases e:k=j
  ·subst e;rw[aai rfl,iI N xs k hj];simp only[bu,acI,acQ,List.count_append];simp
  ·rw[aag e];simp only[bu,acI,acQ,List.count_append];have:¬k=j:=e;simp[this]
theorem DF (N:Nat):vals (bu N [])=List.replicate N (.int .i64 0):=by
 rw[<-bO]
 congr 1
 apply ace
 ·simp[bu]
 ·intro j _ _;simp[bu]
def mK (N:Nat)(W:Int)(K:Nat)(l:List Mb):Prop:=∀x∈l,0<=x.w/\x.w<=W/\x.n<=K/\x.ns.length=x.n/\∀k∈x.ns,k<N
def xt (lo:Nat)(l:List Mb):Prop:=∀x∈l,∀ad,x.a=some ad->∃b,ad=⟨b,0,none⟩/\lo<=b
theorem mK.mono {N:Nat}{W W':Int}{K K':Nat}{l:List Mb}(h:mK N W K l)(h1:W<=W')(h2:K<=K'):mK N W' K' l:=fun x hx=>by
 obtain⟨a,b,c,d⟩:=h x hx;exact⟨a,by omega,by omega,d⟩
theorem mK.perm {N:Nat}{W:Int}{K:Nat}{l l':List Mb}(h:mK N W K l)(hp:l'.Perm l):mK N W K l':=fun x hx=>h x ((hp.mem_iff).1 hx)
theorem mK.append {N:Nat}{W:Int}{K:Nat}{l l':List Mb}(h:mK N W K l)(h':mK N W K l'):mK N W K (l++l'):=fun x hx=>by
 rcases abw.1 hx with q|q
 ·exact h x q
 ·exact h' x q
theorem rV.fine {N:Nat}{W:Int}{K:Nat}{l out:List Mb}(h:rV l out)(hf:mK N W K l):mK N (2*W) (2*K) out:=by
 intro x hx;obtain⟨j,hj,rfl⟩:=acU hx;have ht:=h.2 j hj;rw[eJ out j hj]at ht;obtain⟨t1,t2,t3⟩:=ht;have hl:=h.1;have m1:dC l (2*j)∈l:=by rw[eJ l _ (by omega)];exact abl _
 have m2:dC l (2*j+1)∈l:=by rw[eJ l _ (by omega)];exact abl _
 obtain⟨a1,b1,c1,d1,e1⟩:=hf _ m1;obtain⟨a2,b2,c2,d2,e2⟩:=hf _ m2;refine⟨by omega,by omega,by omega,by rw[t2,aae];omega,fun k hk=>?_⟩;rw[t2]at hk;rcases abw.1 hk with q|q
 ·exact e1 k q
 ·exact e2 k q
theorem rV.SG {l out:List Mb}(h:rV l out)(hl:out.length=l.length/2):Rf.lQ Mb.w Mb.ns l out:=by
 refine⟨hl,fun j hj h1 h2=>?_⟩;have ht:=h.2 j hj;rw[eJ out j hj,eJ l _ h1,eJ l _ h2]at ht;exact⟨ht.1,ht.2.1⟩
theorem yG.fine {N:Nat}{S:List Mb}{X:List Nat}{M:Int}{lo:Nat}(h:yG S X M lo)(hX:∀x∈X,x<N):mK N M 1 S:=by
 intro x hx;obtain⟨a,b,c,_⟩:=h.all x hx;have:x.ns∈X.map (fun x=>[x]):=by rw[<-h.ns];exact adj.2 ⟨x,hx,rfl⟩
 obtain⟨k,hk,e⟩:=adj.1 this;refine⟨by omega,b,by omega,by rw[<-e,c];rfl,fun q hq=>?_⟩;rw[<-e]at hq;rw[abR.1 hq];exact hX k hk
structure dW (ws:List Int) (N L:Nat) (lens:List Int):Prop where
 len:lens.length=N
 vX:∀j,0<=lens.getD j 0/\lens.getD j 0<=L
 pos:∀j,j∈heavy ws N->0<lens.getD j 0
 non:∀j,j∉heavy ws N->lens.getD j 0=0
 full:2<=(heavy ws N).length->Rf.fs lens N=32768
 one:(heavy ws N).length=1->∀j,j∈heavy ws N->lens.getD j 0=1
theorem Ot {ws:List Int}{N L:Nat}{S rl:List Mb}{X:List Nat}{M:Int}{lo:Nat}(hN:N<=2^L)(hL:L<=15)(hL1:1<=L)(hS:S.Pairwise (fun a b=>a.w<=b.w))(h1:yG S X M lo)(hX:X.Perm (heavy ws N))(hr:Rf.Rows Mb.w Mb.ns S L rl)(hn1:X.length≠1)(hfi:∀x∈rl,∀k∈x.ns,k<N): dW ws N L (bu N ((rl.take (2*X.length-2)).flatMap Mb.ns)):=by
 have UU:S.length=X.length:=by have:=abY List.length h1.ns;simpa using this
 have Zs:∀x∈X,x<N:=fun x hx=>((gY ws N x).1 ((hX.mem_iff).1 hx)).1;have hlen:=hX.length_eq;have hle:=uj ws N;by_cases h2:2<=X.length
 ·have:=Rf.yB (wt:=Mb.w) (ns:=Mb.ns) (S:=S) (row:=rl) (X:=X) (L:=L) (M:=N) (lens:=bu N ((rl.take (2*X.length-2)).flatMap Mb.ns)) hS (fun x hx=>by have:=(h1.all x hx).1;omega) h1.ns ((hX.nodup_iff).2 (A7 ws N)) Zs h2 (by omega) hL hr (fun j=>?_)
  ·obtain⟨a,b,c,d⟩:=this;exact⟨cP _ _,a,fun j hj=>b j ((hX.mem_iff).2 hj),fun j hj=>c j (fun q=>hj ((hX.mem_iff).1 q)),fun _=>d,fun q=>by omega⟩
  ·by_cases hj:j<N
   ·rw[iI N _ j hj];rfl
   ·rw[aad,aaz (by rw[cP];omega)]
    have:Rf.cnt Mb.ns j (rl.take (2*X.length-2))=0:=by
     unfold Rf.cnt;rw[List.count_eq_zero];intro hm;obtain⟨x,hx,hk⟩:=List.mem_flatMap.1 hm;exact hj (hfi x (ac5 hx) j hk)
    rw[this];rfl
 ·have h0:X.length=0:=by omega
  have UX:X=[]:=aaL h0;have hh:heavy ws N=[]:=aaL (by omega);rw[h0];have e:(rl.take (2*0-2)).flatMap Mb.ns=[]:=by simp
  rw[e]
  have z:∀j,(bu N []).getD j 0=0:=fun j=>by
   by_cases hj:j<N
   ·rw[iI N [] j hj];simp
   ·rw[aad,aaz (by rw[cP];omega)];rfl
  exact⟨cP _ _,fun j=>by rw[z];omega,fun j hj=>by rw[hh]at hj;simp at hj,fun j _=>z j,fun q=>by omega,fun q=>by omega⟩
structure qZ (wr:World) (base:Nat) (N:Nat) (M:Int) (S:List Mb) (v6:Value) (k:Nat) (v7:Value) (rl:List Mb):Prop where
 rows:Rf.Rows Mb.w Mb.ns S (k+1) rl
 Zt:lY wr base v7 rl
 SH:lY wr base v6 S
 fine:mK N (M*2^k) (2^k) rl
 Zu:xt base rl
 abS:xt base S
 len:rl.length<2*S.length\/rl=[]
theorem lY.row {w:World}{base:Nat}{v:Value}{l:List Mb}(h:lY w base v l):∃T ao cap,v=.slice ao l.length cap/\(0<l.length->ao=some ⟨T,0,none⟩/\aZ w T l.length (fun k=>(dC l k,k))):=by
 rcases h.val with⟨rfl,rfl⟩|⟨T,cap,h1,_,_,h3⟩
 ·exact⟨0,none,0,rfl,fun h=>by simp at h⟩
 ·exact⟨T,_,cap,h1,fun _=>⟨rfl,h3⟩⟩
theorem qZ.next {wr w2 w3 w4 w5:World}{base N k:Nat}{M:Int}{S rl out l':List Mb}{v6 v7 v7':Value}(h:qZ wr base N M S v6 k v7 rl)(hp:rV rl out)(hpl:out.length=rl.length/2)(hst:Rf.Stable Mb.w (S++out) l')(hf0:mK N M 1 S)(hM:0<=M)(hab:xt base out)(SE:lY w5 base v7' l')(b1:Below wr.heap.size wr w2)(b2:Below w2.heap.size w2 w3)(b3:Below w3.heap.size w3 w4)(b4:Below w3.heap.size w4 w5):qZ w5 base N M S v6 (k+1) v7' l':=by
 have hl:=hst.perm.length_eq;rw[aae]at hl;have p1:1<=2^(k+1):=Nat.one_le_two_pow;refine⟨⟨rl,out,h.rows,hp.SG hpl,hst⟩,SE,((h.SH.below b1).below b2).below (b3.trans b4),?_,fun x hx=>?_,h.abS,?_⟩
 ·refine mK.perm (mK.append (hf0.mono ?_ p1) ((hp.fine h.fine).mono ?_ ?_)) hst.perm
  ·have:M*1<=M*2^(k+1):=Int.mul_le_mul_of_nonneg_left (by
    have:(1:Int)<=((2^(k+1):Nat):Int):=by omega
    simpa using this) hM
   omega
  ·rw[Int.pow_succ,Int.mul_comm 2,Int.mul_assoc];exact ab2 _
  ·rw[ac8];omega
 ·rcases abw.1 ((hst.perm.mem_iff).1 hx) with q|q
  ·exact h.abS x q
  ·exact hab x q
 ·cases S with
  | nil =>
   rcases h.len with q|q
   ·simp at q
   ·right
    subst q;have h0:out.length=0:=by simpa using hpl
    rw[aaL h0]at hst;have:=hst.perm.length_eq;exact aaL (by simpa using this)
  | cons x l =>
   left
   rcases h.len with q|q
   ·simp only[aaw]at *;omega
   ·subst q;simp only[aaw,acm]at *;omega
theorem Ba {w:World}{base base':Nat}{e:TypeId}{size:Nat}{v:Value}{n:Nat}{xs:List Value}(h:w.ownsRow base e size v n xs)(hb:base'<=base):w.ownsRow base' e size v n xs:=by
 refine⟨h.1,?_⟩;rcases h.2 with h'|⟨g,cap,cur,rfl,hb',r⟩
 ·exact .inl h'
 ·exact .inr ⟨g,cap,cur,rfl,by omega,r⟩
theorem jL.apart {w w':World}{x:Mb}{Lb:Nat}(h:jL w x)(k:Kp (·=Lb) w w')(ha:∀ad,x.a=some ad->∃b,ad=⟨b,0,none⟩/\Lb+1<=b):jL w' x:=by
 have key:∀ad,x.a=some ad->x.ns≠[]->w'.heap[ad.block]?=w.heap[ad.block]?:=fun ad e hne=>by
  obtain⟨cs,fr,q⟩:=h.typ ad e hne;obtain⟨b,rfl,hb⟩:=ha ad e;exact k.block _ (aac q) (show ¬b=Lb by omega)
 obtain⟨⟨⟨a,c,h1,h2,h3⟩,h4,h5⟩,h6⟩:=h;refine⟨⟨⟨a,c,h1,h2,fun ad e hne=>?_⟩,h4,h5⟩,fun ad e hne=>?_⟩
 ·obtain⟨q1,q2⟩:=h3 ad e hne;simp only[abU]at h1;have kk:=key ad (h1.1.trans e) (fun hh=>hne (by rw[hh];rfl));exact⟨aa3 q1 k.size,fun j u hj=>(World.cell?_of_block (w:=w) (a:=ad.add j) (by rw[add_block];exact kk)).trans (q2 j u hj)⟩
 ·obtain⟨cs,fr,q⟩:=h6 ad e hne;exact⟨cs,fr,(key ad e hne).trans q⟩
theorem Qz (k:Nat)(h:k<=14):(2:Nat)^k<=16384:=by
 have:=abp (n:=2) (by omega) h;omega
theorem dg (ws:List Int)(N L cap:Nat)(ao:Option Addr)(w:World)(hN:ws.length=N)(Jj:N<=320)(hNL:N<=2^L)(hL:L<=15)(hL1:1<=L)(hint:Ints w ao ws)(ha:∀a,ao=some a->ws≠[]->a.block<w.heap.size)(hw:∀j,0<=ws.getD j 0/\ws.getD j 0<=1000000): Calls Tryz.prog 185 #[.slice ao N cap,.int .i64 L] w fun e w'=>∃lens,e=.returned (.slice (some ⟨w.heap.size,0,none⟩) N N)/\aS w' w.heap.size lens/\dW ws N L lens/\Below w.heap.size w w':=by
 obtain⟨Z,hZ⟩:∃Z:List Value,Z=List.replicate N (.int .i64 0):=⟨_,rfl⟩
 have hmk:∀u:World,(Instr.makeSlice 22 (.int .i64 N) (.int .i64 N)).run Tryz.prog u=.ok (.slice (some ⟨u.heap.size,0,none⟩) N N) (u.alloc (.cells Z.toArray 3)):=fun u=>mU N Jj Z hZ u;have HZ:Hid (Z=vals (bu N [])):=by show _=_;rw[hZ,DF]
 clear hZ;have k0:=ae w (.cells Z.toArray 3)
 go_enter Tryz.func185,Tryz.ntmps185
 go_wp2_with fail;refine (rW ws N cap ao _ hN Jj (hint.below k0 ha) (fun a e h=>by have:=ha a e h;simp;omega) 1000000 hw).mono ?_;rintro e w1 ⟨v6,S,X,rfl,hS1,hS2,iQ,hX,hb1⟩;obtain⟨s6,c6,e6⟩:=hS1.slice;have UU:S.length=X.length:=by have:=abY List.length iQ.ns;simpa using this
 have hXl:=hX.length_eq;have hle:=uj ws N
 have hL0:aS w1 w.heap.size (bu N []):=by
  have:w1.heap[w.heap.size]?=some (.cells Z.toArray 3 (0,0)):=(hb1.block _ (by simp)).trans (ah w _);rw[HZ.out]at this;exact this
 simp only[aap]at hS1 hb1;have vY:Below w.heap.size w w1:=k0.trans (hb1.mono (by omega));have hs1:=hb1.size;rw[aap]at hs1;have Zs:∀x∈X,x<N:=fun x hx=>((gY ws N x).1 ((hX.mem_iff).1 hx)).1;have hSl:S.length<=320:=by omega
 have Wp:Hid (S.length=X.length/\X.length=(heavy ws N).length):=⟨UU,hXl⟩
 clear UU hXl;by_cases hone:S.length=1
 ·obtain⟨x,rfl⟩:=List.length_eq_one_iff.1 hone;obtain⟨q,rfl⟩:=List.length_eq_one_iff.1 (show X.length=1 by have:=Wp.out;omega);have hns:x.ns=[q]:=by have:=iQ.ns;simpa using this
  have Zv:heavy ws N=[q]:=by
   have:=hX.symm
   rwa [List.perm_singleton]at this
  obtain⟨w1',w2',hxn,hxa⟩:=iQ.all x (by simp);have cH:=hS1.nums x (by simp);have Wq:=Zs q (by simp);rcases hS1.val with⟨_,e2⟩|⟨T,cT,e1,hT,_,hrow⟩
  ·simp at e2
  ·have x1:w1.cell? ⟨T,0*2,none⟩=some x.val.1/\w1.cell? ⟨T,0*2+1,none⟩=some x.val.2:=hrow.cell 0 (by simp);have bg:=hrow.lt;obtain⟨xw,xa,xn,xc,xs⟩:=x;simp only at hns hxn hxa x1;subst hns hxn;obtain⟨a0,c0,e0,h2,h3⟩:=cH.src.val;simp only[abU,ack]at e0;obtain⟨rfl,rfl⟩:=e0
   have hsome:∃ad,xa=some ad:=by
    cases xa with
    | none=>have:=(h2 rfl).1;simp at this
    | some ad=>exact⟨ad,rfl⟩
   obtain⟨ad,rfl⟩:=hsome;obtain⟨bn,rfl,hbn⟩:=hxa ad rfl;obtain⟨q1,q2⟩:=h3 _ rfl (by simp);have hcn:=q2 0 (Hj q) (by simp);rw[ey,aaR]at hcn;obtain⟨x10,gx⟩:=x1;simp only[Nat.zero_mul,aaR]at x10 gx;have hlc:=hL0.at_ q (by rw[cP];exact Wq);have S1:=hL0.set q 1;have hfz:∀o,w1.frozen? ⟨w.heap.size,o,none⟩=false:=fun o=>aaM w1 _ o _ _ hL0;have K1:Kp (·=w.heap.size) w1 (w1.setCell ⟨w.heap.size,q,none⟩ (.int .i64 1)):=(Kp.refl (·=w.heap.size) w1).setCell (p:=⟨w.heap.size,q,none⟩) (.inl rfl) _
   have pO:Hid (dW ws N L ((bu N []).set q 1)):=by
    have hz:∀j,(bu N []).getD j 0=0:=fun j=>by
     by_cases hj:j<N
     ·rw[iI N [] j hj];simp
     ·rw[aad,aaz (by rw[cP];omega)];rfl
    have hg:∀j,((bu N []).set q 1).getD j 0=if j=q then 1 else 0:=fun j=>by
     by_cases e:j=q
     ·subst e;rw[aai rfl,aad,ac9 (by rw[cP];exact Wq)];rfl
     ·rw[aag e,aad,adi (ac0 e),<-aad,hz j]
    refine⟨by rw[aaW,cP],fun j=>by rw[hg];split<;>omega,fun j hj=>?_,fun j hj=>?_,fun hh=>by rw[Zv]at hh;simp at hh,fun _ j hj=>?_⟩
    ·rw[Zv]at hj;rw[hg,aai (by simpa using hj)];decide
    ·rw[Zv]at hj;rw[hg,aag (by simpa using hj)]
    ·rw[Zv]at hj;rw[hg,aai (by simpa using hj)]
   have NS:Hid (_/\_):=⟨S1,vY.trans (K1.below (by omega) (fun k _ hk=>by omega))⟩
   rw[e6]at e1;simp only[ab4,abU,ack]at e1;obtain⟨rfl,rfl⟩:=e1;subst e6;have hqI:(q:Int)<(N:Int):=by omega
   clear hS1 iQ hX Wp cH hrow h2 h3 q2 S1 K1 hL0;go_wp2
   go_ret
   exact⟨_,rfl,NS.out.1,pO.out,NS.out.2⟩
 ·have hne:((S.length:Int)==1)=false:=by simp;omega
  have KN:=iQ.fine Zs;have Zw:xt (w.heap.size+1) S:=fun x hx ad e=>by have:=(iQ.all x hx).2.2.2 ad e;simpa using this
  have C9:Hid (qZ w1 (w.heap.size+1) N 1000000 S v6 0 v6 S):=by
   refine⟨Rf.Rows.one hS2,hS1,hS1,by simpa using KN,Zw,Zw,?_⟩;cases S with
   | nil=>exact .inr rfl
   | cons x l=>left;simp only[aaw];omega
  have Zx:Hid (aS w1 w.heap.size (bu N [])):=hL0;subst e6;have HF0:Hid (mK N 1000000 1 S):=KN;have hLi:(L:Int)-1=((L-1:Nat):Int):=by omega
  clear hS1 hL0 KN hmk;go_wp2
  go_loopw [7,32] (fun rv iv wr=>∃(k:Nat) (rl:List Mb) (ra:Option Addr) (rc:Nat),k+1<=L/\iv=.int .i64 k/\rv=.slice ra rl.length rc/\Hid (qZ wr (w.heap.size+1) N 1000000 S (.slice s6 S.length c6) k (.slice ra rl.length rc) rl)/\Hid (aS wr w.heap.size (bu N []))/\Below w.heap.size w wr/\w.heap.size+1<=wr.heap.size) (fun _ iv _=>L-(intOf iv).toNat)
  case atStart=>exact⟨0,S,s6,c6,hL1,rfl,rfl,C9,Zx,vY,hs1⟩
  case round =>
   clear C9 Zx;obtain⟨k,rl,ra,rc,hk,rfl,rfl,HR,HL,hb,hsz⟩:=hrel
   have agM:rl.length<=640:=by
    rcases HR.out.len with q|q
    ·omega
    ·rw[q];simp
   by_cases hlt:k+1<L
   ·have hlt':(k:Int)<((L-1:Nat):Int):=by omega
    obtain⟨T7,a7,c7,e7,Ws⟩:=HR.out.Zt.row;simp only[abU,ack]at e7;obtain⟨rfl,rfl⟩:=e7;have hpw:=Qz k (by omega)
    have hcall:=KL T7 rl.length rc ra rl wr rfl Ws HR.out.Zt.nums (1000000*2^k) (by
     have:((2^k:Nat):Int)<=16384:=by omega
     have e:((2^k:Nat):Int)=(2:Int)^k:=by simp
     omega) (fun x hx=>by obtain⟨q1,q2,_⟩:=HR.out.fine x hx;exact⟨q1,q2⟩) (fun x hx=>by have:=(HR.out.fine x hx).2.2.1;omega) (by omega)
    go_wp2_with fail;refine hcall.mono ?_;rintro e w2 ⟨vp,out,rfl,hbg,hpl,hol,hb2,Wt⟩;obtain⟨pa,pc,rfl⟩:=aX hbg.own;have Zy:Hid (xt (w.heap.size+1) out):=fun x hx ad e=>by obtain⟨b,q1,q2⟩:=Wt x hx ad e;exact⟨b,q1,by omega⟩
    have HB2:Hid (_/\_/\_/\_):=⟨hbg,hpl,hol,hb2⟩
    clear Wt;have hsz2:=hb2.size;clear hcall hbg hpl hol hb2;go_wp2_with fail;have kA:=ae w2 (.cells #[.slice s6 S.length c6,.slice pa out.length pc] 224);have hs6:=((HR.out.SH.below HB2.out.2.2.2).below kA).src;have hsp:=(HB2.out.1.SD.below kA).src;have hol:out.length<=rl.length/2:=Nat.le_of_eq HB2.out.2.2.1;refine (Ok w2.heap.size 2 S.length out.length _ _ _ _ _ (ah w2 _) hs6 hsp (by omega)).mono ?_;rintro e w4 ⟨v7,rfl,Jg,hb4⟩;have Ka:=hb4.size;have hszA:(w2.alloc (.cells #[.slice s6 S.length c6,.slice pa out.length pc] 224)).heap.size=w2.heap.size+1:=by simp
    have QA:Qy w4 (w2.heap.size+1) v7 (S++out):=by
     refine⟨?_,fun x hx=>?_⟩
     ·rw[aae,jw];exact Ba Jg (by omega)
     ·rcases abw.1 hx with q|q
      ·exact (((HR.out.SH.nums x q).below HB2.out.2.2.2).below kA).below hb4
      ·exact ((HB2.out.1.nums x q).below kA).below hb4
    obtain⟨ra7,rc7,rfl⟩:=aX Jg;have M6:Hid (_/\_/\_):=⟨QA,kA,hb4⟩
    clear hs6 hsp Jg QA kA hb4;rw[hszA]at Ka;go_wp2_with fail;refine (Ff 201 Sv (w2.heap.size+1) _ (S++out) w4 M6.out.1.SD (by rw[aae];omega) (by omega)).mono ?_;rintro e w5 ⟨rfl,l',Zz,SI,hb5⟩
    have mF:Hid (qZ w5 (w.heap.size+1) N 1000000 S (.slice s6 S.length c6) (k+1) (.slice ra7 (S.length+out.length) rc7) l') :=
     HR.out.next HB2.out.2.1 HB2.out.2.2.1 SI HF0.out (by omega) Zy.out (Zz.low (by omega)) HB2.out.2.2.2 M6.out.2.1 M6.out.2.2 (by rw[hszA];exact hb5)
    have Ou:Below wr.heap.size wr w5:=((HB2.out.2.2.2.trans (M6.out.2.1.mono hsz2)).trans (M6.out.2.2.mono (by rw[hszA];omega))).trans (hb5.mono (by omega));have hll:=SI.perm.length_eq;rw[aae]at hll;have HLL:Hid (l'.length=S.length+out.length):=hll;have Wu:aS w5 w.heap.size (bu N []):=(Ou.block _ (by omega)).trans HL.out;have hbw:Below w.heap.size w w5:=hb.trans (Ou.mono (by omega));have hs5:=Ou.size;rw[<-hll]at mF;have Zx:Hid (aS w5 w.heap.size _):=Wu;clear hll Wu Zz SI hb5 Ou M6 HB2 HR HL hb hol;go_wp2
    go_roundw
    case rel=>exact⟨k+1,l',ra7,rc7,by omega,by go_num,by rw[HLL.out],mF,Zx,hbw,by omega⟩
    case measure=>simp[intOf];omega
   ·have hlt':¬(k:Int)<((L-1:Nat):Int):=by omega
    have ek:k+1=L:=by omega
    have HRW:Hid (Rf.Rows Mb.w Mb.ns S L rl):=by rw[<-ek];exact HR.out.rows
    have hSN:S.length<=N:=by have:=Wp.out;omega
    obtain⟨c,hcd⟩:∃c:Nat,c=2*S.length-2:=⟨_,rfl⟩
    have hcr:c<=rl.length:=by
     by_cases q:0<S.length
     ·have:=HRW.out.enough q (by omega);omega
     ·omega
    have HCD:Hid (c=2*S.length-2):=hcd;have hmx:max (2*(S.length:Int)-2) 0=(c:Int):=by omega
    have KO:Hid (∀x∈rl,∀k∈x.ns,k<N):=fun x hx=>(HR.out.fine x hx).2.2.2.2
    have pO:Hid (dW ws N L (bu N ((rl.take c).flatMap Mb.ns))):=by
     have:=Ot (ws:=ws) hNL hL hL1 hS2 iQ hX HRW.out (by have:=Wp.out;omega) KO.out;rw[<-Wp.out.1,<-HCD.out]at this;exact this
    have hpw:=Qz k (by omega);have NS:Hid (∀x∈rl,x.n<=16384/\x.ns.length=x.n):=fun x hx=>by have:=HR.out.fine x hx;exact⟨by omega,this.2.2.2.1⟩
    have HAV:Hid (xt (w.heap.size+1) rl):=HR.out.Zu;have DG:Hid (∀x∈rl,jL wr x):=HR.out.Zt.nums;rcases HR.out.Zt.val with⟨e1,e2⟩|⟨T,rc',e1,hT,hcap,hrow⟩
    ·subst e2;simp only[acm,abU,ack]at e1;obtain⟨rfl,rfl⟩:=e1;have hc0:c=0:=by simpa using hcr
     subst hc0;clear HR DG hcd ek;go_wp2
     rename World=>wA
     go_loopw [50] (fun iv wq=>iv=.int .i64 0/\wq=wA) (fun _ _=>0)
     case atStart=>exact⟨rfl,rfl⟩
     case round =>
      obtain⟨rfl,rfl⟩:=hrel;go_wp2
      go_ret
      exact⟨_,rfl,by simpa using HL.out,pO.out,hb⟩
    ·simp only[abU,ack]at e1;obtain⟨rfl,rfl⟩:=e1;have HRR:Hid (aZ wr T rl.length (fun k=>(dC rl k,k))):=hrow;have hci:(c:Int)<=(rc:Int):=by omega
     have hcn:c<=rc:=by omega
     clear HR hrow hcd ek;go_wp2
     rename World=>wA
     go_loopw [50] (fun iv wq=>∃i:Nat,i<=c/\iv=.int .i64 i/\Hid (aS wq w.heap.size (bu N ((rl.take i).flatMap Mb.ns)))/\Hid (((rl.take i).flatMap Mb.ns).length<=16384*i)/\Hid (aZ wq T rl.length (fun k=>(dC rl k,k)))/\Hid (∀x∈rl,jL wq x)/\Below w.heap.size w wq/\w.heap.size+1<=wq.heap.size) (fun iv _=>c-(intOf iv).toNat)
     case atStart=>exact⟨0,aao _,rfl,by rw[List.take_zero,List.flatMap_nil];exact HL,by show _<=_;simp,HRR,DG,hb,hsz⟩
     case round =>
      clear HL HRR DG hb hsz;obtain⟨i,hi,rfl,HL,Ct,HRR,DG,hb,hsz⟩:=hrel;by_cases hic:i<c
      ·have hir:i<rl.length:=by omega
       have hmem:dC rl i∈rl:=by rw[eJ rl i hir];exact abl _
       have x1:wr.cell? ⟨T,i*2,none⟩=some (dC rl i).val.1/\wr.cell? ⟨T,i*2+1,none⟩=some (dC rl i).val.2:=HRR.out.cell i hir;have bg:=HRR.out.lt;have hfn:=NS.out _ hmem;have Zg:Hid (rl.take (i+1)=rl.take i++[dC rl i]):=by show _=_;rw[aa7 hir,eJ rl i hir]
       generalize hX:dC rl i=X at *;obtain⟨xw,xa,xn,xc,xs⟩:=X;obtain⟨x10,gx⟩:=x1;simp only at x10 gx hfn;have SJ:Hid ((⟨xw,xa,xn,xc,xs⟩:Mb)∈rl):=hmem;have hxn:xn<=16384:=hfn.1;have Wv:Hid (xs.length=xn):=hfn.2;generalize Ww:(rl.take i).flatMap Mb.ns=M9 at *;have Wx:Hid ((rl.take (i+1)).flatMap Mb.ns=M9++xs):=by show _=_;rw[Zg.out,List.flatMap_append,Ww];simp
       clear hX hmem hfn Ww Zg;have kA:=ae wr (.cells #[.int .i64 xw,.slice xa xn xc] 227);have HA:Hid (_/\_/\_/\_):=⟨(kA.block _ (by omega)).trans HL.out,HRR.out.kept (kA.block _ bg),fun x hx=>(DG.out x hx).below kA,hb.trans (kA.mono (by omega))⟩
       clear kA HL HRR DG hb;go_wp2
       rename World=>wB
       go_loopw [57] (fun jv wz=>∃j:Nat,j<=xn/\jv=.int .i64 j/\Hid (aS wz w.heap.size (bu N (M9++xs.take j)))/\Hid (aZ wz T rl.length (fun k=>(dC rl k,k)))/\Hid (∀x∈rl,jL wz x)/\Below w.heap.size w wz/\w.heap.size+1<=wz.heap.size) (fun jv _=>xn-(intOf jv).toNat)
       case atStart=>exact⟨0,aao _,rfl,by rw[List.take_zero,abm];exact HA.out.1,HA.out.2.1,HA.out.2.2.1,HA.out.2.2.2,by simp;omega⟩
       case round =>
        clear HA x10 gx bg;obtain⟨j,hj,rfl,HL,HRR,DG,hb,hsz'⟩:=hrel;by_cases hjx:j<xn
        ·have hjl:j<xs.length:=by have:=Wv.out;omega
         have cH:=DG.out _ SJ.out;obtain⟨a0,c0,e0,h2,h3⟩:=cH.src.val;simp only[abU,ack]at e0;obtain⟨rfl,rfl⟩:=e0
         have hsome:∃ad,xa=some ad:=by
          cases xa with
          | none=>have:=(h2 rfl).1;simp only at this;omega
          | some ad=>exact⟨ad,rfl⟩
         obtain⟨ad,rfl⟩:=hsome;obtain⟨bn,rfl,hbn⟩:=HAV.out _ SJ.out ad rfl
         have hne:(xs.map Hj)≠[]:=by
          intro hh;have:=abY List.length hh;rw[abZ]at this;simp only[acm]at this;omega
         obtain⟨q1,q2⟩:=h3 _ rfl hne;have aa0:=q2 j (Hj xs[j]) (by rw[abQ,aaj hjl];rfl);rw[ey,aaR]at aa0;have Wq:=KO.out _ SJ.out xs[j] (abl hjl);have HTJ:Hid (M9++xs.take (j+1)=(M9++xs.take j)++[xs[j]]):=by show _=_;rw[aa7 hjl,aar]
         generalize xs[j]=q at *;have hlc:=HL.out.at_ q (by rw[cP];exact Wq);have S1:=HL.out.set q ((bu N (M9++xs.take j)).getD q 0+1);rw[<-A9,<-HTJ.out]at S1
         have hv0:0<=(bu N (M9++xs.take j)).getD q 0/\(bu N (M9++xs.take j)).getD q 0<=20000000:=by
          rw[iI N _ q Wq];have a:=List.count_le_length (a:=q) (l:=M9++xs.take j);rw[aae,aaX]at a;have b:=Ct.out;omega
         have K1:Kp (·=w.heap.size) wr (wr.setCell ⟨w.heap.size,q,none⟩ (.int .i64 ((bu N (M9++xs.take j)).getD q 0+1))):=(Kp.refl (·=w.heap.size) wr).setCell (p:=⟨w.heap.size,q,none⟩) (.inl rfl) _;have hfz:∀o,wr.frozen? ⟨w.heap.size,o,none⟩=false:=fun o=>aaM wr _ o _ _ HL.out;have HH:Hid (_/\_/\_/\_):=⟨S1,HRR.out.kept (K1.block _ HRR.out.lt (by omega)),fun x hx=>(DG.out x hx).apart K1 (HAV.out x hx),hb.trans (K1.below (by omega) (fun k _ hk=>by omega))⟩
         have hqI:(q:Int)<(N:Int):=by omega
         have hjI:(j:Int)<(xn:Int):=by omega
         generalize (bu N (M9++xs.take j)).getD q 0=vq at *;clear S1 K1 HL HRR DG hb h2 h3 q2 cH hne HTJ;go_wp2
         go_roundw
         case rel=>exact⟨j+1,by omega,by go_num,HH.out.1,HH.out.2.1,HH.out.2.2.1,HH.out.2.2.2,by simp;omega⟩
         case measure=>simp[intOf];omega
        ·have ej:j=xn:=by omega
         have HLF:Hid (aS wr w.heap.size (bu N ((rl.take (i+1)).flatMap Mb.ns))):=by
          rw[Wx.out];have:=HL.out;rw[aa5 (by have:=Wv.out;omega)]at this;exact this
         have Sg:Hid (((rl.take (i+1)).flatMap Mb.ns).length<=16384*(i+1)):=by
          rw[Wx.out,aae];have:=Ct.out;have:=Wv.out;show _<=_;omega
         clear HL Ct ej;go_wp2
         go_roundw
         case rel=>exact⟨i+1,by omega,by go_num,HLF,Sg,HRR,DG,hb,hsz'⟩
         case measure=>simp[intOf];omega
      ·have eic:i=c:=by omega
       subst eic;go_wp2
       go_ret
       exact⟨_,rfl,HL.out,pO.out,hb⟩
end Go.Proofs.YtmfijackgekioabGreatDoor
