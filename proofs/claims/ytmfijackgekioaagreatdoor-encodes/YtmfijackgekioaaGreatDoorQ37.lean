import Derived.Test.YtmfijackgekioaaGreatDoorQ29
import Derived.Test.YtmfijackgekioaaGreatDoorQ36
set_option maxHeartbeats 1000000
set_option maxRecDepth 100000
namespace Go.Proofs.YtmfijackgekioaaGreatDoor
open Go.RowKit Go.Maps
def cN (f lead:Nat)(a r:Nat->Int)(n i:Nat):List Int:=(List.range n).map fun j=>if j<i then Pm.leftV f lead a r j else 0
theorem cM (f lead:Nat)(a r:Nat->Int)(n i:Nat):(cN f lead a r n i).length=n:=by simp[cN]
theorem Cg (f lead:Nat)(a r:Nat->Int)(n:Nat):cN f lead a r n 0=List.replicate n 0:=by
 refine abt (by simp[cN]) fun j h1 h2=>?_;simp[cN]
theorem jQ (f lead:Nat)(a r:Nat->Int)(n i j:Nat)(hj:j<n):Pm.ap (cN f lead a r n i) j=if j<i then Pm.leftV f lead a r j else 0:=by
 unfold Pm.ap cN;rw[aaa,abk,List.getElem?_range hj];rfl
theorem FN (f lead:Nat)(a r:Nat->Int)(n i:Nat)(hi:i<n):(cN f lead a r n i).set i (Pm.leftV f lead a r i)=cN f lead a r n (i+1):=by
 refine Aa (by rw[aaZ,cM,cM]) fun j hj=>?_;rw[aaZ,cM]at hj;rw[mK _ _ _ _ (by rw[cM];exact hi),jQ _ _ _ _ _ _ _ hj,jQ _ _ _ _ _ _ _ hj];by_cases h:j=i
 ·subst h;rw[aaf rfl,aaf (by omega)]
 ·rw[aae h];by_cases h2:j<i
  ·rw[aaf h2,aaf (by omega)]
  ·rw[aae h2,aae (by omega)]
theorem mT (f lead:Nat)(a r:Nat->Int)(n i j:Nat):0<=Pm.ap (cN f lead a r n i) j/\Pm.ap (cN f lead a r n i) j<256:=by
 by_cases hj:j<n
 ·rw[jQ _ _ _ _ _ _ _ hj];split
  ·exact Pm.qV _ _ _ _ _
  ·omega
 ·unfold Pm.ap;rw[aaa,aas (by rw[cM];omega)];exact⟨abj _,by show (0:Int)<256;decide⟩
theorem wo (F f lead n R A:Nat)(a r:List Int)(w:World)(hf:qS F f)(hR:dA w R r)(hA:dA w A a)(hr:r.length=n)(ha:a.length=n)(ga:∀j,0<=Pm.ap a j/\Pm.ap a j<256)(gr:∀j,0<=Pm.ap r j/\Pm.ap r j<256)(hl:1<=lead/\lead<=8)(hn:n<=1000000): Calls Tryz.prog 146 #[.slice (some ⟨R,0,none⟩) n n,.slice (some ⟨A,0,none⟩) n n,.int .i64 (lead:Nat),.func (.func F) #[] #[]] w fun e w' =>
   ∃G,w.heap.size<=G/\e=.returned (.slice (some ⟨G,0,none⟩) n n)/\dA w' G (cN f lead (Pm.ap a) (Pm.ap r) n n)/\Below w.heap.size w w':=by
 have hcall:=hf.call;have HF:Hid (qS F f):=hf;obtain⟨Z,hZ⟩:∃Z:List Value,Z=List.replicate n (.int .u8 0):=⟨_,rfl⟩
 have hmk:=fun u=>BW n (by omega) Z hZ u;have k0:=ag w (.cells Z.toArray 5);have q0:=ak w (.cells Z.toArray 5);have HZ:Z=dC (cN f lead (Pm.ap a) (Pm.ap r) n 0):=by rw[hZ,Cg];simp[dC]
 have b0:dA (w.alloc (.cells Z.toArray 5)) w.heap.size (cN f lead (Pm.ap a) (Pm.ap r) n 0):=by unfold dA;rw[<-HZ];exact q0
 have HH:Hid (_/\_/\_/\_):=⟨hR,hA,b0,k0⟩
 have lR:=aab hR;have lA:=aab hA;clear hf hA hR hZ q0 HZ k0 b0
 go_enter Tryz.func146,Tryz.ntmps146
 go_wp2
 go_loopw [16] (fun ix wr=>∃i:Nat,i<=n/\ix=.int .i64 i/\dA wr w.heap.size (cN f lead (Pm.ap a) (Pm.ap r) n i)/\Below w.heap.size w wr) (fun ix _=>n-(intOf ix).toNat)
 case atStart=>exact⟨0,aaj _,rfl,HH.out.2.2.1,HH.out.2.2.2⟩
 case round =>
  obtain⟨i,hi,rfl,hB,hk⟩:=hrel;by_cases hlt:i<n
  ·have hlt':(i:Int)<(n:Int):=by omega
   have hRr:dA wr R r:=(hk.block R lR).trans HH.out.1;have hAr:dA wr A a:=(hk.block A lA).trans HH.out.2.1;have c0:=hRr.cell i (by rw[hr];exact hlt);have hAR:=fun m=>Mr R A r a i lead n (wr.drew.drewN m) (show dA (wr.drew.drewN m) R _ from hRr) (show dA (wr.drew.drewN m) A a from hAr) hr ha hlt hn hl gr ga;have hu:Pm.leftV f lead (Pm.ap a) (Pm.ap r) i=(Pm.ap r i-Pm.dG f (Pm.cS (Pm.ap r) i lead) (Pm.ap a i) (Pm.cS (Pm.ap a) i lead))%256:=rfl;have p1:=Pm.kF gr i lead;have p2:=ga i;have p3:=Pm.kF ga i lead;have xi:=gr i;have htr:=Pm.qO f p1 p2 p3;have HD:=fun u=>HF.out.does _ _ _ u p1 p2 p3
   have JC:Hid (∀u:World,dA u w.heap.size (cN f lead (Pm.ap a) (Pm.ap r) n i)->dA (u.setCell ⟨w.heap.size,i,none⟩ (.int .u8 (Pm.leftV f lead (Pm.ap a) (Pm.ap r) i))) w.heap.size (cN f lead (Pm.ap a) (Pm.ap r) n (i+1))):=fun u h=>by
    rw[<-FN f lead (Pm.ap a) (Pm.ap r) n i hlt];exact h.set i _
   generalize Pm.cS (Pm.ap r) i lead=P1 at *;generalize Pm.ap a i=P2 at *;generalize Pm.cS (Pm.ap a) i lead=P3 at *;generalize Pm.dG f P1 P2 P3=T at *;generalize Pm.leftV f lead (Pm.ap a) (Pm.ap r) i=V at *;generalize Pm.ap r i=X at *;have w1:IntKind.u8.wrap T=T:=by rw[abT];omega
   have w2:IntKind.u8.wrap (X-T)=V:=by rw[abT,hu]
   have fz:=fun j=>hB.frozen j;obtain⟨O,hO⟩:∃O,wr.cell? ⟨w.heap.size,i,none⟩=some (.int .u8 O):=⟨_,hB.cell i (by rw[cM];exact hlt)⟩
   have lb:=aab hB;have V4:Hid (_):=hB;have HK:Hid (_):=hk;clear hB hk hAr hRr ga gr hu;go_wp2;have hS:wr.drew.cell? ⟨R,i,none⟩=some (.int .u8 X):=c0;refine aE (fun w'=>w'.cell? ⟨R,i,none⟩=some (.int .u8 X)) 19 ?_;refine am [0,1,2,3,4,5,6,7,8,9,10] ?_
   iterate 11 refine au hS ?_
   refine aj ?_;refine ai 11 fun K hK=>?_;go_simp;refine (hAR 0).mono ?_;rintro e v1 ⟨rfl,m,hv1⟩;have hS2:v1.cell? ⟨R,i,none⟩=some (.int .u8 X):=by rw[hv1];exact c0
   have HQ:Hid (_/\_):=⟨JC.out v1 (by rw[hv1];exact V4.out),(show Below w.heap.size w v1 by rw[hv1];exact aap (aap HK.out.drew 0) m).setCell (p:=⟨w.heap.size,i,none⟩) (aad _) (.int .u8 V)⟩
   have fz2:v1.frozen? ⟨w.heap.size,i,none⟩=false:=by rw[hv1];exact fz i
   have hO2:v1.cell? ⟨w.heap.size,i,none⟩=some (.int .u8 O):=by rw[hv1];exact hO
   clear hv1;refine hK _ _ (fun _=>hS2) ?_;clear hK K;refine am [12,13,14] ?_
   iterate 3 refine au hS2 ?_
   refine aj ?_;refine ai 15 fun K hK=>?_;go_simp;refine (HD _).mono ?_;rintro e w' ⟨rfl,rfl⟩;refine hK _ _ (fun _=>hS2) ?_;clear hK K;refine am [16,17,18] ?_
   iterate 3 refine au hS2 ?_
   refine aj ?_;refine ai 19 fun K hK=>?_;go_simp;refine hK _ _ (fun h=>absurd rfl h) ?_;clear hK K;refine ar ?_;go_wp2
   go_roundw
   case rel=>exact⟨i+1,by omega,by go_num,HQ.out.1,HQ.out.2⟩
   case measure=>simp[intOf];omega
  ·have hie:i=n:=by omega
   subst hie;go_wp2
   go_ret
   exact⟨_,aad _,rfl,hB,hk⟩
def Od (x:Int):Int:=Pm.dB (IntKind.i8.wrap x) 0
def uQ:List Int->Int
 | []=>0
 | x::r=>Od x+uQ r
theorem Ai (x:Int)(h:0<=x/\x<256):-128<=IntKind.i8.wrap x/\IntKind.i8.wrap x<=127:=by
 have:∀y:Fin 256,-128<=IntKind.i8.wrap (y.val:Int)/\IntKind.i8.wrap (y.val:Int)<=127:=by decide +kernel
 have h2:=this ⟨x.toNat,by omega⟩;have e:((x.toNat:Nat):Int)=x:=by omega
 simp only[e]at h2;exact h2
theorem FO (x:Int)(h:0<=x/\x<256):0<=Od x/\Od x<=128:=by
 have:=Ai x h;unfold Od Pm.dB;omega
theorem FP (l:List Int)(x:Int):uQ (l++[x])=uQ l+Od x:=by
 induction l with
 | nil=>simp[uQ]
 | cons y r ih=>simp only[acn,uQ,ih];omega
theorem D9 (n G:Nat)(l:List Int)(w:World)(hG:dA w G l)(hn:l.length=n)(hb:n<=1000000)(gl:∀j,0<=Pm.ap l j/\Pm.ap l j<256): Calls Tryz.prog 187 #[.slice (some ⟨G,0,none⟩) n n] w fun e w'=>e=.returned (.int .i64 (uQ l))/\w'=w:=by
 have HG:Hid (dA w G l):=hG;clear hG
 go_enter Tryz.func187,Tryz.ntmps187
 go_wp2
 go_loopw [3,8] (fun sv ix wr=>∃k:Nat,k<=n/\ix=.int .i64 k/\(∃s:Int,sv=.int .i64 s/\0<=s/\s<=128*(k:Int)/\Hid (s=uQ (l.take k)))/\wr=w) (fun _ ix _=>n-(intOf ix).toNat)
 case atStart=>exact⟨0,aaj _,rfl,⟨0,rfl,abj _,by omega,rfl⟩,rfl⟩
 case round =>
  obtain⟨k,hk,rfl,⟨s,rfl,h0,h1,HS⟩,rfl⟩:=hrel;by_cases hlt:k<n
  ·have hlt':(k:Int)<(n:Int):=by omega
   have c0:=HG.out.cell k (by rw[hn];exact hlt);have g0:=gl k;have z0:=FO _ g0;have i0:=Ai _ g0;have hd:=fun u=>DP (IntKind.i8.wrap (Pm.ap l k)) 0 u (by omega) (by omega)
   have Iv:Hid (s+Od (Pm.ap l k)=uQ (l.take (k+1))):=by
    show _=_
    have e:l[k]'(by omega)=Pm.ap l k:=by
     unfold Pm.ap;rw[aaa,aai (by omega)];rfl
    rw[aaB (by omega),FP,HS.out,e]
   have hz:Od (Pm.ap l k)=Pm.dB (IntKind.i8.wrap (Pm.ap l k)) 0:=rfl;rw[<-hz]at hd;generalize Od (Pm.ap l k)=D at *;generalize Pm.ap l k=X at *;have w1:IntKind.i64.wrap (IntKind.i8.wrap X)=IntKind.i8.wrap X:=aah _ (by omega);obtain⟨Y,hY⟩:∃Y,IntKind.i8.wrap X=Y:=⟨_,rfl⟩
   rw[hY]at w1 hd i0;have w2:IntKind.i64.wrap (s+D)=s+D:=aah _ (by omega);clear hz HS gl;go_wp2_with fail;refine (hd _).mono ?_;rintro e w' ⟨rfl,rfl⟩;go_wp2
   go_roundw
   case rel=>exact⟨k+1,by omega,by go_num,⟨s+D,rfl,by omega,by omega,Iv⟩,trivial⟩
   case measure=>simp[intOf];omega
  ·have hke:k=n:=by omega
   subst hke;go_wp2
   go_ret
   exact⟨aC (by rw[HS.out,<-hn,List.take_length]),rfl⟩
structure ug (w:World) (lead n:Nat) (a r:List Int) (f G:Nat):Prop where
 few:f<=4
 Ea:dA w G (cN f lead (Pm.ap a) (Pm.ap r) n n)
theorem UA (lead n:Nat)(a r:List Int)(hr:r.length=n)(gr:∀j,0<=Pm.ap r j/\Pm.ap r j<256):cN 0 lead (Pm.ap a) (Pm.ap r) n n=r:=by
 refine Aa (by rw[cM,hr]) fun j hj=>?_;rw[cM]at hj;rw[jQ _ _ _ _ _ _ _ hj,aaf hj];have:=gr j;show (Pm.ap r j-0)%256=_;omega
theorem Qq (lead n R A:Nat)(a r:List Int)(w:World)(hR:dA w R r)(hA:dA w A a)(hr:r.length=n)(ha:a.length=n)(ga:∀j,0<=Pm.ap a j/\Pm.ap a j<256)(gr:∀j,0<=Pm.ap r j/\Pm.ap r j<256)(hl:1<=lead/\lead<=8)(hn:n<=1000000): Calls Tryz.prog 143 #[.slice (some ⟨R,0,none⟩) n n,.slice (some ⟨A,0,none⟩) n n,.int .i64 (lead:Nat)] w fun e w' =>
   ∃f G,(G=R\/w.heap.size<=G)/\e=.returned (.tuple #[.int .u8 (f:Nat),.slice (some ⟨G,0,none⟩) n n])/\ug w' lead n a r f G/\Below w.heap.size w w':=by
 have HH:Hid (_/\_):=⟨hR,hA⟩
 have lR:=aab hR;have lA:=aab hA;have HG:Hid (_/\_):=⟨ga,gr⟩
 clear hR hA ga gr
 go_enter Tryz.func143,Tryz.ntmps143
 go_wp2
 go_loopw [8,9,10] (fun bv lv fv wr=>∃(f G k:Nat),bv=.int .u8 (f:Nat)/\lv=.slice (some ⟨G,0,none⟩) n n/\fv=.int .u8 (k:Nat)/\1<=k/\k<=5/\(G=R\/w.heap.size<=G)/\Hid (ug wr lead n a r f G)/\Below w.heap.size w wr) (fun _ _ fv _=>5-(intOf fv).toNat)
 case atStart=>exact⟨0,R,1,rfl,rfl,rfl,by omega,by omega,.inl rfl,⟨by omega,by rw[UA lead n a r hr HG.out.2];exact HH.out.1⟩,aak _ _⟩
 case round =>
  obtain⟨f,G,k,rfl,rfl,rfl,hk1,hk5,hG,HL,hB⟩:=hrel;by_cases hlt:k<5
  ·have hlt':(k:Int)<5:=by omega
   have htk:=fun u=>zR k u;have hRr:dA wr R r:=(hB.block R lR).trans HH.out.1;have hAr:dA wr A a:=(hB.block A lA).trans HH.out.2;have hfl:=wo (gZ k) k lead n R A a r wr (tQ k (by omega)) hRr hAr hr ha HG.out.1 HG.out.2 hl hn;clear hRr hAr;go_wp2_with fail;refine (htk _).mono ?_;intro e w' he;cases he with
   | no h4=>omega
   | ok h4 =>
    go_wp2_with fail;refine hfl.mono ?_;rintro e w1 ⟨G1,hG1,rfl,hb1,k1⟩;have hs1:=fun u (h:dA u G1 _)=>D9 n G1 _ u h (cM _ _ _ _ _ _) hn (mT k lead (Pm.ap a) (Pm.ap r) n n);have YI:dA w1 G (cN f lead (Pm.ap a) (Pm.ap r) n n):=(k1.block G (aab HL.out.Ea)).trans HL.out.Ea;have hs2:=fun u (h:dA u G _)=>D9 n G _ u h (cM _ _ _ _ _ _) hn (mT f lead (Pm.ap a) (Pm.ap r) n n);have hs1:=hs1 _ hb1;have hs2:=hs2 _ YI;have kz:=hB.size;have HX:Hid (_/\_/\_/\_):=⟨hb1,YI,hB.trans (k1.mono hB.size),HL.out.few⟩
    generalize uQ (cN k lead (Pm.ap a) (Pm.ap r) n n)=s1 at *;generalize uQ (cN f lead (Pm.ap a) (Pm.ap r) n n)=s2 at *;clear hb1 YI k1 hfl htk HL hB;have wk:IntKind.u8.wrap ((k:Int)+1)=((k+1:Nat):Int):=by rw[abT];omega
    go_wp2_with fail;refine hs1.mono ?_;rintro e w' ⟨rfl,rfl⟩;go_wp2_with fail;refine hs2.mono ?_;rintro e w' ⟨rfl,rfl⟩;by_cases hc:s1<s2
    ·go_wp2
     go_roundw
     case rel=>exact⟨k,G1,k+1,rfl,rfl,rfl,by omega,by omega,.inr (by omega),⟨by omega,HX.out.1⟩,HX.out.2.2.1⟩
     case measure=>simp[intOf];omega
    ·go_wp2
     go_roundw
     case rel=>exact⟨f,G,k+1,rfl,rfl,rfl,by omega,by omega,hG,⟨HX.out.2.2.2,HX.out.2.1⟩,HX.out.2.2.1⟩
     case measure=>simp[intOf];omega
  ·have hke:k=5:=by omega
   subst hke;go_wp2;exact aal (v:=.tuple #[.int .u8 (f:Nat),.slice (some ⟨G,0,none⟩) n n]) (by simp[results,Tryz.results143,go_sem]) rfl ⟨f,G,hG,rfl,HL.out,hB⟩
theorem Tryz.infoByte:(Tryz.prog.info? 5).map (fun i=>(i.zero,i.size,i.bytes))=some (some (.int .u8 0),1,1):=by kernel_rfl
structure fO (w:World) (B X:Nat) (l:List Int) (v:Value):Prop where
 box:bM w X v 107
 own:w.ownsRow B 5 1 v l.length (dC l)
 ne:v.ownBlock≠some X
theorem fO.lt {w:World}{B X:Nat}{l:List Int}{v:Value}(h:fO w B X l v)(g:Nat)(hg:v.ownBlock=some g):B<=g/\g<w.heap.size:=h.own.lt g hg
theorem fO.kept {w w':World}{B X:Nat}{l:List Int}{v:Value}(h:fO w B X l v)(k:∀j,j=X\/v.ownBlock=some j->w'.heap[j]?=w.heap[j]?):fO w' B X l v :=
 ⟨(k _ (.inl rfl)).trans h.box,bK h.own (fun g hg=>k g (.inr hg)),h.ne⟩
theorem fO.below {w w':World}{B X:Nat}{l:List Int}{v:Value}(h:fO w B X l v)(k:Below w.heap.size w w'):fO w' B X l v :=
 h.kept (fun j hj=>k.block j (by rcases hj with rfl|hj;exact aab h.box;exact (h.lt j hj).2))
abbrev Rw (X:Nat)(v:Value)(k:Nat):Prop:=k=X\/v.ownBlock=some k
theorem FQ (l m:List Int):dC (l++m)=dC l++dC m:=abo
theorem Aj {w:World}{B X:Nat}{l:List Int}{v:Value}(h:fO w B X l v)(hB:B<=w.heap.size)(g c:Nat)(m:List Int)(n:Nat)(hm:m.length=n)(hg:dA w g m)(hz:l.length+n<=100000000): ∃v' w',(Builtin.append_ #[107,107] 107 #[v,.slice (some ⟨g,0,none⟩) n c]).run Tryz.prog w=.ok v' w'/\fO (w'.setCell ⟨X,0,none⟩ v') B X (l++m) v'/\Kp (Rw X v) w (w'.setCell ⟨X,0,none⟩ v') /\ (v'.ownBlock=v.ownBlock\/v'.ownBlock=some w.heap.size)/\(∃ao cp,v'=.slice ao (l.length+n) cp)/\w'.cell? ⟨X,0,none⟩=some v/\w'.frozen? ⟨X,0,none⟩=false/\X<w'.heap.size:=by
 obtain⟨i0,hi,hz0,hz1,hz2⟩:=aaX Tryz.infoByte;have lX:=aab h.box;subst hm
 obtain⟨v',w',hr,ho',hg',_,hor⟩:=run_append_own_at (P:=Tryz.prog) w B 107 107 5 i0 _ 1 1 Tryz.underlying107 hi hz0 hz1 hz2 rfl (by decide) v l.length (dC l) h.own ⟨g,0,none⟩ m.length c (dC m) (by simp[dC]) (fun j u hj=>by
   rw[fX,aaF];obtain⟨hj2,hju⟩:=List.getElem?_eq_some_iff.1 hj;rw[abE]at hj2;rw[hg.cell j hj2,<-hju];simp[dC,Pm.ap,hj2]) (fun u hu=>by
   obtain⟨x,_,rfl⟩:=List.mem_map.1 hu
   rfl) (by unfold maxLen;omega) (by omega) hB
 have hvX:v'.ownBlock≠some X:=by
  rcases hor with e|e
  ·rw[e];exact h.ne
  ·rw[e];intro e2;have:=aay e2;omega
 have hbx:w'.heap[X]?=some (.cells #[v] 107 (0,0)):=(hg'.block X lX (fun e=>h.ne e.symm)).trans h.box;obtain⟨x0,x1,x2⟩:=one_cell hbx
 have hs:∃ao cp,v'=.slice ao (l.length+m.length) cp:=by
  rcases ho'.2 with⟨rfl,h0⟩|⟨g',cap,cur,rfl,_⟩
  ·exact⟨none,0,by rw[h0]⟩
  ·exact⟨_,_,rfl⟩
 refine⟨v',w',hr,⟨one_set hbx v',bK (by rw[aac,FQ];exact ho') (fun k hk=>aag _ ⟨X,0,none⟩ _ k (fun e=>hvX (by rw[hk];exact abq some e))),hvX⟩,?_,hor,hs,x0,x1,x2⟩;exact (Kp.grown (Kp.refl (S:=Rw X v) w) hg' (fun k hk=>.inl (.inr hk))).setCell (p:=⟨X,0,none⟩) (.inl (.inl rfl)) _
theorem Oe (B X g c:Nat)(f:Nat)(l m:List Int)(n:Nat)(v:Value)(w:World)(h:fO w B X l v)(hB:B<=w.heap.size)(hm:m.length=n)(hg:dA w g m)(hgv:v.ownBlock≠some g)(hgX:g≠X)(hz:l.length+n<=99999999): Calls Tryz.prog 102 #[.int .u8 (f:Nat),.slice (some ⟨g,0,none⟩) n c,.pointer (some ⟨X,0,none⟩)] w fun e w'=>e=.returned (.tuple #[])/\∃v',fO w' B X (l++(f:Int)::m) v'/\(v'.ownBlock=v.ownBlock\/∃b,v'.ownBlock=some b/\w.heap.size<=b)/\Kp (Rw X v) w w':=by
 have k0:=ag w (.cells #[.int .u8 (f:Nat)] 5);have q0:dA (w.alloc (.cells #[.int .u8 (f:Nat)] 5)) w.heap.size [(f:Int)]:=ak w _;have h0:=h.below k0;have z0:(w.alloc (.cells #[.int .u8 (f:Nat)] 5)).heap.size=w.heap.size+1:=by simp
 have lg:=aab hg;have lX:=aab h.box;obtain⟨v1,w1,r1,H1,pD,YJ,⟨NZ,cp1,hv1⟩,c1,f1,l1⟩:=Aj h0 (by omega) w.heap.size 1 [(f:Int)] 1 rfl q0 (by omega);have s1:=pD.size;have kg:dA (w1.setCell ⟨X,0,none⟩ v1) g m:=(pD.block g (by omega) (fun e=>by rcases e with e|e;exact hgX e;exact hgv e)).trans ((k0.block g lg).trans hg);obtain⟨v2,w2,r2,H2,m9,or2,⟨KQ,cp2,hv2⟩,c2,f2,l2⟩:=Aj H1 (by omega) g c m n hm kg (by rw[aac];show _+1+_<=_;omega)
 have HK:Hid (Kp (Rw X v) w (w2.setCell ⟨X,0,none⟩ v2)):=by
  have kA:Kp (Rw X v) w (w1.setCell ⟨X,0,none⟩ v1):=(Kp.aJ (S:=Rw X v) k0).trans pD;refine kA.then m9 (fun i hi e=>?_)
  rcases e with e|e
  ·exact .inl e
  ·rcases YJ with e1|e1
   ·exact .inr (by rw[<-e1];exact e)
   ·rw[e1]at e;have:=aay e;omega
 have HO:Hid (v2.ownBlock=v.ownBlock\/∃b,v2.ownBlock=some b/\w.heap.size<=b):=by
  rcases or2 with e|e
  ·rcases YJ with e1|e1
   ·exact .inl (e.trans e1)
   ·exact .inr ⟨_,e.trans e1,by omega⟩
  ·exact .inr ⟨_,e,by omega⟩
 have HR:Hid (fO (w2.setCell ⟨X,0,none⟩ v2) B X (l++(f:Int)::m) v2):=by
  have e:l++(f:Int)::m=(l++[(f:Int)])++m:=by rw[aaq];rfl
  show fO _ _ _ _ _;rw[e];exact H2
 obtain⟨y0,y1,y2⟩:=one_cell H1.box;have b0:=h.box.cell;have z1:(w1.setCell ⟨X,0,none⟩ v1).heap.size=w1.heap.size:=by simp
 obtain⟨m1,hm1⟩:∃m1,m1=l.length+1:=⟨_,rfl⟩
 obtain⟨m2,hm2⟩:∃m2,m2=(l++[(f:Int)]).length+n:=⟨_,rfl⟩
 rw[<-hm1]at hv1;rw[<-hm2]at hv2;subst hv1 hv2
 obtain⟨ao,cp,hv⟩:∃ao cp,v=.slice ao l.length cp:=by
  rcases h.own.2 with⟨rfl,h00⟩|⟨g',cap,cur,rfl,_⟩
  ·exact⟨none,0,by rw[h00]⟩
  ·exact⟨_,_,rfl⟩
 obtain⟨m0,hm0⟩:∃m0,m0=l.length:=⟨_,rfl⟩
 rw[<-hm0]at hv;subst hv;clear hm0 hm1 hm2 z1 y2 h0 H1 pD YJ kg H2 m9 or2 k0 q0 h hg hgv hm s1
 go_enter Tryz.func102,Tryz.ntmps102
 go_wp2_with (at_builtin;first|refine aa6 _ rfl (.tmp 5) (.tmp 7) _ _ rfl _ _ rfl rfl _ _ r1 ?_|refine aa6 _ rfl (.tmp 9) (.tmp 10) _ _ rfl _ _ rfl rfl _ _ r2 ?_)
 go_end0
 exact⟨rfl,_,HR.out,HO.out,HK.out⟩
def Wrote (fl lead n:Nat)(a r l l':List Int):Prop:=∃f:Nat,f<=4/\(fl≠5->f=fl)/\l'=l++(f:Int)::cN f lead (Pm.ap a) (Pm.ap r) n n
theorem Wrote.len {fl lead n:Nat}{a r l l':List Int}(h:Wrote fl lead n a r l l'):l'.length=l.length+(1+n):=by
 obtain⟨f,_,_,rfl⟩:=h;rw[aac,aao,cM];omega
abbrev gU (X:Nat):Value:=.func (.func 102) #[] #[.pointer (some ⟨X,0,none⟩)]
theorem wu (args:Array Value)(w:World):(callFunc 102 args).run Tryz.prog w=.ok (.enter 102 args) w:=by kernel_rfl
structure V5 (u:World) (B X n:Nat) (R A:Nat) (r a l:List Int) (v:Value):Prop where
 raw:fO u B X l v
 low:B<=u.heap.size
 row:dA u R r
 VL:dA u A a
 rl:r.length=n
 al:a.length=n
 gr:∀j,0<=Pm.ap r j/\Pm.ap r j<256
 ga:∀j,0<=Pm.ap a j/\Pm.ap a j<256
 nX:R≠X/\A≠X
 nV:v.ownBlock≠some R/\v.ownBlock≠some A
 few:l.length+n<=99999999
def Ci (fl lead n:Nat)(r a l:List Int)(B X:Nat)(v:Value)(u:World)(e:Ending)(u':World):Prop :=
 e=.returned (.tuple #[])/\∃v' l',Wrote fl lead n a r l l'/\fO u' B X l' v'/\(v'.ownBlock=v.ownBlock\/∃b,v'.ownBlock=some b/\u.heap.size<=b)/\Kp (Rw X v) u u'
theorem ML (fl lead n B X R A bP bF bL bT:Nat)(r a l:List Int)(v:Value)(u:World)(h:V5 u B X n R A r a l v)(hP:bM u bP (gU X) 130)(hF:bM u bF (.int .i64 (fl:Nat)) 3)(hL:bM u bL (.int .i64 (lead:Nat)) 3)(hT:bM u bT (.func (.func (gZ fl)) #[] #[]) 193)(hX:bP≠X/\bF≠X/\bL≠X/\bT≠X)(hv:v.ownBlock≠some bP/\v.ownBlock≠some bF/\v.ownBlock≠some bL/\v.ownBlock≠some bT)(hfl:fl<=4)(hld:1<=lead/\lead<=8)(hn:n<=1000000): Calls Tryz.prog 145 #[.slice (some ⟨R,0,none⟩) n n,.slice (some ⟨A,0,none⟩) n n,.pointer (some ⟨bP,0,none⟩),.pointer (some ⟨bF,0,none⟩),.pointer (some ⟨bL,0,none⟩),.pointer (some ⟨bT,0,none⟩)] u fun e u'=>Ci fl lead n r a l B X v u e u':=by
 have hcall:=wu;have hfi:=fun m=>wo (gZ fl) fl lead n R A a r (u.drewN m) (tQ fl hfl) (show dA (u.drewN m) R r from h.row) (show dA (u.drewN m) A a from h.VL) h.rl h.al h.ga h.gr hld hn;have c1:=hP.cell;have c2:=hF.cell;have c3:=hL.cell;have c4:=hT.cell;have wF:IntKind.u8.wrap (fl:Int)=(fl:Int):=by rw[abT];omega
 have HH:Hid (_/\_/\_/\_/\_):=⟨h,hP,hF,hL,hT⟩
 have HX:Hid (_/\_):=⟨hX,hv⟩
 clear h hP hF hL hT hX hv
 go_enter Tryz.func145,Tryz.ntmps145
 go_wp2;have hS:(u.drewN 1).cell? ⟨bP,0,none⟩=some (gU X)/\(u.drewN 1).cell? ⟨bF,0,none⟩=some (.int .i64 (fl:Nat))/\(u.drewN 1).cell? ⟨bL,0,none⟩=some (.int .i64 (lead:Nat))/\(u.drewN 1).cell? ⟨bT,0,none⟩=some (.func (.func (gZ fl)) #[] #[]):=⟨c1,c2,c3,c4⟩
 refine aE (fun w'=>w'.cell? ⟨bP,0,none⟩=some (gU X)/\w'.cell? ⟨bF,0,none⟩=some (.int .i64 (fl:Nat))/\w'.cell? ⟨bL,0,none⟩=some (.int .i64 (lead:Nat))/\w'.cell? ⟨bT,0,none⟩=some (.func (.func (gZ fl)) #[] #[])) 99 ?_;refine am [0,1,2,3,4,5,6] ?_
 iterate 7 refine au hS ?_
 refine aj ?_;refine ai 7 fun K hK=>?_;go_simp;refine (hfi 1).mono ?_;rintro e u1 ⟨G,hG,rfl,hb,kb⟩;obtain⟨h,hP,hF,hL,hT⟩:=HH.out;obtain⟨⟨x1,x2,x3,x4⟩,v1,v2,v3,v4⟩:=HX.out;have kb:Below u.heap.size u u1:=(aap (aak _ u) 1).trans kb;have lP:=aab hP;have lF:=aab hF;have lL:=aab hL;have lT:=aab hT;have lX:=aab h.raw.box;have hG:u.heap.size<=G:=hG;have hP1:bM u1 bP _ _:=(kb.block bP lP).trans hP;have hF1:bM u1 bF _ _:=(kb.block bF lF).trans hF;have hL1:bM u1 bL _ _:=(kb.block bL lL).trans hL;have hT1:bM u1 bT _ _:=(kb.block bT lT).trans hT;have hr1:=h.raw.below kb;have Ak:=Oe B X G n fl l _ n v u1 hr1 (aaz h.low kb.size) (cM fl lead (Pm.ap a) (Pm.ap r) n n) hb (fun e=>by have:=(h.raw.lt _ e).2;omega) (by omega) h.few
 have HW:Hid (∀u2 v',fO u2 B X (l++(fl:Int)::cN fl lead (Pm.ap a) (Pm.ap r) n n) v'->(v'.ownBlock=v.ownBlock\/∃b,v'.ownBlock=some b/\u1.heap.size<=b)->Kp (Rw X v) u1 u2->Ci fl lead n r a l B X v u (.returned (.tuple #[])) u2):=fun u2 v' g1 g2 g3=>⟨rfl,v',_,⟨fl,hfl,fun _=>rfl,rfl⟩,g1,by
   rcases g2 with g2|⟨b,g2,g4⟩
   ·exact .inl g2
   ·exact .inr ⟨b,g2,aaz kb.size g4⟩,(Kp.aJ (S:=Rw X v) kb).trans g3⟩
 have HB:Hid (_/\_/\_/\_):=⟨hP1,hF1,hL1,hT1⟩
 have hS1:u1.cell? ⟨bP,0,none⟩=some (gU X)/\u1.cell? ⟨bF,0,none⟩=some (.int .i64 (fl:Nat))/\u1.cell? ⟨bL,0,none⟩=some (.int .i64 (lead:Nat))/\u1.cell? ⟨bT,0,none⟩=some (.func (.func (gZ fl)) #[] #[]):=⟨hP1.cell,hF1.cell,hL1.cell,hT1.cell⟩
 clear h hP hF hL hT lP lF lL lT lX hG hb kb hr1 hP1 hF1 hL1 hT1 HH;refine hK _ _ (fun _=>hS1) ?_;clear hK K;refine ai 8 fun K hK=>?_;go_simp;refine Ak.mono ?_;rintro e u2 ⟨rfl,v',g1,g2,g3⟩
 have hS2:u2.cell? ⟨bP,0,none⟩=some (gU X)/\u2.cell? ⟨bF,0,none⟩=some (.int .i64 (fl:Nat))/\u2.cell? ⟨bL,0,none⟩=some (.int .i64 (lead:Nat))/\u2.cell? ⟨bT,0,none⟩=some (.func (.func (gZ fl)) #[] #[]):=by
  obtain⟨hP1,hF1,hL1,hT1⟩:=HB.out;exact⟨(g3.cell (p:=⟨bP,0,none⟩) (aab hP1) (fun e=>by rcases e with e|e;exact x1 e;exact v1 e)).trans hP1.cell,(g3.cell (p:=⟨bF,0,none⟩) (aab hF1) (fun e=>by rcases e with e|e;exact x2 e;exact v2 e)).trans hF1.cell,(g3.cell (p:=⟨bL,0,none⟩) (aab hL1) (fun e=>by rcases e with e|e;exact x3 e;exact v3 e)).trans hL1.cell,(g3.cell (p:=⟨bT,0,none⟩) (aab hT1) (fun e=>by rcases e with e|e;exact x4 e;exact v4 e)).trans hT1.cell⟩
 have HQ:Hid (Ci fl lead n r a l B X v u (.returned (.tuple #[])) u2):=HW.out u2 v' g1 g2 g3;clear g1 g2 g3 HW HB Ak;refine hK _ _ (fun _=>hS2) ?_;clear hK K hS2 hS1;refine ar ?_;go_wp2
 go_end0
 exact HQ.out
theorem MN (lead n B X R A bP bL:Nat)(r a l:List Int)(v:Value)(u:World)(h:V5 u B X n R A r a l v)(hP:bM u bP (gU X) 130)(hL:bM u bL (.int .i64 (lead:Nat)) 3)(hX:bP≠X/\bL≠X)(hv:v.ownBlock≠some bP/\v.ownBlock≠some bL)(hld:1<=lead/\lead<=8)(hn:n<=1000000): Calls Tryz.prog 142 #[.slice (some ⟨R,0,none⟩) n n,.slice (some ⟨A,0,none⟩) n n,.pointer (some ⟨bP,0,none⟩),.pointer (some ⟨bL,0,none⟩)] u fun e u'=>Ci 5 lead n r a l B X v u e u':=by
 have hcall:=wu;have hfi:=fun m=>Qq lead n R A a r (u.drewN m) (show dA (u.drewN m) R r from h.row) (show dA (u.drewN m) A a from h.VL) h.rl h.al h.ga h.gr hld hn;have c1:=hP.cell;have c3:=hL.cell;have HH:Hid (_/\_/\_):=⟨h,hP,hL⟩
 have HX:Hid (_/\_):=⟨hX,hv⟩
 clear h hP hL hX hv
 go_enter Tryz.func142,Tryz.ntmps142
 go_wp2;have hS:(u.drewN 1).cell? ⟨bP,0,none⟩=some (gU X)/\(u.drewN 1).cell? ⟨bL,0,none⟩=some (.int .i64 (lead:Nat)):=⟨c1,c3⟩
 refine aE (fun w'=>w'.cell? ⟨bP,0,none⟩=some (gU X)/\w'.cell? ⟨bL,0,none⟩=some (.int .i64 (lead:Nat))) 99 ?_;refine am [0,1,2,3] ?_
 iterate 4 refine au hS ?_
 refine aj ?_;refine ai 4 fun K hK=>?_;go_simp;refine (hfi 1).mono ?_;rintro e u1 ⟨f,G,hG,rfl,hle,kb⟩;obtain⟨h,hP,hL⟩:=HH.out;obtain⟨⟨x1,x3⟩,v1,v3⟩:=HX.out;have kb:Below u.heap.size u u1:=(aap (aak _ u) 1).trans kb;have lP:=aab hP;have lL:=aab hL;have lX:=aab h.raw.box;have hG:G=R\/u.heap.size<=G:=hG;have hP1:bM u1 bP _ _:=(kb.block bP lP).trans hP;have hL1:bM u1 bL _ _:=(kb.block bL lL).trans hL;have hr1:=h.raw.below kb;have nR:=h.nX.1;have nVR:=h.nV.1
 have Ak:=Oe B X G n f l _ n v u1 hr1 (aaz h.low kb.size) (cM f lead (Pm.ap a) (Pm.ap r) n n) hle.Ea (fun e=>by
   rcases hG with rfl|hG
   ·exact nVR e
   ·have:=(h.raw.lt _ e).2;omega) (by
   rcases hG with rfl|hG
   ·exact nR
   ·omega) h.few
 have Ql:=hle.few
 have HW:Hid (∀u2 v',fO u2 B X (l++(f:Int)::cN f lead (Pm.ap a) (Pm.ap r) n n) v'->(v'.ownBlock=v.ownBlock\/∃b,v'.ownBlock=some b/\u1.heap.size<=b)->Kp (Rw X v) u1 u2->Ci 5 lead n r a l B X v u (.returned (.tuple #[])) u2):=fun u2 v' g1 g2 g3=>⟨rfl,v',_,⟨f,Ql,fun e=>absurd rfl e,rfl⟩,g1,by
   rcases g2 with g2|⟨b,g2,g4⟩
   ·exact .inl g2
   ·exact .inr ⟨b,g2,aaz kb.size g4⟩,(Kp.aJ (S:=Rw X v) kb).trans g3⟩
 have HB:Hid (_/\_):=⟨hP1,hL1⟩
 have hS1:u1.cell? ⟨bP,0,none⟩=some (gU X)/\u1.cell? ⟨bL,0,none⟩=some (.int .i64 (lead:Nat)):=⟨hP1.cell,hL1.cell⟩
 clear h hP hL lP lL lX hG kb hr1 hP1 hL1 HH hle nR nVR;refine hK _ _ (fun _=>hS1) ?_;clear hK K;refine am [5,6] ?_
 iterate 2 refine au hS1 ?_
 refine aj ?_;refine ai 7 fun K hK=>?_;go_simp;refine Ak.mono ?_;rintro e u2 ⟨rfl,v',g1,g2,g3⟩
 have hS2:u2.cell? ⟨bP,0,none⟩=some (gU X)/\u2.cell? ⟨bL,0,none⟩=some (.int .i64 (lead:Nat)):=by
  obtain⟨hP1,hL1⟩:=HB.out;exact⟨(g3.cell (p:=⟨bP,0,none⟩) (aab hP1) (fun e=>by rcases e with e|e;exact x1 e;exact v1 e)).trans hP1.cell,(g3.cell (p:=⟨bL,0,none⟩) (aab hL1) (fun e=>by rcases e with e|e;exact x3 e;exact v3 e)).trans hL1.cell⟩
 have HQ:Hid (Ci 5 lead n r a l B X v u (.returned (.tuple #[])) u2):=HW.out u2 v' g1 g2 g3;clear g1 g2 g3 HW HB Ak;refine hK _ _ (fun _=>hS2) ?_;clear hK K hS2 hS1;refine ar ?_;go_wp2
 go_end0
 exact HQ.out
end Go.Proofs.YtmfijackgekioaaGreatDoor
