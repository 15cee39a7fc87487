import Derived.Test.YtmfijackgekioabGreatDoorQ31
set_option maxHeartbeats 1000000
set_option maxRecDepth 100000
namespace Go.Proofs.YtmfijackgekioabGreatDoor
open Go.RowKit Go.Maps
def dr (f lead:Nat)(a r:Nat->Int)(n i:Nat):List Int:=(List.range n).map fun j=>if j<i then Pm.leftV f lead a r j else 0
theorem dq (f lead:Nat)(a r:Nat->Int)(n i:Nat):(dr f lead a r n i).length=n:=by simp[dr]
theorem DZ (f lead:Nat)(a r:Nat->Int)(n:Nat):dr f lead a r n 0=List.replicate n 0:=by
 refine aca (by simp[dr]) fun j h1 h2=>?_;simp[dr]
theorem kI (f lead:Nat)(a r:Nat->Int)(n i j:Nat)(hj:j<n):Pm.ai (dr f lead a r n i) j=if j<i then Pm.leftV f lead a r j else 0:=by
 unfold Pm.ai dr;rw[aab,abC,List.getElem?_range hj];rfl
theorem H9 (f lead:Nat)(a r:Nat->Int)(n i:Nat)(hi:i<n):(dr f lead a r n i).set i (Pm.leftV f lead a r i)=dr f lead a r n (i+1):=by
 refine pY (by rw[abd,dq,dq]) fun j hj=>?_;rw[abd,dq]at hj;rw[kr _ _ _ _ (by rw[dq];exact hi),kI _ _ _ _ _ _ _ hj,kI _ _ _ _ _ _ _ hj];by_cases h:j=i
 ·subst h;rw[aaj rfl,aaj (by omega)]
 ·rw[aai h];by_cases h2:j<i
  ·rw[aaj h2,aaj (by omega)]
  ·rw[aai h2,aai (by omega)]
theorem nH (f lead:Nat)(a r:Nat->Int)(n i j:Nat):0<=Pm.ai (dr f lead a r n i) j/\Pm.ai (dr f lead a r n i) j<256:=by
 by_cases hj:j<n
 ·rw[kI _ _ _ _ _ _ _ hj];split
  ·exact Pm.rH _ _ _ _ _
  ·omega
 ·unfold Pm.ai;rw[aab,aaC (by rw[dq];omega)];exact⟨abU _,by show (0:Int)<256;decide⟩
theorem xy (F f lead n R A:Nat)(a r:List Int)(w:World)(hf:oB F f)(hR:cH w R r)(hA:cH w A a)(hr:r.length=n)(ha:a.length=n)(ga:∀j,0<=Pm.ai a j/\Pm.ai a j<256)(gr:∀j,0<=Pm.ai r j/\Pm.ai r j<256)(hl:1<=lead/\lead<=8)(hn:n<=1000000): Calls Tryz.prog 124 #[.slice (some ⟨R,0,none⟩) n n,.slice (some ⟨A,0,none⟩) n n,.int .i64 (lead:Nat),.func (.func F) #[] #[]] w fun e w' =>
   ∃G,w.heap.size<=G/\e=.returned (.slice (some ⟨G,0,none⟩) n n)/\cH w' G (dr f lead (Pm.ai a) (Pm.ai r) n n)/\Below w.heap.size w w':=by
 have hcall:=hf.call;have HF:Hid (oB F f):=hf;obtain⟨Z,hZ⟩:∃Z:List Value,Z=List.replicate n (.int .u8 0):=⟨_,rfl⟩
 have hmk:=fun u=>yQ n (by omega) Z hZ u;have k0:=ae w (.cells Z.toArray 5);have q0:=ah w (.cells Z.toArray 5);have HZ:Z=cY (dr f lead (Pm.ai a) (Pm.ai r) n 0):=by rw[hZ,DZ];simp[cY]
 have b0:cH (w.alloc (.cells Z.toArray 5)) w.heap.size (dr f lead (Pm.ai a) (Pm.ai r) n 0):=by unfold cH;rw[<-HZ];exact q0
 have HH:Hid (_/\_/\_/\_):=⟨hR,hA,b0,k0⟩
 have lR:=aaa hR;have lA:=aaa hA;clear hf hA hR hZ q0 HZ k0 b0
 go_enter Tryz.func124,Tryz.ntmps124
 go_wp2
 go_loopw [16] (fun ix wr=>∃i:Nat,i<=n/\ix=.int .i64 i/\cH wr w.heap.size (dr f lead (Pm.ai a) (Pm.ai r) n i)/\Below w.heap.size w wr) (fun ix _=>n-(intOf ix).toNat)
 case atStart=>exact⟨0,aaq _,rfl,HH.out.2.2.1,HH.out.2.2.2⟩
 case round =>
  obtain⟨i,hi,rfl,hB,hk⟩:=hrel;by_cases hlt:i<n
  ·have hlt':(i:Int)<(n:Int):=by omega
   have hRr:cH wr R r:=(hk.block R lR).trans HH.out.1;have hAr:cH wr A a:=(hk.block A lA).trans HH.out.2.1;have c0:=hRr.cell i (by rw[hr];exact hlt);have Y9:=fun m=>Fp R A r a i lead n (wr.drew.drewN m) (show cH (wr.drew.drewN m) R _ from hRr) (show cH (wr.drew.drewN m) A a from hAr) hr ha hlt hn hl gr ga;have hu:Pm.leftV f lead (Pm.ai a) (Pm.ai r) i=(Pm.ai r i-Pm.gD f (Pm.cW (Pm.ai r) i lead) (Pm.ai a i) (Pm.cW (Pm.ai a) i lead))%256:=rfl;have p1:=Pm.lH gr i lead;have p2:=ga i;have p3:=Pm.lH ga i lead;have xi:=gr i;have htr:=Pm.rE f p1 p2 p3;have HD:=fun u=>HF.out.does _ _ _ u p1 p2 p3
   have SV:Hid (∀u:World,cH u w.heap.size (dr f lead (Pm.ai a) (Pm.ai r) n i)->cH (u.setCell ⟨w.heap.size,i,none⟩ (.int .u8 (Pm.leftV f lead (Pm.ai a) (Pm.ai r) i))) w.heap.size (dr f lead (Pm.ai a) (Pm.ai r) n (i+1))):=fun u h=>by
    rw[<-H9 f lead (Pm.ai a) (Pm.ai r) n i hlt];exact h.set i _
   generalize Pm.cW (Pm.ai r) i lead=P1 at *;generalize Pm.ai a i=P2 at *;generalize Pm.cW (Pm.ai a) i lead=P3 at *;generalize Pm.gD f P1 P2 P3=T at *;generalize Pm.leftV f lead (Pm.ai a) (Pm.ai r) i=V at *;generalize Pm.ai r i=X at *;have w1:IntKind.u8.wrap T=T:=by rw[ab2];omega
   have w2:IntKind.u8.wrap (X-T)=V:=by rw[ab2,hu]
   have fz:=fun j=>hB.frozen j;obtain⟨O,hO⟩:∃O,wr.cell? ⟨w.heap.size,i,none⟩=some (.int .u8 O):=⟨_,hB.cell i (by rw[dq];exact hlt)⟩
   have lb:=aaa hB;have UA:Hid (_):=hB;have HK:Hid (_):=hk;clear hB hk hAr hRr ga gr hu;go_wp2;have hS:wr.drew.cell? ⟨R,i,none⟩=some (.int .u8 X):=c0;refine ax (fun w'=>w'.cell? ⟨R,i,none⟩=some (.int .u8 X)) 19 ?_;refine ap [0,1,2,3,4,5,6,7,8,9,10] ?_
   iterate 11 refine aT hS ?_
   refine aj ?_;refine ag 11 fun K hK=>?_;go_simp;refine (Y9 0).mono ?_;rintro e v1 ⟨rfl,m,hv1⟩;have hS2:v1.cell? ⟨R,i,none⟩=some (.int .u8 X):=by rw[hv1];exact c0
   have HQ:Hid (_/\_):=⟨SV.out v1 (by rw[hv1];exact UA.out),(show Below w.heap.size w v1 by rw[hv1];exact aaD (aaD HK.out.drew 0) m).setCell (p:=⟨w.heap.size,i,none⟩) (aah _) (.int .u8 V)⟩
   have fz2:v1.frozen? ⟨w.heap.size,i,none⟩=false:=by rw[hv1];exact fz i
   have hO2:v1.cell? ⟨w.heap.size,i,none⟩=some (.int .u8 O):=by rw[hv1];exact hO
   clear hv1;refine hK _ _ (fun _=>hS2) ?_;clear hK K;refine ap [12,13,14] ?_
   iterate 3 refine aT hS2 ?_
   refine aj ?_;refine ag 15 fun K hK=>?_;go_simp;refine (HD _).mono ?_;rintro e w' ⟨rfl,rfl⟩;refine hK _ _ (fun _=>hS2) ?_;clear hK K;refine ap [16,17,18] ?_
   iterate 3 refine aT hS2 ?_
   refine aj ?_;refine ag 19 fun K hK=>?_;go_simp;refine hK _ _ (fun h=>absurd rfl h) ?_;clear hK K;refine am ?_;go_wp2
   go_roundw
   case rel=>exact⟨i+1,by omega,by go_num,HQ.out.1,HQ.out.2⟩
   case measure=>simp[intOf];omega
  ·have hie:i=n:=by omega
   subst hie;go_wp2
   go_ret
   exact⟨_,aah _,rfl,hB,hk⟩
def Qu (x:Int):Int:=Pm.dY (IntKind.i8.wrap x) 0
def vL:List Int->Int
 | []=>0
 | x::r=>Qu x+vL r
theorem Bq (x:Int)(h:0<=x/\x<256):-128<=IntKind.i8.wrap x/\IntKind.i8.wrap x<=127:=by
 have:∀y:Fin 256,-128<=IntKind.i8.wrap (y.val:Int)/\IntKind.i8.wrap (y.val:Int)<=127:=by decide +kernel
 have h2:=this ⟨x.toNat,by omega⟩;have e:((x.toNat:Nat):Int)=x:=by omega
 simp only[e]at h2;exact h2
theorem Ia (x:Int)(h:0<=x/\x<256):0<=Qu x/\Qu x<=128:=by
 have:=Bq x h;unfold Qu Pm.dY;omega
theorem Ib (l:List Int)(x:Int):vL (l++[x])=vL l+Qu x:=by
 induction l with
 | nil=>simp[vL]
 | cons y r ih=>simp only[abG,vL,ih];omega
theorem Fw (n G:Nat)(l:List Int)(w:World)(hG:cH w G l)(hn:l.length=n)(hb:n<=1000000)(gl:∀j,0<=Pm.ai l j/\Pm.ai l j<256): Calls Tryz.prog 152 #[.slice (some ⟨G,0,none⟩) n n] w fun e w'=>e=.returned (.int .i64 (vL l))/\w'=w:=by
 have HG:Hid (cH w G l):=hG;clear hG
 go_enter Tryz.func152,Tryz.ntmps152
 go_wp2
 go_loopw [3,8] (fun sv ix wr=>∃k:Nat,k<=n/\ix=.int .i64 k/\(∃s:Int,sv=.int .i64 s/\0<=s/\s<=128*(k:Int)/\Hid (s=vL (l.take k)))/\wr=w) (fun _ ix _=>n-(intOf ix).toNat)
 case atStart=>exact⟨0,aaq _,rfl,⟨0,rfl,abU _,by omega,rfl⟩,rfl⟩
 case round =>
  obtain⟨k,hk,rfl,⟨s,rfl,h0,h1,HS⟩,rfl⟩:=hrel;by_cases hlt:k<n
  ·have hlt':(k:Int)<(n:Int):=by omega
   have c0:=HG.out.cell k (by rw[hn];exact hlt);have g0:=gl k;have z0:=Ia _ g0;have i0:=Bq _ g0;have hd:=fun u=>Fo (IntKind.i8.wrap (Pm.ai l k)) 0 u (by omega) (by omega)
   have mo:Hid (s+Qu (Pm.ai l k)=vL (l.take (k+1))):=by
    show _=_
    have e:l[k]'(by omega)=Pm.ai l k:=by
     unfold Pm.ai;rw[aab,aan (by omega)];rfl
    rw[aaT (by omega),Ib,HS.out,e]
   have hz:Qu (Pm.ai l k)=Pm.dY (IntKind.i8.wrap (Pm.ai l k)) 0:=rfl;rw[<-hz]at hd;generalize Qu (Pm.ai l k)=D at *;generalize Pm.ai l k=X at *;have w1:IntKind.i64.wrap (IntKind.i8.wrap X)=IntKind.i8.wrap X:=aao _ (by omega);obtain⟨Y,hY⟩:∃Y,IntKind.i8.wrap X=Y:=⟨_,rfl⟩
   rw[hY]at w1 hd i0;have w2:IntKind.i64.wrap (s+D)=s+D:=aao _ (by omega);clear hz HS gl;go_wp2_with fail;refine (hd _).mono ?_;rintro e w' ⟨rfl,rfl⟩;go_wp2
   go_roundw
   case rel=>exact⟨k+1,by omega,by go_num,⟨s+D,rfl,by omega,by omega,mo⟩,trivial⟩
   case measure=>simp[intOf];omega
  ·have hke:k=n:=by omega
   subst hke;go_wp2
   go_ret
   exact⟨aI (by rw[HS.out,<-hn,List.take_length]),rfl⟩
structure uY (w:World) (lead n:Nat) (a r:List Int) (f G:Nat):Prop where
 few:f<=4
 Fx:cH w G (dr f lead (Pm.ai a) (Pm.ai r) n n)
theorem Xg (lead n:Nat)(a r:List Int)(hr:r.length=n)(gr:∀j,0<=Pm.ai r j/\Pm.ai r j<256):dr 0 lead (Pm.ai a) (Pm.ai r) n n=r:=by
 refine pY (by rw[dq,hr]) fun j hj=>?_;rw[dq]at hj;rw[kI _ _ _ _ _ _ _ hj,aaj hj];have:=gr j;show (Pm.ai r j-0)%256=_;omega
theorem Tl (lead n R A:Nat)(a r:List Int)(w:World)(hR:cH w R r)(hA:cH w A a)(hr:r.length=n)(ha:a.length=n)(ga:∀j,0<=Pm.ai a j/\Pm.ai a j<256)(gr:∀j,0<=Pm.ai r j/\Pm.ai r j<256)(hl:1<=lead/\lead<=8)(hn:n<=1000000): Calls Tryz.prog 122 #[.slice (some ⟨R,0,none⟩) n n,.slice (some ⟨A,0,none⟩) n n,.int .i64 (lead:Nat)] w fun e w' =>
   ∃f G,(G=R\/w.heap.size<=G)/\e=.returned (.tuple #[.int .u8 (f:Nat),.slice (some ⟨G,0,none⟩) n n])/\uY w' lead n a r f G/\Below w.heap.size w w':=by
 have HH:Hid (_/\_):=⟨hR,hA⟩
 have lR:=aaa hR;have lA:=aaa hA;have HG:Hid (_/\_):=⟨ga,gr⟩
 clear hR hA ga gr
 go_enter Tryz.func122,Tryz.ntmps122
 go_wp2
 go_loopw [8,9,10] (fun bv lv fv wr=>∃(f G k:Nat),bv=.int .u8 (f:Nat)/\lv=.slice (some ⟨G,0,none⟩) n n/\fv=.int .u8 (k:Nat)/\1<=k/\k<=5/\(G=R\/w.heap.size<=G)/\Hid (uY wr lead n a r f G)/\Below w.heap.size w wr) (fun _ _ fv _=>5-(intOf fv).toNat)
 case atStart=>exact⟨0,R,1,rfl,rfl,rfl,by omega,by omega,.inl rfl,⟨by omega,by rw[Xg lead n a r hr HG.out.2];exact HH.out.1⟩,aav _ _⟩
 case round =>
  obtain⟨f,G,k,rfl,rfl,rfl,hk1,hk5,hG,HL,hB⟩:=hrel;by_cases hlt:k<5
  ·have hlt':(k:Int)<5:=by omega
   have htk:=fun u=>uL k u;have hRr:cH wr R r:=(hB.block R lR).trans HH.out.1;have hAr:cH wr A a:=(hB.block A lA).trans HH.out.2;have hfl:=xy (gY k) k lead n R A a r wr (pg k (by omega)) hRr hAr hr ha HG.out.1 HG.out.2 hl hn;clear hRr hAr;go_wp2_with fail;refine (htk _).mono ?_;intro e w' he;cases he with
   | no h4=>omega
   | ok h4 =>
    go_wp2_with fail;refine hfl.mono ?_;rintro e w1 ⟨G1,hG1,rfl,hb1,k1⟩;have hs1:=fun u (h:cH u G1 _)=>Fw n G1 _ u h (dq _ _ _ _ _ _) hn (nH k lead (Pm.ai a) (Pm.ai r) n n);have hbG:cH w1 G (dr f lead (Pm.ai a) (Pm.ai r) n n):=(k1.block G (aaa HL.out.Fx)).trans HL.out.Fx;have hs2:=fun u (h:cH u G _)=>Fw n G _ u h (dq _ _ _ _ _ _) hn (nH f lead (Pm.ai a) (Pm.ai r) n n);have hs1:=hs1 _ hb1;have hs2:=hs2 _ hbG;have kz:=hB.size;have HX:Hid (_/\_/\_/\_):=⟨hb1,hbG,hB.trans (k1.mono hB.size),HL.out.few⟩
    generalize vL (dr k lead (Pm.ai a) (Pm.ai r) n n)=s1 at *;generalize vL (dr f lead (Pm.ai a) (Pm.ai r) n n)=s2 at *;clear hb1 hbG k1 hfl htk HL hB;have wk:IntKind.u8.wrap ((k:Int)+1)=((k+1:Nat):Int):=by rw[ab2];omega
    go_wp2_with fail;refine hs1.mono ?_;rintro e w' ⟨rfl,rfl⟩;go_wp2_with fail;refine hs2.mono ?_;rintro e w' ⟨rfl,rfl⟩;by_cases hc:s1<s2
    ·go_wp2
     go_roundw
     case rel=>exact⟨k,G1,k+1,rfl,rfl,rfl,by omega,by omega,.inr (by omega),⟨by omega,HX.out.1⟩,HX.out.2.2.1⟩
     case measure=>simp[intOf];omega
    ·go_wp2
     go_roundw
     case rel=>exact⟨f,G,k+1,rfl,rfl,rfl,by omega,by omega,hG,⟨HX.out.2.2.2,HX.out.2.1⟩,HX.out.2.2.1⟩
     case measure=>simp[intOf];omega
  ·have hke:k=5:=by omega
   subst hke;go_wp2;exact aaF (v:=.tuple #[.int .u8 (f:Nat),.slice (some ⟨G,0,none⟩) n n]) (by simp[results,Tryz.results122,go_sem]) rfl ⟨f,G,hG,rfl,HL.out,hB⟩
theorem Tryz.infoByte:(Tryz.prog.info? 5).map (fun i=>(i.zero,i.size,i.bytes))=some (some (.int .u8 0),1,1):=by kernel_rfl
structure gL (w:World) (B X:Nat) (l:List Int) (v:Value):Prop where
 box:bG w X v 36
 own:w.ownsRow B 5 1 v l.length (cY l)
 ne:v.ownBlock≠some X
theorem gL.lt {w:World}{B X:Nat}{l:List Int}{v:Value}(h:gL w B X l v)(g:Nat)(hg:v.ownBlock=some g):B<=g/\g<w.heap.size:=h.own.lt g hg
theorem gL.kept {w w':World}{B X:Nat}{l:List Int}{v:Value}(h:gL w B X l v)(k:∀j,j=X\/v.ownBlock=some j->w'.heap[j]?=w.heap[j]?):gL w' B X l v :=
 ⟨(k _ (.inl rfl)).trans h.box,aJ h.own (fun g hg=>k g (.inr hg)),h.ne⟩
theorem gL.below {w w':World}{B X:Nat}{l:List Int}{v:Value}(h:gL w B X l v)(k:Below w.heap.size w w'):gL w' B X l v :=
 h.kept (fun j hj=>k.block j (by rcases hj with rfl|hj;exact aaa h.box;exact (h.lt j hj).2))
abbrev Rw (X:Nat)(v:Value)(k:Nat):Prop:=k=X\/v.ownBlock=some k
theorem Ic (l m:List Int):cY (l++m)=cY l++cY m:=ab5
theorem Br {w:World}{B X:Nat}{l:List Int}{v:Value}(h:gL w B X l v)(hB:B<=w.heap.size)(g c:Nat)(m:List Int)(n:Nat)(hm:m.length=n)(hg:cH w g m)(hz:l.length+n<=100000000): ∃v' w',(Builtin.append_ #[36,36] 36 #[v,.slice (some ⟨g,0,none⟩) n c]).run Tryz.prog w=.ok v' w'/\gL (w'.setCell ⟨X,0,none⟩ v') B X (l++m) v'/\Kp (Rw X v) w (w'.setCell ⟨X,0,none⟩ v') /\ (v'.ownBlock=v.ownBlock\/v'.ownBlock=some w.heap.size)/\(∃ao cp,v'=.slice ao (l.length+n) cp)/\w'.cell? ⟨X,0,none⟩=some v/\w'.frozen? ⟨X,0,none⟩=false/\X<w'.heap.size:=by
 obtain⟨i0,hi,hz0,hz1,hz2⟩:=abu Tryz.infoByte;have lX:=aaa h.box;subst hm
 obtain⟨v',w',hr,ho',hg',_,hor⟩:=run_append_own_at (P:=Tryz.prog) w B 36 36 5 i0 _ 1 1 Tryz.underlying36 hi hz0 hz1 hz2 rfl (by decide) v l.length (cY l) h.own ⟨g,0,none⟩ m.length c (cY m) (by simp[cY]) (fun j u hj=>by
   rw[eJ,aaO];obtain⟨hj2,hju⟩:=List.getElem?_eq_some_iff.1 hj;rw[abO]at hj2;rw[hg.cell j hj2,<-hju];simp[cY,Pm.ai,hj2]) (fun u hu=>by
   obtain⟨x,_,rfl⟩:=ac3.1 hu
   rfl) (by unfold maxLen;omega) (by omega) hB
 have hvX:v'.ownBlock≠some X:=by
  rcases hor with e|e
  ·rw[e];exact h.ne
  ·rw[e];intro e2;have:=aaH e2;omega
 have hbx:w'.heap[X]?=some (.cells #[v] 36 (0,0)):=(hg'.block X lX (fun e=>h.ne e.symm)).trans h.box;obtain⟨x0,x1,x2⟩:=one_cell hbx
 have hs:∃ao cp,v'=.slice ao (l.length+m.length) cp:=by
  rcases ho'.2 with⟨rfl,h0⟩|⟨g',cap,cur,rfl,_⟩
  ·exact⟨none,0,by rw[h0]⟩
  ·exact⟨_,_,rfl⟩
 refine⟨v',w',hr,⟨one_set hbx v',aJ (by rw[aac,Ic];exact ho') (fun k hk=>aak _ ⟨X,0,none⟩ _ k (fun e=>hvX (by rw[hk];exact abV some e))),hvX⟩,?_,hor,hs,x0,x1,x2⟩;exact (Kp.grown (Kp.refl (S:=Rw X v) w) hg' (fun k hk=>.inl (.inr hk))).setCell (p:=⟨X,0,none⟩) (.inl (.inl rfl)) _
theorem Qv (B X g c:Nat)(f:Nat)(l m:List Int)(n:Nat)(v:Value)(w:World)(h:gL w B X l v)(hB:B<=w.heap.size)(hm:m.length=n)(hg:cH w g m)(hgv:v.ownBlock≠some g)(hgX:g≠X)(hz:l.length+n<=99999999): Calls Tryz.prog 83 #[.int .u8 (f:Nat),.slice (some ⟨g,0,none⟩) n c,.pointer (some ⟨X,0,none⟩)] w fun e w'=>e=.returned (.tuple #[])/\∃v',gL w' B X (l++(f:Int)::m) v'/\(v'.ownBlock=v.ownBlock\/∃b,v'.ownBlock=some b/\w.heap.size<=b)/\Kp (Rw X v) w w':=by
 have k0:=ae w (.cells #[.int .u8 (f:Nat)] 5);have q0:cH (w.alloc (.cells #[.int .u8 (f:Nat)] 5)) w.heap.size [(f:Int)]:=ah w _;have h0:=h.below k0;have z0:(w.alloc (.cells #[.int .u8 (f:Nat)] 5)).heap.size=w.heap.size+1:=by simp
 have lg:=aaa hg;have lX:=aaa h.box;obtain⟨v1,w1,r1,H1,kQ,or1,⟨ao1,cp1,hv1⟩,c1,f1,l1⟩:=Br h0 (by omega) w.heap.size 1 [(f:Int)] 1 rfl q0 (by omega);have s1:=kQ.size;have kg:cH (w1.setCell ⟨X,0,none⟩ v1) g m:=(kQ.block g (by omega) (fun e=>by rcases e with e|e;exact hgX e;exact hgv e)).trans ((k0.block g lg).trans hg);obtain⟨v2,w2,r2,H2,uZ,or2,⟨ao2,cp2,hv2⟩,c2,f2,l2⟩:=Br H1 (by omega) g c m n hm kg (by rw[aac];show _+1+_<=_;omega)
 have HK:Hid (Kp (Rw X v) w (w2.setCell ⟨X,0,none⟩ v2)):=by
  have kA:Kp (Rw X v) w (w1.setCell ⟨X,0,none⟩ v1):=(Kp.aF (S:=Rw X v) k0).trans kQ;refine kA.then uZ (fun i hi e=>?_)
  rcases e with e|e
  ·exact .inl e
  ·rcases or1 with e1|e1
   ·exact .inr (by rw[<-e1];exact e)
   ·rw[e1]at e;have:=aaH e;omega
 have HO:Hid (v2.ownBlock=v.ownBlock\/∃b,v2.ownBlock=some b/\w.heap.size<=b):=by
  rcases or2 with e|e
  ·rcases or1 with e1|e1
   ·exact .inl (e.trans e1)
   ·exact .inr ⟨_,e.trans e1,by omega⟩
  ·exact .inr ⟨_,e,by omega⟩
 have HR:Hid (gL (w2.setCell ⟨X,0,none⟩ v2) B X (l++(f:Int)::m) v2):=by
  have e:l++(f:Int)::m=(l++[(f:Int)])++m:=by rw[aaw];rfl
  show gL _ _ _ _ _;rw[e];exact H2
 obtain⟨y0,y1,y2⟩:=one_cell H1.box;have b0:=h.box.cell;have z1:(w1.setCell ⟨X,0,none⟩ v1).heap.size=w1.heap.size:=by simp
 obtain⟨m1,hm1⟩:∃m1,m1=l.length+1:=⟨_,rfl⟩
 obtain⟨m2,hm2⟩:∃m2,m2=(l++[(f:Int)]).length+n:=⟨_,rfl⟩
 rw[<-hm1]at hv1;rw[<-hm2]at hv2;subst hv1 hv2
 obtain⟨ao,cp,hv⟩:∃ao cp,v=.slice ao l.length cp:=by
  rcases h.own.2 with⟨rfl,h00⟩|⟨g',cap,cur,rfl,_⟩
  ·exact⟨none,0,by rw[h00]⟩
  ·exact⟨_,_,rfl⟩
 obtain⟨m0,hm0⟩:∃m0,m0=l.length:=⟨_,rfl⟩
 rw[<-hm0]at hv;subst hv;clear hm0 hm1 hm2 z1 y2 h0 H1 kQ or1 kg H2 uZ or2 k0 q0 h hg hgv hm s1
 go_enter Tryz.func83,Tryz.ntmps83
 go_wp2_with (at_builtin;first|refine aaX _ rfl (.tmp 5) (.tmp 7) _ _ rfl _ _ rfl rfl _ _ r1 ?_|refine aaX _ rfl (.tmp 9) (.tmp 10) _ _ rfl _ _ rfl rfl _ _ r2 ?_)
 go_end0
 exact⟨rfl,_,HR.out,HO.out,HK.out⟩
def Wrote (fl lead n:Nat)(a r l l':List Int):Prop:=∃f:Nat,f<=4/\(fl≠5->f=fl)/\l'=l++(f:Int)::dr f lead (Pm.ai a) (Pm.ai r) n n
theorem Wrote.len {fl lead n:Nat}{a r l l':List Int}(h:Wrote fl lead n a r l l'):l'.length=l.length+(1+n):=by
 obtain⟨f,_,_,rfl⟩:=h;rw[aac,aaA,dq];omega
abbrev iE (X:Nat):Value:=.func (.func 83) #[] #[.pointer (some ⟨X,0,none⟩)]
theorem xA (args:Array Value)(w:World):(callFunc 83 args).run Tryz.prog w=.ok (.enter 83 args) w:=by kernel_rfl
structure Ze (u:World) (B X n:Nat) (R A:Nat) (r a l:List Int) (v:Value):Prop where
 raw:gL u B X l v
 low:B<=u.heap.size
 row:cH u R r
 YQ:cH u A a
 rl:r.length=n
 al:a.length=n
 gr:∀j,0<=Pm.ai r j/\Pm.ai r j<256
 ga:∀j,0<=Pm.ai a j/\Pm.ai a j<256
 nX:R≠X/\A≠X
 nV:v.ownBlock≠some R/\v.ownBlock≠some A
 few:l.length+n<=99999999
def D2 (fl lead n:Nat)(r a l:List Int)(B X:Nat)(v:Value)(u:World)(e:Ending)(u':World):Prop :=
 e=.returned (.tuple #[])/\∃v' l',Wrote fl lead n a r l l'/\gL u' B X l' v'/\(v'.ownBlock=v.ownBlock\/∃b,v'.ownBlock=some b/\u.heap.size<=b)/\Kp (Rw X v) u u'
theorem OI (fl lead n B X R A bP bF bL bT:Nat)(r a l:List Int)(v:Value)(u:World)(h:Ze u B X n R A r a l v)(hP:bG u bP (iE X) 128)(hF:bG u bF (.int .i64 (fl:Nat)) 3)(hL:bG u bL (.int .i64 (lead:Nat)) 3)(hT:bG u bT (.func (.func (gY fl)) #[] #[]) 144)(hX:bP≠X/\bF≠X/\bL≠X/\bT≠X)(hv:v.ownBlock≠some bP/\v.ownBlock≠some bF/\v.ownBlock≠some bL/\v.ownBlock≠some bT)(hfl:fl<=4)(hld:1<=lead/\lead<=8)(hn:n<=1000000): Calls Tryz.prog 123 #[.slice (some ⟨R,0,none⟩) n n,.slice (some ⟨A,0,none⟩) n n,.pointer (some ⟨bP,0,none⟩),.pointer (some ⟨bF,0,none⟩),.pointer (some ⟨bL,0,none⟩),.pointer (some ⟨bT,0,none⟩)] u fun e u'=>D2 fl lead n r a l B X v u e u':=by
 have hcall:=xA;have hfi:=fun m=>xy (gY fl) fl lead n R A a r (u.drewN m) (pg fl hfl) (show cH (u.drewN m) R r from h.row) (show cH (u.drewN m) A a from h.YQ) h.rl h.al h.ga h.gr hld hn;have c1:=hP.cell;have c2:=hF.cell;have c3:=hL.cell;have c4:=hT.cell;have wF:IntKind.u8.wrap (fl:Int)=(fl:Int):=by rw[ab2];omega
 have HH:Hid (_/\_/\_/\_/\_):=⟨h,hP,hF,hL,hT⟩
 have HX:Hid (_/\_):=⟨hX,hv⟩
 clear h hP hF hL hT hX hv
 go_enter Tryz.func123,Tryz.ntmps123
 go_wp2;have hS:(u.drewN 1).cell? ⟨bP,0,none⟩=some (iE X)/\(u.drewN 1).cell? ⟨bF,0,none⟩=some (.int .i64 (fl:Nat))/\(u.drewN 1).cell? ⟨bL,0,none⟩=some (.int .i64 (lead:Nat))/\(u.drewN 1).cell? ⟨bT,0,none⟩=some (.func (.func (gY fl)) #[] #[]):=⟨c1,c2,c3,c4⟩
 refine ax (fun w'=>w'.cell? ⟨bP,0,none⟩=some (iE X)/\w'.cell? ⟨bF,0,none⟩=some (.int .i64 (fl:Nat))/\w'.cell? ⟨bL,0,none⟩=some (.int .i64 (lead:Nat))/\w'.cell? ⟨bT,0,none⟩=some (.func (.func (gY fl)) #[] #[])) 99 ?_;refine ap [0,1,2,3,4,5,6] ?_
 iterate 7 refine aT hS ?_
 refine aj ?_;refine ag 7 fun K hK=>?_;go_simp;refine (hfi 1).mono ?_;rintro e u1 ⟨G,hG,rfl,hb,kb⟩;obtain⟨h,hP,hF,hL,hT⟩:=HH.out;obtain⟨⟨x1,x2,x3,x4⟩,v1,v2,v3,v4⟩:=HX.out;have kb:Below u.heap.size u u1:=(aaD (aav _ u) 1).trans kb;have lP:=aaa hP;have lF:=aaa hF;have lL:=aaa hL;have lT:=aaa hT;have lX:=aaa h.raw.box;have hG:u.heap.size<=G:=hG;have hP1:bG u1 bP _ _:=(kb.block bP lP).trans hP;have hF1:bG u1 bF _ _:=(kb.block bF lF).trans hF;have hL1:bG u1 bL _ _:=(kb.block bL lL).trans hL;have hT1:bG u1 bT _ _:=(kb.block bT lT).trans hT;have hr1:=h.raw.below kb;have rL:=Qv B X G n fl l _ n v u1 hr1 (abe h.low kb.size) (dq fl lead (Pm.ai a) (Pm.ai r) n n) hb (fun e=>by have:=(h.raw.lt _ e).2;omega) (by omega) h.few
 have HW:Hid (∀u2 v',gL u2 B X (l++(fl:Int)::dr fl lead (Pm.ai a) (Pm.ai r) n n) v'->(v'.ownBlock=v.ownBlock\/∃b,v'.ownBlock=some b/\u1.heap.size<=b)->Kp (Rw X v) u1 u2->D2 fl lead n r a l B X v u (.returned (.tuple #[])) u2):=fun u2 v' g1 g2 g3=>⟨rfl,v',_,⟨fl,hfl,fun _=>rfl,rfl⟩,g1,by
   rcases g2 with g2|⟨b,g2,g4⟩
   ·exact .inl g2
   ·exact .inr ⟨b,g2,abe kb.size g4⟩,(Kp.aF (S:=Rw X v) kb).trans g3⟩
 have HB:Hid (_/\_/\_/\_):=⟨hP1,hF1,hL1,hT1⟩
 have hS1:u1.cell? ⟨bP,0,none⟩=some (iE X)/\u1.cell? ⟨bF,0,none⟩=some (.int .i64 (fl:Nat))/\u1.cell? ⟨bL,0,none⟩=some (.int .i64 (lead:Nat))/\u1.cell? ⟨bT,0,none⟩=some (.func (.func (gY fl)) #[] #[]):=⟨hP1.cell,hF1.cell,hL1.cell,hT1.cell⟩
 clear h hP hF hL hT lP lF lL lT lX hG hb kb hr1 hP1 hF1 hL1 hT1 HH;refine hK _ _ (fun _=>hS1) ?_;clear hK K;refine ag 8 fun K hK=>?_;go_simp;refine rL.mono ?_;rintro e u2 ⟨rfl,v',g1,g2,g3⟩
 have hS2:u2.cell? ⟨bP,0,none⟩=some (iE X)/\u2.cell? ⟨bF,0,none⟩=some (.int .i64 (fl:Nat))/\u2.cell? ⟨bL,0,none⟩=some (.int .i64 (lead:Nat))/\u2.cell? ⟨bT,0,none⟩=some (.func (.func (gY fl)) #[] #[]):=by
  obtain⟨hP1,hF1,hL1,hT1⟩:=HB.out;exact⟨(g3.cell (p:=⟨bP,0,none⟩) (aaa hP1) (fun e=>by rcases e with e|e;exact x1 e;exact v1 e)).trans hP1.cell,(g3.cell (p:=⟨bF,0,none⟩) (aaa hF1) (fun e=>by rcases e with e|e;exact x2 e;exact v2 e)).trans hF1.cell,(g3.cell (p:=⟨bL,0,none⟩) (aaa hL1) (fun e=>by rcases e with e|e;exact x3 e;exact v3 e)).trans hL1.cell,(g3.cell (p:=⟨bT,0,none⟩) (aaa hT1) (fun e=>by rcases e with e|e;exact x4 e;exact v4 e)).trans hT1.cell⟩
 have HQ:Hid (D2 fl lead n r a l B X v u (.returned (.tuple #[])) u2):=HW.out u2 v' g1 g2 g3;clear g1 g2 g3 HW HB rL;refine hK _ _ (fun _=>hS2) ?_;clear hK K hS2 hS1;refine am ?_;go_wp2
 go_end0
 exact HQ.out
theorem OJ (lead n B X R A bP bL:Nat)(r a l:List Int)(v:Value)(u:World)(h:Ze u B X n R A r a l v)(hP:bG u bP (iE X) 128)(hL:bG u bL (.int .i64 (lead:Nat)) 3)(hX:bP≠X/\bL≠X)(hv:v.ownBlock≠some bP/\v.ownBlock≠some bL)(hld:1<=lead/\lead<=8)(hn:n<=1000000): Calls Tryz.prog 121 #[.slice (some ⟨R,0,none⟩) n n,.slice (some ⟨A,0,none⟩) n n,.pointer (some ⟨bP,0,none⟩),.pointer (some ⟨bL,0,none⟩)] u fun e u'=>D2 5 lead n r a l B X v u e u':=by
 have hcall:=xA;have hfi:=fun m=>Tl lead n R A a r (u.drewN m) (show cH (u.drewN m) R r from h.row) (show cH (u.drewN m) A a from h.YQ) h.rl h.al h.ga h.gr hld hn;have c1:=hP.cell;have c3:=hL.cell;have HH:Hid (_/\_/\_):=⟨h,hP,hL⟩
 have HX:Hid (_/\_):=⟨hX,hv⟩
 clear h hP hL hX hv
 go_enter Tryz.func121,Tryz.ntmps121
 go_wp2;have hS:(u.drewN 1).cell? ⟨bP,0,none⟩=some (iE X)/\(u.drewN 1).cell? ⟨bL,0,none⟩=some (.int .i64 (lead:Nat)):=⟨c1,c3⟩
 refine ax (fun w'=>w'.cell? ⟨bP,0,none⟩=some (iE X)/\w'.cell? ⟨bL,0,none⟩=some (.int .i64 (lead:Nat))) 99 ?_;refine ap [0,1,2,3] ?_
 iterate 4 refine aT hS ?_
 refine aj ?_;refine ag 4 fun K hK=>?_;go_simp;refine (hfi 1).mono ?_;rintro e u1 ⟨f,G,hG,rfl,hle,kb⟩;obtain⟨h,hP,hL⟩:=HH.out;obtain⟨⟨x1,x3⟩,v1,v3⟩:=HX.out;have kb:Below u.heap.size u u1:=(aaD (aav _ u) 1).trans kb;have lP:=aaa hP;have lL:=aaa hL;have lX:=aaa h.raw.box;have hG:G=R\/u.heap.size<=G:=hG;have hP1:bG u1 bP _ _:=(kb.block bP lP).trans hP;have hL1:bG u1 bL _ _:=(kb.block bL lL).trans hL;have hr1:=h.raw.below kb;have nR:=h.nX.1;have nVR:=h.nV.1
 have rL:=Qv B X G n f l _ n v u1 hr1 (abe h.low kb.size) (dq f lead (Pm.ai a) (Pm.ai r) n n) hle.Fx (fun e=>by
   rcases hG with rfl|hG
   ·exact nVR e
   ·have:=(h.raw.lt _ e).2;omega) (by
   rcases hG with rfl|hG
   ·exact nR
   ·omega) h.few
 have abB:=hle.few
 have HW:Hid (∀u2 v',gL u2 B X (l++(f:Int)::dr f lead (Pm.ai a) (Pm.ai r) n n) v'->(v'.ownBlock=v.ownBlock\/∃b,v'.ownBlock=some b/\u1.heap.size<=b)->Kp (Rw X v) u1 u2->D2 5 lead n r a l B X v u (.returned (.tuple #[])) u2):=fun u2 v' g1 g2 g3=>⟨rfl,v',_,⟨f,abB,fun e=>absurd rfl e,rfl⟩,g1,by
   rcases g2 with g2|⟨b,g2,g4⟩
   ·exact .inl g2
   ·exact .inr ⟨b,g2,abe kb.size g4⟩,(Kp.aF (S:=Rw X v) kb).trans g3⟩
 have HB:Hid (_/\_):=⟨hP1,hL1⟩
 have hS1:u1.cell? ⟨bP,0,none⟩=some (iE X)/\u1.cell? ⟨bL,0,none⟩=some (.int .i64 (lead:Nat)):=⟨hP1.cell,hL1.cell⟩
 clear h hP hL lP lL lX hG kb hr1 hP1 hL1 HH hle nR nVR;refine hK _ _ (fun _=>hS1) ?_;clear hK K;refine ap [5,6] ?_
 iterate 2 refine aT hS1 ?_
 refine aj ?_;refine ag 7 fun K hK=>?_;go_simp;refine rL.mono ?_;rintro e u2 ⟨rfl,v',g1,g2,g3⟩
 have hS2:u2.cell? ⟨bP,0,none⟩=some (iE X)/\u2.cell? ⟨bL,0,none⟩=some (.int .i64 (lead:Nat)):=by
  obtain⟨hP1,hL1⟩:=HB.out;exact⟨(g3.cell (p:=⟨bP,0,none⟩) (aaa hP1) (fun e=>by rcases e with e|e;exact x1 e;exact v1 e)).trans hP1.cell,(g3.cell (p:=⟨bL,0,none⟩) (aaa hL1) (fun e=>by rcases e with e|e;exact x3 e;exact v3 e)).trans hL1.cell⟩
 have HQ:Hid (D2 5 lead n r a l B X v u (.returned (.tuple #[])) u2):=HW.out u2 v' g1 g2 g3;clear g1 g2 g3 HW HB rL;refine hK _ _ (fun _=>hS2) ?_;clear hK K hS2 hS1;refine am ?_;go_wp2
 go_end0
 exact HQ.out
end Go.Proofs.YtmfijackgekioabGreatDoor
