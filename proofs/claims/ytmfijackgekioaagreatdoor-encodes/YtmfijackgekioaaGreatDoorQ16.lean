import Derived.Test.YtmfijackgekioaaGreatDoorQ08
import Derived.Test.YtmfijackgekioaaGreatDoorQ09
set_option maxHeartbeats 2000000
set_option maxRecDepth 100000
namespace Go.Proofs.YtmfijackgekioaaGreatDoor
open Go.RowKit
theorem p6 (v:Nat):∀(l:List Nat) (r:Nat),(∀t,t<r->l.getD t 0=v)->r<=l.length->(r=l.length\/l.getD r 0≠v)->Rf.bu v l=r
 | [],r,_,h2,_=>by simp at h2;subst h2;rfl
 | x::l,0,_,_,h3=>by
  rcases h3 with h|h
  ·simp at h
  ·rw[Rf.bu,aae (by simpa using h)]
 | x::l,r+1,h1,h2,h3=>by
  have hx:x=v:=by simpa using h1 0 (by omega)
  rw[Rf.bu,aaf hx,p6 v l r (fun t ht=>by simpa using h1 (t+1) (by omega)) (by simpa using h2) (by
   rcases h3 with h|h
   ·left;simpa using h
   ·right;simpa using h)]
abbrev mb (l:List Nat):List Int:=l.map (fun (x:Nat)=>(x:Int))
theorem mc {w:World}{ao:Option Addr}{l:List Nat}(h:Ints w ao (mb l))(j:Nat)(hj:j<l.length):∃b off,ao=some ⟨b,off,none⟩/\w.cell? ⟨b,off+j,none⟩=some (.int .i64 (l.getD j 0:Nat)):=by
 obtain⟨b,off,e,hc⟩:=h j (by simpa using hj);refine⟨b,off,e,?_⟩;rw[hc,abL,aaa,aai hj];rfl
theorem Ix (l:List Nat)(i N cap:Nat)(ao:Option Addr)(w:World)(hN:l.length=N)(LH:N<=700)(hi:i<N)(hint:Ints w ao (mb l)): Calls Tryz.prog 250 #[.slice ao N cap,.int .i64 i] w fun e w'=>e=.returned (.int .i64 (Rf.bu (l.getD i 0) (l.drop i):Nat))/\∃n,w'=w.drewN n:=by
 have hd:∀t,(l.drop i).getD t 0=l.getD (i+t) 0:=fun t=>by simp[List.getD_eq_getElem?_getD,List.getElem?_drop]
 obtain⟨b,off,rfl,hc0⟩:=mc hint i (by omega)
 go_enter Tryz.func250,Tryz.ntmps250
 go_wp2
 go_loopw [5] (fun rv wr=>∃(r n:Nat),1<=r/\i+r<=N/\rv=.int .i64 r/\Hid (∀t,t<r->l.getD (i+t) 0=l.getD i 0)/\wr=w.drewN n) (fun rv _=>N-(intOf rv).toNat)
 case atStart=>exact⟨1,0,aad _,by omega,rfl,fun t ht=>by rw[show t=0 by omega];rfl,rfl⟩
 case round =>
  obtain⟨r,n,hr1,hr2,rfl,HR,rfl⟩:=hrel;by_cases hlt:i+r<N
  ·obtain⟨b',off',e',hc1⟩:=mc hint (i+r) (by omega);cases e'
   have HX:Hid (l.getD (i+r) 0=l.getD i 0->∀t,t<r+1->l.getD (i+t) 0=l.getD i 0):=fun hh t ht=>by
    by_cases e:t=r
    ·rw[e];exact hh
    ·exact HR.out t (by omega)
   have HY:Hid (l.getD (i+r) 0≠l.getD i 0->Rf.bu (l.getD i 0) (l.drop i)=r):=fun hh=>p6 _ _ r (fun t ht=>by rw[hd];exact HR.out t ht) (by rw[abv];omega) (.inr (by rw[hd];exact hh));obtain⟨x,hx⟩:∃x:Nat,x=l.getD (i+r) 0:=⟨_,rfl⟩
   obtain⟨y,hy⟩:∃y:Nat,y=l.getD i 0:=⟨_,rfl⟩
   rw[<-hx]at hc1 HX HY;rw[<-hy]at hc0 HX HY ⊢;have eir:(i:Int)+(r:Int)=((i+r:Nat):Int)\/True:=.inr trivial;have hsum:((i:Int)+(r:Int)).toNat=i+r:=by omega
   have hir:(i:Int)+(r:Int)<(N:Int):=by omega
   have hdec:decide ((i:Int)+(r:Int)<(N:Int))=true:=by simp;omega
   have HYV:Hid (y=l.getD i 0):=hy;clear eir hx hy HR;by_cases hxy:x=y
   ·have hxe:((x:Int)==(y:Int))=true:=by simp[hxy]
    have hxd:((x:Int)=(y:Int)):=by omega
    go_wp2
    go_quiet (fail)
    go_wp2
    go_roundw
    case rel=>exact⟨r+1,n+nq,by omega,by omega,by go_num,HX.out hxy,rfl⟩
    case measure=>simp[intOf];omega
   ·have hxe:((x:Int)==(y:Int))=false:=by simp;omega
    have hxd:¬((x:Int)=(y:Int)):=by omega
    go_wp2
    go_quiet (fail)
    go_wp2
    go_ret
    exact⟨aC (by rw[<-HYV.out,HY.out hxy]),n+nq,by simp⟩
  ·have hdec:decide ((i:Int)+(r:Int)<(N:Int))=false:=by simp;omega
   have hir:¬(i:Int)+(r:Int)<(N:Int):=by omega
   have HY:Hid (Rf.bu (l.getD i 0) (l.drop i)=r):=p6 _ _ r (fun t ht=>by rw[hd];exact HR.out t ht) (by rw[abv];omega) (.inl (by rw[abv];omega));go_wp2
   go_quiet (fail)
   go_wp2
   go_ret
   exact⟨aC (by rw[HY.out]),n+nq,by simp⟩
def cH (v run:Nat):(Nat×Nat)×Nat :=
 if run<3 then ((v,0),1) else if 0<v then ((16,min run 6-3),min run 6) else if run<11 then ((17,run-3),run) else ((18,min run 138-11),min run 138)
theorem nj (v f run:Nat)(h:0<run):Rf.bJ v (f+1) run=(cH v run).1::Rf.bJ v f (run-(cH v run).2)/\1<=(cH v run).2/\(cH v run).2<=run:=by
 rw[Rf.bJ,aae (by omega)];unfold cH;by_cases h3:run<3
 ·rw[aaf h3,aaf h3];exact⟨rfl,aad _,h⟩
 ·rw[aae h3,aae h3];by_cases hv:0<v
  ·rw[aaf hv,aaf hv];exact⟨rfl,by show 1<=min run 6;omega,by show min run 6<=run;omega⟩
  ·rw[aae hv,aae hv];by_cases h11:run<11
   ·rw[aaf h11,aaf h11];refine⟨?_,h,aad _⟩;show _=(17,run-3)::Rf.bJ v f (run-run);rw[Nat.sub_self]
   ·rw[aae h11,aae h11];exact⟨rfl,by show 1<=min run 138;omega,by show min run 138<=run;omega⟩
theorem Iy (v run:Nat)(hv:v<=15):(cH v run).1.1<=18/\(cH v run).1.2<2^Rf.lp (cH v run).1:=by
 unfold cH;by_cases h3:run<3
 ·rw[aaf h3];exact⟨by show v<=18;omega,Nat.pow_pos (by omega)⟩
 ·rw[aae h3];by_cases h0:0<v
  ·rw[aaf h0];exact⟨by show 16<=18;omega,by show min run 6-3<2^2;omega⟩
  ·rw[aae h0];by_cases h11:run<11
   ·rw[aaf h11];exact⟨by show 17<=18;omega,by show run-3<2^3;omega⟩
   ·rw[aae h11];exact⟨by show 18<=18;omega,by show min run 138-11<2^7;omega⟩
theorem vJ (v x:Nat)(h:v<=15):Rf.lp (v,x)=0:=by
 unfold Rf.lp;rw[aae (by simp only;omega),aae (by simp only;omega),aae (by simp only;omega)]
theorem Bv (t:Nat×Nat):Rf.lp t<=7:=by
 unfold Rf.lp
 repeat' split
 all_goals omega
structure xm (kf:Nat) (aN:Array Value) (ao:Option Addr) (l:List Nat) (I:World->List (Nat×Nat)->Prop):Prop where
 num:∀w ts (t:Nat×Nat),I w ts->ts.length<700->t.1<=18->t.2<2^Rf.lp t->Calls Tryz.prog kf (#[.int .i64 t.1,.int .i64 t.2,.int .i64 (Rf.lp t)]++aN) w fun e w'=>e=.returned (.tuple #[])/\I w' (ts++[t])
 call:∀args w,(callFunc kf args).run Tryz.prog w=.ok (.enter kf args) w
 drew:∀w ts n,I w ts->I (w.drewN n) ts
 ints:∀w ts,I w ts->Ints w ao (mb l)
theorem sP (kf:Nat)(aN:Array Value)(ao:Option Addr)(l:List Nat)(I:World->List (Nat×Nat)->Prop)(hd:xm kf aN ao l I)(v run:Nat)(ts:List (Nat×Nat))(w:World)(hI:I w ts)(hts:ts.length<700)(hv:v<=15)(hr:0<run)(SP:run<=700): Calls Tryz.prog 251 #[.int .i64 v,.int .i64 run,.func (.func kf) #[] aN] w fun e w'=>e=.returned (.int .i64 ((cH v run).2:Nat))/\I w' (ts++[(cH v run).1]):=by
 have hcall:=hd.call;have hok:=Iy v run hv;have d9:=hd.num w ts (cH v run).1 hI hts hok.1 hok.2;by_cases h3:run<3
 ·have e:cH v run=((v,0),1):=by unfold cH;rw[aaf h3]
  rw[e]at d9 ⊢;simp only[vJ v 0 hv]at d9;have h3':(run:Int)<3:=by omega
  go_enter Tryz.func251,Tryz.ntmps251
  go_wp2_with fail;refine d9.mono ?_;rintro e w1 ⟨rfl,h1⟩;go_wp2
  go_ret
  exact⟨rfl,h1⟩
 ·have h3':¬(run:Int)<3:=by omega
  by_cases h0:0<v
  ·have h0':(v:Int)>0:=by omega
   by_cases h6:run<=6
   ·have e:cH v run=((16,(run-3)),run):=by
     unfold cH;rw[aae h3,aaf h0]
     congr 2<;>omega
    rw[e]at d9 ⊢;have ht:Rf.lp (16,(run-3))=2:=rfl;simp only[ht]at d9;have ZH:(run:Int)-3=((run-3:Nat):Int):=by omega
    have hb:(run:Int)<=6:=by omega
    have hb2:¬(6:Int)<(run:Int):=by omega
    clear e
    go_enter Tryz.func251,Tryz.ntmps251
    go_wp2_with fail;refine d9.mono ?_;rintro e w1 ⟨rfl,h1⟩;go_wp2
    go_ret
    exact⟨rfl,h1⟩
   ·have e:cH v run=((16,3),6):=by
     unfold cH;rw[aae h3,aaf h0]
     congr 2<;>omega
    rw[e]at d9 ⊢;have ht:Rf.lp (16,3)=2:=rfl;simp only[ht]at d9
    skip
    have hb:¬(run:Int)<=6:=by omega
    have hb2:(6:Int)<(run:Int):=by omega
    clear e
    go_enter Tryz.func251,Tryz.ntmps251
    go_wp2_with fail;refine d9.mono ?_;rintro e w1 ⟨rfl,h1⟩;go_wp2
    go_ret
    exact⟨rfl,h1⟩
  ·have h0':¬(v:Int)>0:=by omega
   by_cases h11:run<11
   ·have e:cH v run=((17,run-3),run):=by unfold cH;rw[aae h3,aae h0,aaf h11]
    rw[e]at d9 ⊢;have ht:Rf.lp (17,run-3)=3:=rfl;simp only[ht]at d9;have ZH:(run:Int)-3=((run-3:Nat):Int):=by omega
    have W4:(run:Int)<11:=by omega
    clear e
    go_enter Tryz.func251,Tryz.ntmps251
    go_wp2_with fail;refine d9.mono ?_;rintro e w1 ⟨rfl,h1⟩;go_wp2
    go_ret
    exact⟨rfl,h1⟩
   ·have W4:¬(run:Int)<11:=by omega
    by_cases h6:run<=138
    ·have e:cH v run=((18,(run-11)),run):=by
      unfold cH;rw[aae h3,aae h0,aae h11]
      congr 2<;>omega
     rw[e]at d9 ⊢;have ht:Rf.lp (18,(run-11))=7:=rfl;simp only[ht]at d9;have ZH:(run:Int)-11=((run-11:Nat):Int):=by omega
     have hb:(run:Int)<=138:=by omega
     have hb2:¬(138:Int)<(run:Int):=by omega
     clear e
     go_enter Tryz.func251,Tryz.ntmps251
     go_wp2_with fail;refine d9.mono ?_;rintro e w1 ⟨rfl,h1⟩;go_wp2
     go_ret
     exact⟨rfl,h1⟩
    ·have e:cH v run=((18,127),138):=by
      unfold cH;rw[aae h3,aae h0,aae h11]
      congr 2<;>omega
     rw[e]at d9 ⊢;have ht:Rf.lp (18,127)=7:=rfl;simp only[ht]at d9
     skip
     have hb:¬(run:Int)<=138:=by omega
     have hb2:(138:Int)<(run:Int):=by omega
     clear e
     go_enter Tryz.func251,Tryz.ntmps251
     go_wp2_with fail;refine d9.mono ?_;rintro e w1 ⟨rfl,h1⟩;go_wp2
     go_ret
     exact⟨rfl,h1⟩
theorem nk (w:World)(a b:Nat):(w.drewN a).drewN b=w.drewN (a+b):=by simp
theorem gO (v:Nat):∀(f run:Nat),run<=f->Rf.bJ v f run=Rf.bJ v run run
 | 0,run,h=>by rw[show run=0 by omega]
 | f+1,0,_=>by
  have:Rf.bJ v (f+1) 0=[]:=by unfold Rf.bJ;rw[aaf rfl]
  rw[this];rfl
 | f+1,run+1,h=>by
  obtain⟨a1,a2,a3⟩:=nj v f (run+1) (by omega);obtain⟨b1,_,_⟩:=nj v run (run+1) (by omega);rw[a1,b1,gO v f _ (by omega),<-gO v run _ (by omega)]
theorem kj:∀(f:Nat) (l:List Nat),l.length<=f->Rf.fh f l=Rf.fh l.length l
 | 0,l,h=>by rw[show l=[] from aau (by omega)];rfl
 | f+1,[],_=>rfl
 | f+1,v::r,h=>by
  have h1:1<=Rf.bu v (v::r):=by rw[Rf.bu,aaf rfl];omega
  have hd:((v::r).drop (Rf.bu v (v::r))).length<=r.length:=by rw[abv,aao];omega
  rw[aao]at h ⊢;rw[Rf.fh,Rf.fh,kj f _ (by omega),<-kj r.length _ hd]
def E (l:List Nat):List (Nat×Nat):=Rf.fh l.length l
theorem SQ:E []=[]:=rfl
theorem Pf (l:List Nat)(i:Nat)(h:i<l.length):E (l.drop i)=Rf.lV (l.getD i 0) (Rf.bu (l.getD i 0) (l.drop i))++E (l.drop (i+Rf.bu (l.getD i 0) (l.drop i))):=by
 have e:l.drop i=l.getD i 0::l.drop (i+1):=by
  rw[abB h,aaa,aai h];rfl
 have h1:1<=Rf.bu (l.getD i 0) (l.drop i):=by rw[e,Rf.bu,aaf rfl];omega
 unfold E
 conv=>lhs;rw[e]
 rw[aao,Rf.fh,<-e,List.drop_drop,kj _ _ (by rw[abv,abv];omega)]
theorem sQ (l:List Nat):(∀x∈l,x<=15)->(E l).length<=l.length:=fun hx=>by
 have:=Rf.j7 l.length l [] (aad _) hx;have h2:=Rf.jb (E l) [];have h3:Rf.tell [] (E l)=[]++l.map (fun (x:Nat)=>(x:Int)):=this.1;rw[h3]at h2;simpa using h2
theorem jw (kf:Nat)(aN:Array Value)(ao:Option Addr)(cap:Nat)(l:List Nat)(I:World->List (Nat×Nat)->Prop)(hd:xm kf aN ao l I)(w:World)(hI:I w [])(hl:∀x∈l,x<=15)(h7:l.length<=600): Calls Tryz.prog 234 #[.slice ao l.length cap,.func (.func kf) #[] aN] w fun e w'=>e=.returned (.tuple #[])/\I w' (E l):=by
 have hcall:=hd.call;have W8:Hid ((E l).length<=600):=by have:=sQ l hl;show _<=_;omega
 go_enter Tryz.func234,Tryz.ntmps234
 go_wp2
 go_loopw [4] (fun iv wr=>∃(i:Nat) (ts:List (Nat×Nat)),i<=l.length/\iv=.int .i64 i/\Hid (I wr ts)/\Hid (ts++E (l.drop i)=E l)) (fun iv _=>l.length-(intOf iv).toNat)
 case atStart=>exact⟨0,[],aaj _,rfl,hI,by show _=_;simp⟩
 case round =>
  clear hI;obtain⟨i,ts,hi,rfl,HI,HT⟩:=hrel;by_cases hlt:i<l.length
  ·have Pg:l.getD i 0<=15:=by
    rw[aaa,aai hlt];exact hl _ (aaR hlt)
   have hint:=hd.ints wr ts HI.out;have hrun:=fun n=>Ix l i l.length cap ao (wr.drewN n) rfl (by omega) hlt hint;obtain⟨b,off,rfl,hc⟩:=mc hint i hlt;have hrl:=Rf.pT (l.getD i 0) (l.drop i);rw[abv]at hrl
   have hr1:1<=Rf.bu (l.getD i 0) (l.drop i):=by
    rw[abB hlt,Rf.bu,aaf (by rw[aaa,aai hlt];rfl)];omega
   have ZI:=Pf l i hlt;generalize Rf.bu (l.getD i 0) (l.drop i)=R at *;generalize l.getD i 0=v at *;have HT2:Hid (ts++(Rf.lV v R++E (l.drop (i+R)))=E l):=by show _=_;rw[<-ZI];exact HT.out
   clear ZI HT;have hir:(i:Int)+(R:Int)<=600:=by omega
   by_cases hv:0<v
   ·have hv':(v:Int)>0:=by omega
    have hts:ts.length<700:=by
     have a:=abq List.length HT2.out;rw[aac]at a;have b:=W8.out;omega
    have d9:=fun n=>hd.num (wr.drewN n) ts (v,0) (hd.drew wr ts n HI.out) hts (by show v<=18;omega) (Nat.pow_pos (by omega));simp only[vJ v 0 Pg]at d9
    have HT3:Hid ((ts++[(v,0)])++(Rf.bJ v (R-1) (R-1)++E (l.drop (i+R)))=E l):=by
     show _=_;rw[<-HT2.out,Rf.lV,aaf hv,gO v R (R-1) (by omega)];simp
    have eR:(R:Int)-1=((R-1:Nat):Int):=by omega
    clear HT2;go_wp2
    go_quiet ((go_at_call 250;refine (hrun _).mono ?_;rintro e w1 ⟨rfl,m,rfl⟩;exact⟨rfl,_,nk _ _ _⟩))
    go_wp2_with fail;refine (d9 _).mono ?_;rintro e w2 ⟨rfl,h2⟩;have HI2:Hid (I _ _):=h2;clear h2 d9 hrun hint hc HI;go_wp2
    rename World=>wB
    go_loopw [6] (fun rv wz=>∃(r:Nat) (ts':List (Nat×Nat)),r<=600/\rv=.int .i64 r/\Hid (I wz ts')/\Hid (ts'++(Rf.bJ v r r++E (l.drop (i+R)))=E l)) (fun rv _=>(intOf rv).toNat)
    case atStart=>exact⟨R-1,_,by omega,by go_num,HI2,HT3⟩
    case round =>
     clear HI2 HT3;obtain⟨r,ts',W9,rfl,HI,HT⟩:=hrel;by_cases hr0:0<r
     ·have Bw:(r:Int)>0:=by omega
      obtain⟨f,rfl⟩:∃f,r=f+1:=⟨r-1,by omega⟩
      obtain⟨q1,q2,q3⟩:=nj v f (f+1) (by omega)
      have hlen:ts'.length<700:=by
       have a:=abq List.length HT.out;rw[aac]at a;have b:=W8.out;omega
      have kR:=sP kf aN _ l I hd v (f+1) ts' wr HI.out hlen Pg (by omega) (by omega)
      have HT2:Hid ((ts'++[(cH v (f+1)).1])++(Rf.bJ v (f+1-(cH v (f+1)).2) (f+1-(cH v (f+1)).2)++E (l.drop (i+R)))=E l):=by
       show _=_;rw[<-HT.out,q1,gO v f _ (by omega)];simp
      obtain⟨P,hP⟩:∃P:Nat,P=(cH v (f+1)).2:=⟨_,rfl⟩
      rw[<-hP]at q2 q3 kR HT2;have eP:((f+1:Nat):Int)-(P:Int)=((f+1-P:Nat):Int):=by omega
      obtain⟨F,hF⟩:∃F:Nat,F=f+1:=⟨_,rfl⟩
      rw[<-hF]at kR eP Bw HT2 q3 ⊢;have hF1:F<=f+1:=by omega
      have hF2:f+1<=F:=by omega
      clear hF hP q1 HT HI;go_wp2_with fail;refine kR.mono ?_;rintro e w1 ⟨rfl,h1⟩;have HI1:Hid (I _ _):=h1;clear h1 kR;go_wp2
      go_roundw
      case rel=>exact⟨F-P,_,by omega,by go_num,HI1,HT2⟩
      case measure=>simp[intOf];omega
     ·have er:r=0:=by omega
      subst er
      have HT2:Hid (ts'++E (l.drop (i+R))=E l):=by
       have h0:=HT.out;rw[show Rf.bJ v 0 0=[] from rfl,abg]at h0;exact h0
      clear HT;go_wp2
      go_roundw
      case rel=>exact⟨i+R,ts',by omega,by go_num,HI,HT2⟩
      case measure=>simp[intOf];omega
   ·have hv':¬(v:Int)>0:=by omega
    have HT3:Hid (ts++(Rf.bJ v R R++E (l.drop (i+R)))=E l):=by
     show _=_;rw[<-HT2.out,Rf.lV,aae hv]
    clear HT2;go_wp2
    go_quiet ((go_at_call 250;refine (hrun _).mono ?_;rintro e w1 ⟨rfl,m,rfl⟩;exact⟨rfl,_,nk _ _ _⟩))
    have HI2:Hid (I (wr.drewN nq) ts):=hd.drew wr ts nq HI.out;clear hrun hint hc HI;go_wp2
    rename World=>wB
    go_loopw [6] (fun rv wz=>∃(r:Nat) (ts':List (Nat×Nat)),r<=600/\rv=.int .i64 r/\Hid (I wz ts')/\Hid (ts'++(Rf.bJ v r r++E (l.drop (i+R)))=E l)) (fun rv _=>(intOf rv).toNat)
    case atStart=>exact⟨R,ts,by omega,rfl,HI2,HT3⟩
    case round =>
     clear HI2 HT3;obtain⟨r,ts',W9,rfl,HI,HT⟩:=hrel;by_cases hr0:0<r
     ·have Bw:(r:Int)>0:=by omega
      obtain⟨f,rfl⟩:∃f,r=f+1:=⟨r-1,by omega⟩
      obtain⟨q1,q2,q3⟩:=nj v f (f+1) (by omega)
      have hlen:ts'.length<700:=by
       have a:=abq List.length HT.out;rw[aac]at a;have b:=W8.out;omega
      have kR:=sP kf aN _ l I hd v (f+1) ts' wr HI.out hlen Pg (by omega) (by omega)
      have HT2:Hid ((ts'++[(cH v (f+1)).1])++(Rf.bJ v (f+1-(cH v (f+1)).2) (f+1-(cH v (f+1)).2)++E (l.drop (i+R)))=E l):=by
       show _=_;rw[<-HT.out,q1,gO v f _ (by omega)];simp
      obtain⟨P,hP⟩:∃P:Nat,P=(cH v (f+1)).2:=⟨_,rfl⟩
      rw[<-hP]at q2 q3 kR HT2;have eP:((f+1:Nat):Int)-(P:Int)=((f+1-P:Nat):Int):=by omega
      obtain⟨F,hF⟩:∃F:Nat,F=f+1:=⟨_,rfl⟩
      rw[<-hF]at kR eP Bw HT2 q3 ⊢;have hF1:F<=f+1:=by omega
      have hF2:f+1<=F:=by omega
      clear hF hP q1 HT HI;go_wp2_with fail;refine kR.mono ?_;rintro e w1 ⟨rfl,h1⟩;have HI1:Hid (I _ _):=h1;clear h1 kR;go_wp2
      go_roundw
      case rel=>exact⟨F-P,_,by omega,by go_num,HI1,HT2⟩
      case measure=>simp[intOf];omega
     ·have er:r=0:=by omega
      subst er
      have HT2:Hid (ts'++E (l.drop (i+R))=E l):=by
       have h0:=HT.out;rw[show Rf.bJ v 0 0=[] from rfl,abg]at h0;exact h0
      clear HT;go_wp2
      go_roundw
      case rel=>exact⟨i+R,ts',by omega,by go_num,HI,HT2⟩
      case measure=>simp[intOf];omega
  ·have e:i=l.length:=by omega
   subst e;have HT2:=HT.out;rw[List.drop_length,SQ,aa9]at HT2;have HT3:Hid (ts=E l):=HT2;clear HT2 HT;go_wp2
   go_end0
   exact⟨rfl,by rw[<-HT3.out];exact HI.out⟩
end Go.Proofs.YtmfijackgekioaaGreatDoor
