import Derived.Test.YtmfijackgekioaaGreatDoorQ07
namespace Go.Proofs.YtmfijackgekioaaGreatDoor.Rf
theorem qE:∀(a b:List (Nat×Nat)) (out:List Int),tell out (a++b)=tell (tell out a) b
 | [],_,_=>rfl
 | t::r,b,out=>qE r b (out++iG out t)
theorem nT:∀(a b:List (Nat×Nat)) (out:List Int),gX out a->gX (tell out a) b->gX out (a++b)
 | [],_,_,_,h=>h
 | t::r,b,out,⟨h1,h2,h3,h4⟩,h=>⟨h1,h2,h3,nT r b (out++iG out t) h4 h⟩
def bJ (v:Nat):Nat->Nat->List (Nat×Nat)
 | 0,_=>[]
 | f+1,run =>
  if run=0 then [] else if run<3 then (v,0)::bJ v f (run-1) else if 0<v then (16,min run 6-3)::bJ v f (run-min run 6)
  else if run<11 then (17,run-3)::bJ v f 0 else (18,min run 138-11)::bJ v f (run-min run 138)
def Last (out:List Int)(v:Nat):Prop:=out≠[]/\out.getD (out.length-1) 0=(v:Int)
theorem lQ (out:List Int)(v k:Nat)(h:0<k\/Last out v):Last (out++List.replicate k (v:Int)) v:=by
 rcases Nat.eq_zero_or_pos k with hk|hk
 ·subst hk;rcases h with h|h
  ·omega
  ·simpa using h
 ·refine⟨by intro e;have:=abq List.length e;simp at this;omega,?_⟩;rw[aaa,aaG (by simp;omega),abK,aaf (by simp;omega)];rfl
theorem lU (v:Nat)(hv:v<=15):∀(f run:Nat) (out:List Int),run<=f->(0<v->Last out v) -> tell out (bJ v f run)=out++List.replicate run (v:Int)/\gX out (bJ v f run)
 | 0,run,out,hr,_=>by
  obtain rfl:run=0:=by omega
  exact⟨by simp[bJ,tell],trivial⟩
 | f+1,run,out,hr,hl=>by
  rw[bJ];by_cases c0:run=0
  ·subst c0;exact⟨by simp[tell],trivial⟩
  ·rw[aae c0]
   have step:∀(t:Nat×Nat) (k:Nat),iG out t=List.replicate k (v:Int)->k<=run->0<k->t.1<=18->t.2<2^lp t->(t.1=16->out≠[]) ->
     tell out (t::bJ v f (run-k))=out++List.replicate run (v:Int)/\gX out (t::bJ v f (run-k)):=fun t k e hk h0 h18 hx h16=>by
    have ih:=lU v hv f (run-k) (out++List.replicate k (v:Int)) (by omega) (fun _=>lQ out v k (.inl h0));rw[tell,e];refine⟨?_,h18,hx,h16,by rw[e];exact ih.2⟩;rw[ih.1,aaq,List.replicate_append_replicate,show k+(run-k)=run by omega]
   by_cases c3:run<3
   ·rw[aaf c3];refine step (v,0) 1 ?_ (by omega) (by omega) (by simp only;omega) (Nat.pow_pos (by omega)) (fun h=>by simp only at h;omega);rw[iG,aaf (by simp only;omega)];rfl
   ·rw[aae c3];by_cases cv:0<v
    ·rw[aaf cv];obtain⟨l1,l2⟩:=hl cv;refine step (16,min run 6-3) (min run 6) ?_ (by omega) (by omega) (by simp) (by simp only[lp,if_true];omega) (fun _=>l1);rw[iG,aae (by simp),aaf rfl,l2]
     congr 1
     simp only;omega
    ·rw[aae cv];obtain rfl:v=0:=by omega
     by_cases c11:run<11
     ·rw[aaf c11];have:=step (17,run-3) run ?_ (by omega) (by omega) (by simp) (by show run-3<2^3;omega) (fun h=>by simp at h)
      ·rw[Nat.sub_self]at this;exact this
      ·rw[iG,aae (by simp),aae (by simp),aaf rfl]
       congr 1
       simp only;omega
     ·rw[aae c11];refine step (18,min run 138-11) (min run 138) ?_ (by omega) (by omega) (by simp) (by show min run 138-11<2^7;omega) (fun h=>by simp at h);rw[iG,aae (by simp),aae (by simp),aae (by simp)]
      congr 1
      simp only;omega
def bu (v:Nat):List Nat->Nat
 | []=>0
 | x::r=>if x=v then bu v r+1 else 0
theorem pT (v:Nat):∀(l:List Nat),bu v l<=l.length
 | []=>aad _
 | x::r=>by
  have:=pT v r;rw[bu,aao];split<;>omega
theorem qF (v:Nat):∀(l:List Nat),l=List.replicate (bu v l) v++l.drop (bu v l)
 | []=>by simp[bu]
 | x::r=>by
  rw[bu];split
  ·rename_i h;have:=qF v r;rw[List.replicate_succ,List.drop_succ_cons,acn,h,<-this]
  ·simp
def lV (v run:Nat):List (Nat×Nat):=if 0<v then (v,0)::bJ v run (run-1) else bJ v run run
def fh:Nat->List Nat->List (Nat×Nat)
 | 0,_=>[]
 | _+1,[]=>[]
 | f+1,v::r=>lV v (bu v (v::r))++fh f ((v::r).drop (bu v (v::r)))
theorem yY (v run:Nat)(hv:v<=15)(hr:1<=run)(out:List Int):tell out (lV v run)=out++List.replicate run (v:Int)/\gX out (lV v run):=by
 unfold lV;by_cases h:0<v
 ·rw[aaf h];have e:iG out (v,0)=[(v:Int)]:=by rw[iG,aaf (by simp only;omega)]
  have ih:=lU v hv run (run-1) (out++[(v:Int)]) (by omega) (fun _=>lQ out v 1 (.inl (by omega)));rw[tell,e];refine⟨?_,by simp only;omega,Nat.pow_pos (by omega),fun h=>by simp only at h;omega,by rw[e];exact ih.2⟩;obtain⟨n,rfl⟩:∃n,run=n+1:=⟨run-1,by omega⟩
  rw[ih.1,aaq,Nat.add_sub_cancel,List.replicate_succ];rfl
 ·rw[aae h];exact lU v hv run run out (aad _) (fun h'=>absurd h' h)
theorem j7:∀(f:Nat) (l:List Nat) (out:List Int),l.length<=f->(∀x,x∈l->x<=15)->tell out (fh f l)=out++l.map (fun (x:Nat)=>(x:Int))/\gX out (fh f l)
 | 0,l,out,h,_=>by
  obtain rfl:l=[]:=aau (by omega);exact⟨by simp[fh,tell],trivial⟩
 | f+1,[],out,_,_=>⟨by simp[fh,tell],trivial⟩
 | f+1,v::r,out,h,hx=>by
  have h1:1<=bu v (v::r):=by rw[bu,aaf rfl];omega
  have hle:=pT v (v::r);have hsp:=qF v (v::r);have ho:=yY v (bu v (v::r)) (hx v abJ) h1 out;rw[aao]at h hle;have ih:=j7 f ((v::r).drop (bu v (v::r))) (out++List.replicate (bu v (v::r)) (v:Int)) (by rw[abv,aao];omega) (fun x hm=>hx x (List.mem_of_mem_drop hm));rw[fh,qE,ho.1];refine⟨?_,nT _ _ _ ho.2 (by rw[ho.1];exact ih.2)⟩;rw[ih.1]
  conv=>rhs;rw[hsp]
  rw[abo,List.map_replicate,aaq]
section
variable {α:Type} {wt:α->Int}
def lx (wt:α->Int)(a b:α×Nat):Prop:=wt a.1<wt b.1\/(wt a.1=wt b.1/\a.2<b.2)
theorem Hx {a b:α×Nat}(h:lx wt a b)(k:lx wt b a):False:=by
 unfold lx at h k;omega
theorem oT {a b c:α×Nat}(h:lx wt a b)(k:lx wt b c):lx wt a c:=by
 unfold lx at *;omega
def Stable (wt:α->Int)(l l':List α):Prop:=∃t:List (α×Nat),t.Perm l.zipIdx/\t.Pairwise (lx wt)/\l'=t.map Prod.fst
theorem Stable.perm {l l':List α}(h:Stable wt l l'):l'.Perm l:=by
 obtain⟨t,h1,_,rfl⟩:=h;have:=h1.map Prod.fst
 rwa [List.zipIdx_map_fst]at this
theorem Stable.sorted {l l':List α}(h:Stable wt l l'):l'.Pairwise (fun a b=>wt a<=wt b):=by
 obtain⟨t,_,h2,rfl⟩:=h;rw[List.pairwise_map];exact h2.imp (fun {a b} hh=>by unfold lx at hh;omega)
theorem pU {l:List α}(h:l.Pairwise (fun a b=>wt a<=wt b))(k:Nat):(l.zipIdx k).Pairwise (lx wt):=by
 rw[List.pairwise_iff_getElem]at h ⊢;intro i j hi hj hij;simp only[List.getElem_zipIdx];have:=h i j (by simpa using hi) (by simpa using hj) hij;unfold lx;simp only;omega
theorem Stable.self {l:List α}(h:l.Pairwise (fun a b=>wt a<=wt b)):Stable wt l l :=
 ⟨l.zipIdx,List.Perm.refl _,pU h 0,(List.zipIdx_map_fst 0 l).symm⟩
theorem nU {s t:List (α×Nat)}(hs:s.Pairwise (lx wt))(ht:t.Pairwise (lx wt))(hp:s.Perm t):s=t :=
 List.Perm.eq_of_pairwise (fun _ _ _ _ h k=>(Hx h k).elim) hs ht hp
theorem kU {β:Type}(p:β->Bool)(l:List β)(c:Nat):(l.take c).filter p=(l.filter p).take ((l.take c).filter p).length/\(l.drop c).filter p=(l.filter p).drop ((l.take c).filter p).length:=by
 have e:l.filter p=(l.take c).filter p++(l.drop c).filter p:=by rw[<-List.filter_append,List.take_append_drop]
 constructor
 ·rw[e,List.take_left'];rfl
 ·rw[e,List.drop_left'];rfl
theorem Ll (S P:List α):((S++P).zipIdx).filter (fun x=>decide (x.2<S.length))=S.zipIdx:=by
 rw[List.zipIdx_append,List.filter_append]
 have a:(S.zipIdx).filter (fun x=>decide (x.2<S.length))=S.zipIdx:=by
  rw[List.filter_eq_self];rintro⟨x,i⟩ h;have:=List.mem_zipIdx h;simp;omega
 have b:(P.zipIdx (0+S.length)).filter (fun x=>decide (x.2<S.length))=[]:=by
  rw[List.filter_eq_nil_iff];rintro⟨x,i⟩ h;have:=List.mem_zipIdx h;simp;omega
 rw[a,b,aa9]
theorem Hy (S P:List α):((S++P).zipIdx).filter (fun x=>!decide (x.2<S.length))=P.zipIdx S.length:=by
 rw[List.zipIdx_append,List.filter_append]
 have a:(S.zipIdx).filter (fun x=>!decide (x.2<S.length))=[]:=by
  rw[List.filter_eq_nil_iff];rintro⟨x,i⟩ h;have:=List.mem_zipIdx h;simp;omega
 have b:(P.zipIdx (0+S.length)).filter (fun x=>!decide (x.2<S.length))=P.zipIdx (0+S.length):=by
  rw[List.filter_eq_self];rintro⟨x,i⟩ h;have:=List.mem_zipIdx h;simp;omega
 rw[a,b,abg,aaF]
theorem Stable.wX {S P l:List α}(h:Stable wt (S++P) l)(hS:S.Pairwise (fun a b=>wt a<=wt b))(hP:P.Pairwise (fun a b=>wt a<=wt b))(c:Nat)(hc:c<=l.length): ∃a b,a<=S.length/\b<=P.length/\a+b=c/\(l.take c).Perm (S.take a++P.take b)/\∀i (hi:i<S.length),a<=i->∀j (hj:j<P.length),j<b->wt P[j]<wt S[i]:=by
 obtain⟨t,h1,h2,rfl⟩:=h
 have eS:t.filter (fun x=>decide (x.2<S.length))=S.zipIdx:=by
  refine nU (h2.filter _) (pU hS 0) ?_;have:=h1.filter (fun x=>decide (x.2<S.length))
  rwa [Ll]at this
 have eP:t.filter (fun x=>!decide (x.2<S.length))=P.zipIdx S.length:=by
  refine nU (h2.filter _) (pU hP S.length) ?_;have:=h1.filter (fun x=>!decide (x.2<S.length))
  rwa [Hy]at this
 obtain⟨s1,s2⟩:=kU (fun x=>decide (x.2<S.length)) t c;obtain⟨p1,p2⟩:=kU (fun x=>!decide (x.2<S.length)) t c;rw[eS]at s1 s2;rw[eP]at p1 p2;generalize ea:((t.take c).filter (fun x=>decide (x.2<S.length))).length=a at s1 s2;generalize eb:((t.take c).filter (fun x=>!decide (x.2<S.length))).length=b at p1 p2;have hperm:=List.filter_append_perm (fun x:α×Nat=>decide (x.2<S.length)) (t.take c);have hla:a<=S.length:=by rw[<-ea,s1];simp only[aaQ,List.length_zipIdx];omega
 have hlb:b<=P.length:=by rw[<-eb,p1];simp only[aaQ,List.length_zipIdx];omega
 refine⟨a,b,hla,hlb,?_,?_,?_⟩
 ·have:=hperm.length_eq;rw[aac,ea,eb,aaQ]at this;simp only[abE]at hc;omega
 ·have:=hperm.map Prod.fst;rw[s1,p1,abo,List.map_take,List.map_take,List.zipIdx_map_fst,List.zipIdx_map_fst]at this;rw[<-List.map_take];exact this.symm
 ·intro i hi hai j hj hjb
  have m1:(P[j],S.length+j)∈t.take c:=by
   have:(P[j],S.length+j)∈(P.zipIdx S.length).take b:=by
    rw[List.mem_take_iff_getElem];exact⟨j,by simp;omega,by simp⟩
   rw[<-p1]at this;exact (List.mem_filter.1 this).1
  have m2:(S[i],i)∈t.drop c:=by
   have:(S[i],i)∈(S.zipIdx).drop a:=by
    rw[List.mem_drop_iff_getElem];exact⟨i-a,by simp;omega,by simp[show a+(i-a)=i from by omega]⟩
   rw[<-s2]at this;exact (List.mem_filter.1 this).1
  have hh:=h2;rw[<-List.take_append_drop c t,List.pairwise_append]at hh;have:=hh.2.2 _ m1 _ m2;unfold lx at this;simp only at this;omega
end
section
variable {α:Type} {wt:α->Int} {ns:α->List Nat}
def cnt (ns:α->List Nat)(x:Nat)(l:List α):Nat:=(l.flatMap ns).count x
theorem oe (x:Nat)(a b:List α):cnt ns x (a++b)=cnt ns x a+cnt ns x b:=by simp[cnt]
theorem Hz {x:Nat}{a b:List α}(h:a.Perm b):cnt ns x a=cnt ns x b:=(h.flatMap_right ns).count_eq x
def j8 (wt:α->Int)(ns:α->List Nat)(row out:List α):Prop :=
 out.length=row.length/2/\∀j (h:j<out.length) (h1:2*j<row.length) (h2:2*j+1<row.length),wt out[j]=wt row[2*j]+wt row[2*j+1]/\ns out[j]=ns row[2*j]++ns row[2*j+1]
def Rows (wt:α->Int)(ns:α->List Nat)(S:List α):Nat->List α->Prop
 | 0,row=>row=[]
 | k+1,row=>∃r ps,Rows wt ns S k r/\j8 wt ns r ps/\Stable wt (S++ps) row
theorem Rows.one {S:List α}(h:S.Pairwise (fun a b=>wt a<=wt b)):Rows wt ns S 1 S :=
 ⟨[],[],rfl,⟨by simp,fun j h=>absurd h (by simp)⟩,by rw[aa9];exact Stable.self h⟩
theorem j8.sorted {row out:List α}(h:j8 wt ns row out)(hr:row.Pairwise (fun a b=>wt a<=wt b)):out.Pairwise (fun a b=>wt a<=wt b):=by
 rw[List.pairwise_iff_getElem]at hr ⊢;obtain⟨h1,h2⟩:=h;intro i j hi hj hij;rw[(h2 i hi (by omega) (by omega)).1,(h2 j hj (by omega) (by omega)).1];have a:=hr (2*i) (2*j) (by omega) (by omega) (by omega);have b:=hr (2*i+1) (2*j+1) (by omega) (by omega) (by omega);omega
theorem j8.pos {row out:List α}(h:j8 wt ns row out)(hr:∀x∈row,0<=wt x):∀x∈out,0<=wt x:=by
 obtain⟨h1,h2⟩:=h;intro x hx;obtain⟨j,hj,rfl⟩:=abU hx;rw[(h2 j hj (by omega) (by omega)).1];have a:=hr _ (aaR (l:=row) (n:=2*j) (by omega));have b:=hr _ (aaR (l:=row) (n:=2*j+1) (by omega));omega
theorem j8.wX {row out:List α}(h:j8 wt ns row out)(x:Nat):∀b,b<=out.length->cnt ns x (out.take b)=cnt ns x (row.take (2*b))
 | 0,_=>by simp[cnt]
 | b+1,hb=>by
  have ih:=j8.wX h x b (by omega);obtain⟨h1,h2⟩:=h;have e1:out.take (b+1)=out.take b++[out[b]]:=by rw[aaB (by omega)]
  have e2:row.take (2*(b+1))=row.take (2*b)++[row[2*b],row[2*b+1]]:=by
   have q1:row.take (2*b+1+1)=row.take (2*b+1)++[row[2*b+1]]:=aaB (by omega);have q2:row.take (2*b+1)=row.take (2*b)++[row[2*b]]:=aaB (by omega);rw[show 2*(b+1)=2*b+1+1 from by omega,q1,q2,aaq];rfl
  rw[e1,e2,oe,oe,ih];have:=(h2 b (by omega) (by omega) (by omega)).2;simp[cnt,this]
theorem Rows.good {S:List α}(hS:S.Pairwise (fun a b=>wt a<=wt b))(hp:∀x∈S,0<=wt x):∀(k:Nat) (row:List α),Rows wt ns S k row->row.Pairwise (fun a b=>wt a<=wt b)/\∀x∈row,0<=wt x
 | 0,row,h=>by cases h;simp
 | k+1,row,⟨r,ps,h1,h2,h3⟩=>by
  have ih:=Rows.good hS hp k r h1;refine⟨h3.sorted,fun x hx=>?_⟩;rcases aa8.1 ((h3.perm.mem_iff).1 hx) with q|q
  ·exact hp x q
  ·exact h2.pos ih.2 x q
theorem Rows.long {S:List α}:∀(k:Nat) (row:List α),Rows wt ns S k row->0<S.length->row.length<2*S.length/\(2*S.length-row.length-1)*2^k<=2*S.length-1
 | 0,row,h,hn=>by cases h;simp;omega
 | k+1,row,⟨r,ps,h1,h2,h3⟩,hn=>by
  obtain⟨i1,i2⟩:=Rows.long k r h1 hn;have e:=h3.perm.length_eq;rw[aac,h2.1]at e;refine⟨by omega,?_⟩;have:(2*S.length-row.length-1)*2<=2*S.length-r.length-1:=by omega
  calc (2*S.length-row.length-1)*2^(k+1)=(2*S.length-row.length-1)*2*2^k:=by rw[ab1,aa0,aaV 2 (2^k)]
   _<=(2*S.length-r.length-1)*2^k:=aaU _ this
   _<=_:=i2
theorem Rows.enough {S row:List α}{k:Nat}(h:Rows wt ns S k row)(hn:0<S.length)(hk:S.length<=2^k):2*S.length-2<=row.length:=by
 obtain⟨h1,h2⟩:=Rows.long k row h hn;by_cases c:2<=2*S.length-row.length-1
 ·have:2*2^k<=(2*S.length-row.length-1)*2^k:=aaU _ c;omega
 ·omega
def Lm:List Nat->Nat->Prop
 | [],c=>c=0
 | a::dz,c=>∃p,c=a+p/\Lm dz (2*p)
def nW:Nat->List Nat->Prop
 | _,[]=>True
 | m,a::dz=>a<=m/\nW a dz
theorem nW.mono {m m':Nat}(h:m<=m'):∀{dz:List Nat},nW m dz->nW m' dz
 | [],_=>trivial
 | _::_,hh=>⟨aaz hh.1 h,hh.2⟩
theorem Rows.H0 {S:List α}(hS:S.Pairwise (fun a b=>wt a<=wt b))(hp:∀x∈S,0<=wt x):∀(k:Nat) (row:List α),Rows wt ns S k row->∀c,c<=row.length -> ∃dz:List Nat,dz.length=k/\Lm dz c/\nW S.length dz/\(∀x,cnt ns x (row.take c)=(dz.map (fun a=>cnt ns x (S.take a))).sum) /\ (∀a yZ,dz=a::yZ->∀y∈S.take a,y∈row.take c)/\(2<=S.length->2*S.length-2<=c->∃yZ,dz=S.length::yZ)
 | 0,row,h,c,hc=>by
  cases h;simp at hc;subst hc;exact⟨[],rfl,rfl,trivial,fun x=>by simp[cnt],fun a yZ e=>by simp at e,fun h2 h3=>by omega⟩
 | k+1,row,⟨r,ps,h1,h2,h3⟩,c,hc=>by
  obtain⟨gs,gp⟩:=Rows.good hS hp k r h1;obtain⟨a,b,ha,hb,hab,hperm,hlt⟩:=h3.wX hS (h2.sorted gs) c hc;have hb2:2*b<=r.length:=by have:=h2.1;omega
  obtain⟨dz,e1,e2,e3,e4,e5,e6⟩:=Rows.H0 hS hp k r h1 (2*b) hb2
  have R9:nW a dz:=by
   cases dz with
   | nil=>trivial
   | cons a' yZ =>
    refine⟨?_,e3.2⟩;by_cases q:a'<=a
    ·exact q
    ·have ha':a'<=S.length:=e3.1;have haS:a<S.length:=by omega
     have m:S[a]∈r.take (2*b):=by
      refine e5 a' yZ rfl _ ?_;rw[List.mem_take_iff_getElem];exact⟨a,by omega,rfl⟩
     rw[List.mem_take_iff_getElem]at m;obtain⟨i,hi,hie⟩:=m;have hps:=h2.2 (i/2) (by omega) (by omega) (by omega);have hl:=hlt a haS (aad _) (i/2) (by omega) (by omega);rw[hps.1]at hl;have z1:=gp _ (aaR (l:=r) (n:=2*(i/2)) (by omega));have z2:=gp _ (aaR (l:=r) (n:=2*(i/2)+1) (by omega))
     have hle:wt S[a]<=wt r[2*(i/2)]+wt r[2*(i/2)+1]:=by
      rw[<-hie];rcases Nat.mod_two_eq_zero_or_one i with q|q
      ·have:i=2*(i/2):=by omega
       have e:r[i]=r[2*(i/2)]:=by congr 1
       rw[e];omega
      ·have:i=2*(i/2)+1:=by omega
       have e:r[i]=r[2*(i/2)+1]:=by congr 1
       rw[e];omega
     omega
  refine⟨a::dz,by simp[e1],⟨b,hab.symm,e2⟩,⟨ha,R9⟩,fun x=>?_,?_,?_⟩
  ·rw[Hz hperm,oe,h2.wX x b hb,e4 x];simp
  ·intro a0 as0 e y hy;simp at e;obtain⟨rfl,rfl⟩:=e;exact (hperm.mem_iff).2 (List.mem_append_left _ hy)
  ·intro n2 hc2;by_cases q:a=S.length
   ·exact⟨dz,by rw[q]⟩
   ·obtain⟨yZ,e⟩:=e6 n2 (by omega);subst e;have:=R9.1;omega
def deep (dz:List Nat)(i:Nat):Nat:=(dz.map (fun a=>if i<a then 1 else 0)).sum
theorem rA (i:Nat):∀dz:List Nat,deep dz i<=dz.length
 | []=>by simp[deep]
 | a::dz=>by
  have:=rA i dz;simp only[deep,ach,List.sum_cons,aao]at *;split<;>omega
theorem vw {i m:Nat}(h:m<=i):∀{dz:List Nat},nW m dz->deep dz i=0
 | [],_=>by simp[deep]
 | a::dz,hh=>by
  have:=vw (i:=i) (m:=a) (aaz hh.1 h) hh.2;simp only[deep,ach,List.sum_cons]at *;have:=hh.1;rw[aae (by omega)];omega
def fK (k:Nat)(dz:List Nat):Nat->Nat
 | 0=>0
 | m+1=>fK k dz m+2^(k-deep dz m)
theorem qG (a:Nat)(dz:List Nat)(hf:nW a dz):∀m,fK (dz.length+1) (a::dz) m=fK dz.length dz (min m a)+(m-a)*2^(dz.length+1)
 | 0=>by simp[fK]
 | m+1=>by
  rw[fK,qG a dz hf m];by_cases q:m<a
  ·have d:deep (a::dz) m=1+deep dz m:=by simp[deep,q]
   rw[show min (m+1) a=min m a+1 from by omega,fK,show min m a=m from by omega,d,show m-a=0 from by omega,show m+1-a=0 from by omega];have:=rA m dz;rw[show dz.length+1-(1+deep dz m)=dz.length-deep dz m from by omega];omega
  ·have d:deep (a::dz) m=0:=vw (m:=a) (by omega) ⟨aad _,hf⟩;rw[d,show min (m+1) a=min m a from by omega,show m+1-a=(m-a)+1 from by omega,Nat.add_mul,Nat.sub_zero];omega
theorem qH:∀(dz:List Nat) (c m:Nat),nW m dz->Lm dz c->2*fK dz.length dz m+2^dz.length*c=2*(2^dz.length*m)
 | [],c,m,_,h=>by
  cases h
  have:∀m,fK 0 [] m=m:=by
   intro m
   induction m with
   | zero=>rfl
   | succ m ih=>rw[fK,ih];simp
  simp[this]
 | a::dz,c,m,⟨hm,hf⟩,⟨p,hc,hp⟩=>by
  have ih:=qH dz (2*p) a hf hp;rw[aao,qG a dz hf,Nat.min_eq_right hm,hc];obtain⟨d,rfl⟩:∃d,m=a+d:=⟨m-a,by omega⟩
  rw[show a+d-a=d from by omega,ab1];generalize fK dz.length dz a=F at *;generalize 2^dz.length=Z at *;have e1:d*(Z*2)=2*(Z*d):=by rw[aaV Z 2,<-aa0,aaV d 2,aa0,aaV d Z]
  have e2:Z*2*(a+p)=2*(Z*a)+2*(Z*p):=by rw[Nat.mul_add,aaV Z 2,aa0,aa0]
  have e3:Z*2*(a+d)=2*(Z*a)+2*(Z*d):=by rw[Nat.mul_add,aaV Z 2,aa0,aa0]
  have e4:Z*(2*p)=2*(Z*p):=by rw[<-aa0,aaV Z 2,aa0]
  rw[e1,e2,e3];rw[e4]at ih;omega
theorem y9 {dz:List Nat}{n:Nat}(hn:2<=n)(hf:nW n dz)(ha:Lm dz (2*n-2)):fK dz.length dz n=2^dz.length:=by
 have:=qH dz (2*n-2) n hf ha
 have e:2^dz.length*(2*n-2)+2*2^dz.length=2*(2^dz.length*n):=by
  rw[aaV 2 (2^dz.length),<-Nat.mul_add,show 2*n-2+2=2*n from by omega,aaV 2 n,<-aa0,aaV _ 2]
 omega
end
def upTo (g:Nat->Nat):Nat->Nat
 | 0=>0
 | k+1=>upTo g k+g k
theorem vx {g:Nat->Nat}:∀k,(∀j,j<k->g j=0)->upTo g k=0
 | 0,_=>rfl
 | k+1,h=>by rw[upTo,vx k (fun j hj=>h j (by omega)),h k (by omega)]
theorem og {g g':Nat->Nat}:∀k,(∀j,j<k->g j=g' j)->upTo g k=upTo g' k
 | 0,_=>rfl
 | k+1,h=>by rw[upTo,upTo,og k (fun j hj=>h j (by omega)),h k (by omega)]
theorem pV (g:Nat->Nat)(x:Nat):∀k,x<k->upTo g k=g x+upTo (fun j=>if j=x then 0 else g j) k
 | 0,h=>by omega
 | k+1,h=>by
  by_cases e:x=k
  ·subst e;rw[upTo,upTo,aaf rfl,og (g:=g) (g':=fun j=>if j=x then 0 else g j) x (fun j hj=>by rw[aae (by omega)])];omega
  ·rw[upTo,upTo,pV g x k (by omega),aae (Ne.symm e)];omega
theorem vy (M:Nat):∀(X:List Nat) (g:Nat->Nat),X.Nodup->(∀x∈X,x<M)->(∀j,j∉X->g j=0)->upTo g M=(X.map g).sum
 | [],g,_,_,h=>by rw[vx M (fun j _=>h j (by simp))];rfl
 | x::X,g,hn,hM,h=>by
  rw[List.nodup_cons]at hn
  rw[pV g x M (hM x (by simp)),vy M X (fun j=>if j=x then 0 else g j) hn.2 (fun y hy=>hM y (by simp[hy])) (fun j hj=>by
   by_cases e:j=x
   ·simp[e]
   ·simp only[aae e];exact h j (by simp[e,hj]))]
  have:X.map (fun j=>if j=x then 0 else g j)=X.map g:=by
   refine abn (fun y hy=>?_);rw[aae (fun e:y=x=>hn.1 (e▸hy))]
  rw[this];simp
theorem C5 (ls:List Int):∀k,fs ls k=upTo (fun j=>if 0<ls.getD j 0 then 32768/2^(ls.getD j 0).toNat else 0) k
 | 0=>rfl
 | k+1=>by rw[fs,upTo,C5 ls k]
section
variable {α:Type} {wt:α->Int} {ns:α->List Nat}
theorem vA {S:List α}{X:List Nat}(h:S.map ns=X.map (fun x=>[x]))(a:Nat):(S.take a).flatMap ns=X.take a:=by
 rw[List.flatMap_def,List.map_take,h,<-List.map_take,<-List.flatMap_def];simp
theorem pW {X:List Nat}(hn:X.Nodup)(i:Nat)(hi:i<X.length)(a:Nat):(X.take a).count X[i]=if i<a then 1 else 0:=by
 by_cases q:i<a
 ·rw[aaf q];have m:X[i]∈X.take a:=by rw[List.mem_take_iff_getElem];exact⟨i,by omega,rfl⟩
  have:=List.nodup_iff_count.1 (hn.sublist (List.take_sublist a X)) X[i];have p:=List.count_pos_iff.2 m;omega
 ·rw[aae q,List.count_eq_zero];intro m;rw[List.mem_take_iff_getElem]at m;obtain⟨j,hj,e⟩:=m;have hne:=List.pairwise_iff_getElem.1 hn;rcases Nat.lt_trichotomy j i with c|c|c
  ·exact hne j i (by omega) hi c e
  ·omega
  ·exact hne i j hi (by omega) c e.symm
theorem wY {S row:List α}{X:List Nat}{L M:Nat}{lens:List Int}(hS:S.Pairwise (fun a b=>wt a<=wt b))(hp:∀x∈S,0<=wt x)(hX:S.map ns=X.map (fun x=>[x]))(hn:X.Nodup)(hM:∀x∈X,x<M)(h2:2<=X.length)(hk:X.length<=2^L)(hL:L<=15)(hr:Rows wt ns S L row)(hl:∀j,lens.getD j 0=(cnt ns j (row.take (2*X.length-2)):Int)): (∀j,0<=lens.getD j 0/\lens.getD j 0<=L)/\(∀j,j∈X->0<lens.getD j 0)/\(∀j,j∉X->lens.getD j 0=0)/\fs lens M=32768:=by
 have Ra:S.length=X.length:=by have:=abq List.length hX;simpa using this
 have hen:=hr.enough (by omega) (by omega);rw[Ra]at hen;obtain⟨dz,e1,e2,e3,e4,_,e6⟩:=Rows.H0 hS hp L row hr (2*X.length-2) hen;obtain⟨yZ,e7⟩:=e6 (by omega) (by omega)
 have q1:∀i (hi:i<X.length),lens.getD X[i] 0=(deep dz i:Int):=by
  intro i hi;rw[hl,e4]
  congr 1
  unfold deep
  congr 1
  refine abn (fun a _=>?_);unfold cnt;rw[vA hX,pW hn i hi]
 have q2:∀j,j∉X->lens.getD j 0=0:=by
  intro j hj;rw[hl,e4]
  have:dz.map (fun a=>cnt ns j (S.take a))=dz.map (fun _=>0):=by
   refine abn (fun a _=>?_);unfold cnt;rw[vA hX,List.count_eq_zero];exact fun m=>hj (acb m)
  rw[this]
  have z:∀l:List Nat,(l.map (fun _=>0)).sum=0:=by
   intro l
   induction l with
   | nil=>rfl
   | cons x l ih=>simp[ih]
  rw[z];rfl
 have q3:∀i,i<X.length->1<=deep dz i:=by
  intro i hi;rw[e7];simp only[deep,ach,List.sum_cons];rw[aaf (by omega)];omega
 have q4:∀j,j∈X->0<lens.getD j 0:=by
  intro j hj;obtain⟨i,hi,rfl⟩:=abU hj;rw[q1 i hi];have:=q3 i hi;omega
 refine⟨fun j=>?_,q4,q2,?_⟩
 ·by_cases hj:j∈X
  ·obtain⟨i,hi,rfl⟩:=abU hj;rw[q1 i hi];have:=rA i dz;omega
  ·rw[q2 j hj];omega
 ·rw[C5,vy M X _ hn hM (fun j hj=>by simp only[q2 j hj];rfl)];have w:=y9 h2 (Ra▸e3) e2
  have g:∀m,m<=X.length->((X.take m).map (fun j=>if 0<lens.getD j 0 then 32768/2^(lens.getD j 0).toNat else 0)).sum=2^(15-L)*fK dz.length dz m:=by
   intro m
   induction m with
   | zero=>intro _;simp[fK]
   | succ m ih =>
    intro hm;rw[aaB (by omega),abo,List.sum_append,ih (by omega),fK,Nat.mul_add]
    congr 1
    simp only[ach,List.map_nil,List.sum_cons,List.sum_nil,abQ];have d1:=rA m dz;have d2:=q3 m (by omega);rw[q1 m (by omega),aaf (by omega),aa5,e1,show (32768:Nat)=2^15 from rfl,Nat.pow_div (by omega) (by omega),<-Nat.pow_add]
    congr 1
    omega
  have:=g X.length (aad _);rw[List.take_length]at this;rw[this,w,e1,<-Nat.pow_add,show 15-L+L=15 from by omega]
end
section
variable {α:Type} {wt:α->Int}
def sw (f:Nat->α×Nat)(i j:Nat):Nat->α×Nat:=fun k=>if k=i then f j else if k=j then f i else f k
def ins (f:Nat->α×Nat)(i m:Nat):Nat->α×Nat:=fun k=>if k=i then f m else if i<k/\k<=m then f (k-1) else f k
def mv (f:Nat->α×Nat)(a i:Nat):Nat->α×Nat:=fun k=>if k=i then f a else if a<=k/\k<i then f (k+1) else f k
def yo (f:Nat->α×Nat)(a b n:Nat):Nat->α×Nat:=fun k=>if a<=k/\k<a+n then f (k-a+b) else if b<=k/\k<b+n then f (k-b+a) else f k
def ie (f:Nat->α×Nat)(a m b:Nat):Nat->α×Nat:=fun k=>if a<=k/\k<a+(b-m) then f (k+(m-a)) else if a+(b-m)<=k/\k<b then f (k-(b-m)) else f k
theorem oU (f:Nat->α×Nat)(i:Nat):ins f i i=f:=by
 funext k;unfold ins;split
 ·next h=>rw[h]
 ·rw[aae (by omega)]
theorem C6 (f:Nat->α×Nat)(i:Nat):mv f i i=f:=by
 funext k;unfold mv;split
 ·next h=>rw[h]
 ·rw[aae (by omega)]
theorem zd (f:Nat->α×Nat)(a b:Nat):yo f a b 0=f:=by
 funext k;unfold yo;rw[aae (by omega),aae (by omega)]
theorem oV (f:Nat->α×Nat){j m:Nat}(h:0<j)(hm:j<=m):sw (ins f j m) j (j-1)=ins f (j-1) m:=by
 funext k;unfold sw ins
 repeat' split
 all_goals first|rfl|(exfalso;omega)|(congr 1;omega)
theorem Da (f:Nat->α×Nat){a k:Nat}(h:a<=k):sw (mv f a k) k (k+1)=mv f a (k+1):=by
 funext x;unfold sw mv
 repeat' split
 all_goals first|rfl|(exfalso;omega)|(congr 1;omega)
theorem ze (f:Nat->α×Nat){a b n i:Nat}(h:a+n<=b)(hi:i<n):sw (yo f a b i) (a+i) (b+i)=yo f a b (i+1):=by
 funext x;unfold sw yo
 repeat' split
 all_goals first|rfl|(exfalso;omega)|(congr 1;omega)
theorem H5 (f:Nat->α×Nat){i j m:Nat}(hi:i<=m)(h:j<i):ie (yo f (m-i) m j) (m-(i-j)) m (m+j)=ie f (m-i) m (m+j):=by
 funext x;unfold ie yo
 repeat' split
 all_goals first|rfl|(exfalso;omega)|(congr 1;omega)
theorem EU (f:Nat->α×Nat){i j m:Nat}(hi:i<=m)(h:i<j):ie (yo f (m-i) (m+j-i) i) (m-i) m (m+(j-i))=ie f (m-i) m (m+j):=by
 funext x;unfold ie yo
 repeat' split
 all_goals first|rfl|(exfalso;omega)|(congr 1;omega)
theorem H8 (f:Nat->α×Nat){i m:Nat}(hi:i<=m):yo f (m-i) m i=ie f (m-i) m (m+i):=by
 funext x;unfold ie yo
 repeat' split
 all_goals first|rfl|(exfalso;omega)|(congr 1;omega)
def fL (n:Nat)(f g:Nat->α×Nat):Prop:=((List.range n).map f).Perm ((List.range n).map g)
theorem fL.refl (n:Nat)(f:Nat->α×Nat):fL n f f:=List.Perm.refl _
theorem fL.trans {n:Nat}{f g h:Nat->α×Nat}(a:fL n f g)(b:fL n g h):fL n f h:=List.Perm.trans a b
theorem fL.sw (n:Nat)(f:Nat->α×Nat){i j:Nat}(hi:i<n)(hj:j<n):fL n (sw f i j) f:=by
 have h1:i<((List.range n).map f).length:=by simpa using hi
 have h2:j<((List.range n).map f).length:=by simpa using hj
 have e:(List.range n).map (Rf.sw f i j)=(((List.range n).map f).set i ((List.range n).map f)[j]).set j ((List.range n).map f)[i]:=by
  apply abt
  ·simp
  ·intro k _ _;simp only[abL,abP,List.getElem_set];unfold Rf.sw
   repeat' split
   all_goals first|rfl|(exfalso;omega)|(congr 1;omega)|(subst_vars;rfl)
 unfold fL;rw[e];exact List.set_set_perm h1 h2
def dE (wt:α->Int)(f:Nat->α×Nat)(a b:Nat):Prop:=∀i j,a<=i->i<j->j<b->lx wt (f i) (f j)
def Lo (f:Nat->α×Nat)(a m b:Nat):Prop:=∀i j,a<=i->i<m->m<=j->j<b->(f i).2<(f j).2
def In (f g:Nat->α×Nat)(a b:Nat):Prop:=(∀k,k<a\/b<=k->g k=f k)/\∀k,a<=k->k<b->∃l,a<=l/\l<b/\g k=f l
theorem In.refl (f:Nat->α×Nat)(a b:Nat):In f f a b:=⟨fun _ _=>rfl,fun k h1 h2=>⟨k,h1,h2,rfl⟩⟩
theorem In.trans {f g h:Nat->α×Nat}{a b:Nat}(x:In f g a b)(y:In g h a b):In f h a b :=
 ⟨fun k hk=>(y.1 k hk).trans (x.1 k hk),fun k h1 h2=>by
  obtain⟨l,l1,l2,e⟩:=y.2 k h1 h2;obtain⟨l',l3,l4,e'⟩:=x.2 l l1 l2
  exact⟨l',l3,l4,e.trans e'⟩⟩
theorem In.wide {f g:Nat->α×Nat}{a b c d:Nat}(x:In f g a b)(h1:c<=a)(h2:b<=d):In f g c d :=
 ⟨fun k hk=>x.1 k (by omega),fun k q1 q2=>by
  by_cases h:a<=k/\k<b
  ·obtain⟨l,l1,l2,e⟩:=x.2 k h.1 h.2;exact⟨l,by omega,by omega,e⟩
  ·exact⟨k,q1,q2,x.1 k (by omega)⟩⟩
theorem Sb (f:Nat->α×Nat){a i b:Nat}(h1:a<=i)(h2:i<b):In f (mv f a i) a b:=by
 refine⟨fun k hk=>?_,fun k q1 q2=>?_⟩
 ·unfold mv;rw[aae (by omega),aae (by omega)]
 ·unfold mv;split
  ·exact⟨a,by omega,by omega,rfl⟩
  ·split
   ·exact⟨k+1,by omega,by omega,rfl⟩
   ·exact⟨k,by omega,by omega,rfl⟩
theorem Ba (f:Nat->α×Nat){a i m b:Nat}(h1:a<=i)(h2:i<=m)(h3:m<b):In f (ins f i m) a b:=by
 refine⟨fun k hk=>?_,fun k q1 q2=>?_⟩
 ·unfold ins;rw[aae (by omega),aae (by omega)]
 ·unfold ins;split
  ·exact⟨m,by omega,by omega,rfl⟩
  ·split
   ·exact⟨k-1,by omega,by omega,rfl⟩
   ·exact⟨k,by omega,by omega,rfl⟩
theorem OG (f:Nat->α×Nat){a m b:Nat}(h1:a<=m)(h2:m<=b):In f (ie f a m b) a b:=by
 refine⟨fun k hk=>?_,fun k q1 q2=>?_⟩
 ·unfold ie;rw[aae (by omega),aae (by omega)]
 ·unfold ie;split
  ·exact⟨k+(m-a),by omega,by omega,rfl⟩
  ·split
   ·exact⟨k-(b-m),by omega,by omega,rfl⟩
   ·exact⟨k,by omega,by omega,rfl⟩
theorem EV {f:Nat->α×Nat}{a b i:Nat}(hi:a<i)(hb:i<=b)(hs:dE wt f (a+1) b)(hlo:Lo f a (a+1) b)(h1:∀h,a+1<=h->h<i->wt (f h).1<wt (f a).1)(h2:∀h,i<=h->h<b->wt (f a).1<=wt (f h).1):dE wt (mv f a (i-1)) a b:=by
 intro p q hp hpq hq;unfold mv;by_cases c1:p=i-1
 ·rw[aaf c1,aae (by omega),aae (by omega)];have x:=h2 q (by omega) hq;have y:=hlo a q (by omega) (by omega) (by omega) hq;unfold lx;omega
 ·rw[aae c1];by_cases c2:q=i-1
  ·rw[aaf c2,aaf (by omega)];have x:=h1 (p+1) (by omega) (by omega);unfold lx;omega
  ·rw[aae c2];by_cases c3:p<i-1
   ·rw[aaf (by omega)];by_cases c4:q<i-1
    ·rw[aaf (by omega)];exact hs _ _ (by omega) (by omega) (by omega)
    ·rw[aae (by omega)];exact hs _ _ (by omega) (by omega) (by omega)
   ·rw[aae (by omega),aae (by omega)];exact hs _ _ (by omega) (by omega) (by omega)
theorem sE {f:Nat->α×Nat}{a m i:Nat}(hi:a<=i)(hm:i<=m)(hs:dE wt f a m)(hlo:∀k,a<=k->k<m->(f k).2<(f m).2)(h1:∀h,a<=h->h<i->wt (f h).1<=wt (f m).1)(h2:∀h,i<=h->h<m->wt (f m).1<wt (f h).1):dE wt (ins f i m) a (m+1):=by
 intro p q hp hpq hq;unfold ins;by_cases c1:p=i
 ·rw[aaf c1,aae (by omega),aaf (by omega)];have x:=h2 (q-1) (by omega) (by omega);unfold lx;omega
 ·rw[aae c1];by_cases c2:q=i
  ·rw[aaf c2,aae (by omega)];have x:=h1 p (by omega) (by omega);have y:=hlo p (by omega) (by omega);unfold lx;omega
  ·rw[aae c2];by_cases c3:i<p
   ·rw[aaf (by omega),aaf (by omega)];exact hs _ _ (by omega) (by omega) (by omega)
   ·rw[aae (by omega)];by_cases c4:i<q
    ·rw[aaf (by omega)];exact hs _ _ (by omega) (by omega) (by omega)
    ·rw[aae (by omega)];exact hs _ _ (by omega) (by omega) (by omega)
theorem EW {f:Nat->α×Nat}{a m b s:Nat}(ha:a<=s)(hsm:s<=m)(hm:m<=(a+b)/2+m-s)(hb:(a+b)/2+m-s<=b)(hsl:s<=(a+b)/2+m)(s1:dE wt f a m)(s2:dE wt f m b)(hlo:Lo f a m b)(h1:∀c,a<=c->c<s->(a+b)/2+m-1-c<b->m<=(a+b)/2+m-1-c->wt (f c).1<=wt (f ((a+b)/2+m-1-c)).1)(h2:∀c,s<=c->c<m->m<=(a+b)/2+m-1-c->wt (f ((a+b)/2+m-1-c)).1<wt (f c).1): (∀i j,a<=i->i<(a+b)/2->(a+b)/2<=j->j<b->lx wt (ie f s m ((a+b)/2+m-s) i) (ie f s m ((a+b)/2+m-s) j)) /\ dE wt (ie f s m ((a+b)/2+m-s)) a s/\dE wt (ie f s m ((a+b)/2+m-s)) s ((a+b)/2)/\Lo (ie f s m ((a+b)/2+m-s)) a s ((a+b)/2) /\ dE wt (ie f s m ((a+b)/2+m-s)) ((a+b)/2) ((a+b)/2+m-s)/\dE wt (ie f s m ((a+b)/2+m-s)) ((a+b)/2+m-s) b/\Lo (ie f s m ((a+b)/2+m-s)) ((a+b)/2) ((a+b)/2+m-s) b:=by
 generalize hmid:(a+b)/2=mid at *;generalize he:mid+m-s=e at *;have r1:∀k,a<=k->k<s->ie f s m e k=f k:=fun k q1 q2=>by unfold ie;rw[aae (by omega),aae (by omega)]
 have r2:∀k,s<=k->k<mid->ie f s m e k=f (k+(m-s)):=fun k q1 q2=>by unfold ie;rw[aaf (by omega)]
 have r3:∀k,mid<=k->k<e->ie f s m e k=f (k-(e-m)):=fun k q1 q2=>by unfold ie;rw[aae (by omega),aaf (by omega)]
 have r4:∀k,e<=k->ie f s m e k=f k:=fun k q1=>by unfold ie;rw[aae (by omega),aae (by omega)]
 have Sc:∀i j,a<=i->i<m->m<=j->j<b->wt (f i).1<=wt (f j).1->lx wt (f i) (f j):=fun i j q1 q2 q3 q4 q5=>by
  have:=hlo i j q1 q2 q3 q4;unfold lx;omega
 have k1:∀i j,a<=i->i<s->e<=j->j<b->lx wt (f i) (f j):=by
  intro i j q1 q2 q3 q4
  have x:lx wt (f (s-1)) (f e):=by
   refine Sc _ _ (by omega) (by omega) (by omega) (by omega) ?_;have:=h1 (s-1) (by omega) (by omega) (by omega) (by omega)
   rwa [show mid+m-1-(s-1)=e from by omega]at this
  have y:lx wt (f i) (f e):=by
   by_cases c:i=s-1
   ·rw[c];exact x
   ·exact oT (s1 i (s-1) (by omega) (by omega) (by omega)) x
  by_cases c:j=e
  ·rw[c];exact y
  ·exact oT y (s2 e j (by omega) (by omega) q4)
 have k2:∀i j,m<=i->i<e->s<=j->j<m->lx wt (f i) (f j):=by
  intro i j q1 q2 q3 q4
  have x:lx wt (f (e-1)) (f s):=by
   have:=h2 s (by omega) (by omega) (by omega);rw[show mid+m-1-s=e-1 from by omega]at this;exact .inl this
  have y:lx wt (f i) (f s):=by
   by_cases c:i=e-1
   ·rw[c];exact x
   ·exact oT (s2 i (e-1) (by omega) (by omega) (by omega)) x
  by_cases c:j=s
  ·rw[c];exact y
  ·exact oT y (s1 s j (by omega) (by omega) q4)
 refine⟨?_,?_,?_,?_,?_,?_,?_⟩
 ·intro i j q1 q2 q3 q4;by_cases c1:i<s
  ·rw[r1 i q1 c1];by_cases c2:j<e
   ·rw[r3 j q3 c2];exact s1 _ _ q1 (by omega) (by omega)
   ·rw[r4 j (by omega)];exact k1 _ _ q1 c1 (by omega) q4
  ·rw[r2 i (by omega) q2];by_cases c2:j<e
   ·rw[r3 j q3 c2];exact k2 _ _ (by omega) (by omega) (by omega) (by omega)
   ·rw[r4 j (by omega)];exact s2 _ _ (by omega) (by omega) q4
 ·intro i j q1 q2 q3;rw[r1 i q1 (by omega),r1 j (by omega) q3];exact s1 _ _ q1 q2 (by omega)
 ·intro i j q1 q2 q3;rw[r2 i q1 (by omega),r2 j (by omega) q3];exact s2 _ _ (by omega) (by omega) (by omega)
 ·intro i j q1 q2 q3 q4;rw[r1 i q1 q2,r2 j q3 q4];exact hlo _ _ q1 (by omega) (by omega) (by omega)
 ·intro i j q1 q2 q3;rw[r3 i q1 (by omega),r3 j (by omega) q3];exact s1 _ _ (by omega) (by omega) (by omega)
 ·intro i j q1 q2 q3;rw[r4 i q1,r4 j (by omega)];exact s2 _ _ (by omega) q2 q3
 ·intro i j q1 q2 q3 q4;rw[r3 i q1 q2,r4 j q3];exact hlo _ _ (by omega) (by omega) (by omega) q4
theorem dE.halves {g h:Nat->α×Nat}{a c b:Nat}(hx:∀i j,a<=i->i<c->c<=j->j<b->lx wt (g i) (g j))(hl:dE wt h a c)(hr:dE wt h c b)(il:∀k,a<=k->k<c->∃l,a<=l/\l<c/\h k=g l)(ir:∀k,c<=k->k<b->∃l,c<=l/\l<b/\h k=g l):dE wt h a b:=by
 intro i j q1 q2 q3;by_cases c1:j<c
 ·exact hl i j q1 q2 c1
 ·by_cases c2:c<=i
  ·exact hr i j c2 q2 q3
  ·obtain⟨l,l1,l2,e⟩:=il i q1 (by omega);obtain⟨l',l3,l4,e'⟩:=ir j (by omega) q3;rw[e,e'];exact hx l l' l1 l2 l3 l4
end
section
variable {α:Type} {wt:α->Int}
def Gz (wt:α->Int)(n p:Nat)(f:Nat->α×Nat):Prop :=
 (∀i,i<n->(f i).2/p=i/p)/\∀i j,i<j->j<n->i/p=j/p->lx wt (f i) (f j)
def Mid (wt:α->Int)(n p q a:Nat)(f:Nat->α×Nat):Prop :=
 (∀i,i<n->i<a->(f i).2/q=i/q)/\(∀i,i<n->a<=i->(f i).2/p=i/p) /\
 (∀i j,i<j->j<n->j<a->i/q=j/q->lx wt (f i) (f j))/\∀i j,i<j->j<n->a<=i->i/p=j/p->lx wt (f i) (f j)
theorem Gz.ones (F:Nat->α)(n:Nat):Gz wt n 1 (fun k=>(F k,k)) :=
 ⟨fun i _=>rfl,fun i j h _ e=>by rw[Nat.div_one,Nat.div_one]at e;omega⟩
theorem Gz.mid {n p:Nat}{f:Nat->α×Nat}(h:Gz wt n p f)(q:Nat):Mid wt n p q 0 f :=
 ⟨fun _ _ h=>absurd h (abY _),fun i hi _=>h.1 i hi,fun _ _ _ _ h=>absurd h (abY _),fun i j h1 h2 _ e=>h.2 i j h1 h2 e⟩
theorem Mid.blk {n p q a:Nat}{f:Nat->α×Nat}(h:Mid wt n p q a f)(ha:n<=a):Gz wt n q f :=
 ⟨fun i hi=>h.1 i hi (by omega),fun i j h1 h2 e=>h.2.2.1 i j h1 h2 (by omega) e⟩
theorem Gz.all {n p:Nat}{f:Nat->α×Nat}(h:Gz wt n p f)(hp:n<=p):dE wt f 0 n :=
 fun i j _ h1 h2=>h.2 i j h1 h2 (by rw[abm (by omega),abm (by omega)])
theorem oh {q k i:Nat}(h1:k*q<=i)(h2:i<k*q+q):i/q=k:=by
 have hq:0<q:=by omega
 have a:=(Nat.le_div_iff_mul_le hq).2 h1;have b:=(Nat.div_lt_iff_lt_mul hq (x:=i) (y:=k+1)).2 (by rw[Nat.add_mul];omega);omega
theorem Mid.step {n p q r k:Nat}{f g:Nat->α×Nat}(hq:q=p*r)(hp:0<p)(hr:0<r)(h:Mid wt n p q (k*q) f){b:Nat}(hb:b=min (k*q+q) n)(hi:In f g (k*q) b)(hs:dE wt g (k*q) b):Mid wt n p q ((k+1)*q) g:=by
 obtain⟨h1,h2,h3,h4⟩:=h;have hq0:0<q:=by rw[hq];exact Nat.mul_pos hp hr
 rw[Nat.add_mul,Nat.one_mul];have up:∀x y,x/p=y/p->x/q=y/q:=fun x y e=>by rw[hq,<-Nat.div_div_eq_div_mul,<-Nat.div_div_eq_div_mul,e]
 refine⟨fun i q1 q2=>?_,fun i q1 q2=>?_,fun i j q1 q2 q3 q4=>?_,fun i j q1 q2 q3 q4=>?_⟩
 ·by_cases c:i<k*q
  ·rw[hi.1 i (.inl c)];exact h1 i q1 c
  ·obtain⟨l,l1,l2,e⟩:=hi.2 i (by omega) (by omega);rw[e,up _ _ (h2 l (by omega) l1),oh l1 (by omega),oh (by omega) q2]
 ·rw[hi.1 i (by omega)];exact h2 i q1 (by omega)
 ·by_cases c:j<k*q
  ·rw[hi.1 i (.inl (by omega)),hi.1 j (.inl c)];exact h3 i j q1 q2 c q4
  ·have e1:j/q=k:=oh (by omega) q3
   have e2:k*q<=i:=by
    rw[e1]at q4;have:=Nat.div_mul_le_self i q;rw[q4]at this;exact this
   exact hs i j e2 q1 (by omega)
 ·rw[hi.1 i (by omega),hi.1 j (by omega)];exact h4 i j q1 q2 (by omega) q4
theorem Mid.ask {n p k:Nat}{f:Nat->α×Nat}(h:Mid wt n p (2*p) (k*(2*p)) f){b:Nat}(hb:b=min (k*(2*p)+2*p) n)(hn:k*(2*p)+p<=n): dE wt f (k*(2*p)) (k*(2*p)+p)/\dE wt f (k*(2*p)+p) b/\Lo f (k*(2*p)) (k*(2*p)+p) b:=by
 obtain⟨_,h2,_,h4⟩:=h;have e:k*(2*p)=2*k*p:=by rw[<-aa0,aaV k 2]
 have e1:k*(2*p)+p=(2*k+1)*p:=by rw[Nat.add_mul,Nat.one_mul,e]
 have d1:∀i,k*(2*p)<=i->i<k*(2*p)+p->i/p=2*k:=fun i q1 q2=>oh (by omega) (by omega);have d2:∀i,k*(2*p)+p<=i->i<k*(2*p)+2*p->i/p=2*k+1:=fun i q1 q2=>oh (by omega) (by omega);refine⟨fun i j q1 q2 q3=>?_,fun i j q1 q2 q3=>?_,fun i j q1 q2 q3 q4=>?_⟩
 ·exact h4 i j q2 (by omega) q1 (by rw[d1 i q1 (by omega),d1 j (by omega) q3])
 ·exact h4 i j q2 (by omega) (by omega) (by rw[d2 i q1 (by omega),d2 j (by omega) (by omega)])
 ·have a:=h2 i (by omega) q1;have c:=h2 j (by omega) (by omega);rw[d1 i q1 q2]at a;rw[d2 j q3 (by omega)]at c;rcases aaL (f i).2 (f j).2 with x|x
  ·exact x
  ·have:=Nat.div_le_div_right (c:=p) x;omega
theorem EX {F:Nat->α}{n:Nat}{g:Nat->α×Nat}(hp:fL n g (fun k=>(F k,k)))(hs:dE wt g 0 n):Stable wt ((List.range n).map F) ((List.range n).map (fun k=>(g k).1)):=by
 refine⟨(List.range n).map g,?_,?_,?_⟩
 ·have e:((List.range n).map F).zipIdx=(List.range n).map (fun k=>(F k,k)):=by
   apply abt
   ·simp
   ·intro k _ _;simp
  rw[e];exact hp
 ·rw[List.pairwise_iff_getElem];intro i j hi hj hij;simp only[abL,abP];exact hs i j (aaj _) hij (by simpa using hj)
 ·rw[List.map_map];rfl
theorem vB {f:Nat->α×Nat}{a m i:Nat}(hi:a<=i)(hm:i<=m)(hs:dE wt f a m)(hlo:∀k,a<=k->k<m->(f k).2<(f m).2)(h1:i=a\/wt (f (i-1)).1<=wt (f m).1)(h2:∀h,i<=h->h<m->wt (f m).1<wt (f h).1):dE wt (ins f i m) a (m+1):=by
 refine sE hi hm hs hlo (fun h q1 q2=>?_) h2;rcases h1 with h1|h1
 ·omega
 ·by_cases c:h=i-1
  ·rw[c];exact h1
  ·have:=hs h (i-1) q1 (by omega) (by omega);unfold lx at this;omega
end
end Go.Proofs.YtmfijackgekioaaGreatDoor.Rf
