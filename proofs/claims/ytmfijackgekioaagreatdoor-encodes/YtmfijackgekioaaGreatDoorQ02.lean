import Derived.Test.YtmfijackgekioaaGreatDoorQ01
import Derived.Laws.BitsAllLaws
set_option maxHeartbeats 400000
set_option maxRecDepth 100000
namespace Go.Proofs.YtmfijackgekioaaGreatDoor
open Go.RowKit
theorem Kp.set1 {B:Nat}{a w:World}(h:Kp (·=B) a w)(j:Nat)(u:Value):Kp (·=B) a (w.setCell ⟨B,j,none⟩ u):=h.setCell (p:=⟨B,j,none⟩) (.inl rfl) u
abbrev bG (c:UInt8):Value:=.int .u8 c.toNat
theorem u9 (k:Nat)(h:k<16):(1:Int)<=2^k/\(2:Int)^k<=32768:=by
 have h1:(2:Nat)^0<=2^k:=aa2 (by omega) (by omega);have h2:(2:Nat)^k<=2^15:=aa2 (by omega) (by omega);have e:((2:Int)^k)=((2^k:Nat):Int):=by simp
 rw[e];omega
theorem iE (n:Nat)(hn:n<=320)(Z:List Value)(hZ:Z=List.replicate n (.int .i64 0))(u:World): (Instr.makeSlice 24 (.int .i64 (n:Int)) (.int .i64 (n:Int))).run Tryz.prog u = .ok (.slice (some ⟨u.heap.size,0,none⟩) n n) (u.alloc (.cells Z.toArray 3)):=by
 obtain⟨i0,hi,hz0,hz1,hz2⟩:=aaX Tryz.info3;have h:=run_make (P:=Tryz.prog) u 24 3 i0 (.int .i64 0) Tryz.underlying24 hi hz0 .i64 .i64 (n:Int) (n:Int) (by omega) (abj _) (by rw[hz2];omega) (by omega)
 have e2:(madeCells #[Value.int .i64 0] n)=Z.toArray:=by
  rw[hZ,<-ab7]
 simpa[hz1,Value.cells,e2]using h
theorem aX (n:Nat):vals (List.replicate n 0)=List.replicate n (.int .i64 0):=by simp[vals]
theorem yC (l:List Int)(i:Nat)(x:Int):(vals l).toArray.setIfInBounds i (.int .i64 x)=(vals (l.set i x)).toArray:=by simp[vals,List.map_set]
structure Apart (w:World) (B:Nat) (ao:Option Addr) (ls:List Int):Prop where
 ints:Ints w ao ls
 ne:∀a,ao=some a->ls≠[]->a.block≠B/\a.block<w.heap.size
theorem CO (m:Nat):((2:Int)^(m+1))=2*2^m:=by rw[Int.pow_succ];omega
structure Fr (B:Nat) (w w':World):Prop where
 below:Below B w w'
 other:∀k,B<k->k<w.heap.size->(∀c fr,w.heap[k]?≠some (.cells c 5 fr))->w'.heap[k]?=w.heap[k]?
theorem Fr.refl (B:Nat)(w:World):Fr B w w:=⟨aak _ _,fun _ _ _ _=>rfl⟩
theorem Fr.trans {B:Nat}{a b c:World}(h:Fr B a b)(k:Fr B b c):Fr B a c :=
 ⟨h.below.trans k.below,fun i h1 h2 h3=>by
  have e:=h.other i h1 h2 h3
  exact (k.other i h1 (aar h2 h.below.size) (fun c fr=>by rw[e];exact h3 c fr)).trans e⟩
theorem Fr.fW {B:Nat}{w w':World}(hB:B<=w.heap.size)(h:Kp (·=B) w w'):Fr B w w' :=
 ⟨h.below hB (fun _ _ e=>Nat.le_of_eq e.symm),fun k h1 h2 _=>h.block k h2 (Nat.ne_of_gt h1)⟩
theorem Fr.drewN {B:Nat}{a w:World}(h:Fr B a w)(n:Nat):Fr B a (w.drewN n):=⟨aap h.below n,h.other⟩
theorem eU {w:World}{base e n:Nat}{v:Value}{xs:List Value}(h:w.ownsRow base e 1 v n xs)(g:Nat)(hg:v.ownBlock=some g):∃cur,w.heap[g]?=some (.cells cur e (0,0)):=by
 rcases h.2 with⟨rfl,_⟩|⟨g',cap,cur,rfl,hb,hg',_⟩
 ·simp[Value.ownBlock]at hg
 ·simp[Value.ownBlock]at hg;subst hg;exact⟨cur,hg'⟩
theorem Tryz.info5:(Tryz.prog.info? 5).map (fun i=>(i.zero,i.size,i.bytes))=some (some (.int .u8 0),1,1):=by kernel_rfl
theorem byte_of (k:Int)(h:0<=k/\k<256):bG (UInt8.ofNat k.toNat)=.int .u8 k:=by
 have:((UInt8.ofNat k.toNat).toNat:Int)=k:=by
  rw[acq];omega
 simp only[bG,this]
def aR (w:World)(g:Nat)(zs:List Int):Prop:=w.heap[g]?=some (.cells (vals zs).toArray 3 (0,0))
theorem aR.ints {w:World}{g:Nat}{zs:List Int}(h:aR w g zs):Ints w (some ⟨g,0,none⟩) zs :=
 fun j hj=>⟨g,0,rfl,(aan _ _ _ _ _ _ h).trans (by simp[vals,hj])⟩
theorem aR.set {w:World}{g:Nat}{zs:List Int}(h:aR w g zs)(i:Nat)(x:Int):aR (w.setCell ⟨g,i,none⟩ (.int .i64 x)) g (zs.set i x) :=
 (aat _ _ _ _ _ _ h).trans (by rw[yC])
abbrev part (n k:Nat)(f:Nat->Int):List Int:=(List.range n).map fun i=>if i<k then f i else 0
theorem oL (n k:Nat)(f:Nat->Int):(part n k f).set k (f k)=part n (k+1) f:=by
 apply abt
 ·simp
 ·intro i h1 h2;simp only[List.getElem_set,abL,abP];by_cases e:k=i
  ·subst e;simp
  ·rw[aae e];by_cases h:i<k
   ·rw[aaf h,aaf (by omega)]
   ·rw[aae h,aae (by omega)]
theorem mY (n:Nat)(f:Nat->Int):part n 0 f=List.replicate n 0:=by
 apply abt<;>simp
theorem oM (n:Nat)(f:Nat->Int):part n n f=(List.range n).map f:=by
 apply abn;intro i hi;rw[aaf (List.mem_range.1 hi)]
theorem aR.cell {w:World}{g:Nat}{zs:List Int}(h:aR w g zs)(j:Nat)(hj:j<zs.length):w.cell? ⟨g,j,none⟩=some (.int .i64 zs[j]):=(aan _ _ _ _ _ _ h).trans (by simp[vals,hj])
theorem mZ {w w':World}{base e n:Nat}{v:Value}{xs:List Value}(h:w.ownsRow base e 1 v n xs)(hb:∀g,v.ownBlock=some g->w'.heap[g]?=w.heap[g]?):w'.ownsRow base e 1 v n xs:=by
 refine⟨h.1,?_⟩;rcases h.2 with h'|⟨g,cap,cur,rfl,hb',hg,hr⟩
 ·exact .inl h'
 ·exact .inr ⟨g,cap,cur,rfl,hb',(hb g rfl).trans hg,hr⟩
def GX:Value->Nat|.slice _ n _=>n|_=>0
theorem rT {w:World}{base e n:Nat}{v:Value}{xs:List Value}(h:w.ownsRow base e 1 v n xs)(hn:0<n): ∃g cap,v=.slice (some ⟨g,0,none⟩) n cap/\base<=g:=by
 rcases h.2 with⟨_,hx⟩|⟨g,cap,cur,rfl,hb,_⟩
 ·omega
 ·exact⟨g,cap,rfl,hb⟩
theorem yD {w:World}{base base' e n:Nat}{v:Value}{xs:List Value}(h:w.ownsRow base e 1 v n xs)(hb:base'<=base):w.ownsRow base' e 1 v n xs:=by
 refine⟨h.1,?_⟩;rcases h.2 with h'|⟨g,cap,cur,rfl,hb',hr⟩
 ·exact .inl h'
 ·exact .inr ⟨g,cap,cur,rfl,aaz hb hb',hr⟩
theorem KY (st:Rf.St)(h:st.bad=true):({ st with bad:=true }:Rf.St)=st:=by cases st;simp_all
theorem m7 (out:List Int)(k:Nat)(x:Int):vals (out++List.replicate (k+1) x)=vals (out++List.replicate k x)++[Value.int .i64 x]:=by
 simp[vals,List.replicate_succ']
structure wH (w:World) (B:Nat) (ao:Option Addr) (ls:List Int):Prop where
 ints:Ints w ao ls
 ne:∀a,ao=some a->ls≠[]->a.block≠B/\∃c fr,w.heap[a.block]?=some (.cells c 3 fr)
theorem wH.apart {w:World}{B:Nat}{ao:Option Addr}{ls:List Int}(h:wH w B ao ls):Apart w B ao ls :=
 ⟨h.ints,fun a e e2=>⟨(h.ne a e e2).1,by obtain⟨_,c,fr,q⟩:=h.ne a e e2;exact aab q⟩⟩
theorem wH.later {w w':World}{B:Nat}{ao:Option Addr}{ls:List Int}(h:wH w B ao ls)(hf:Fr B w w'):wH w' B ao ls:=by
 have key:∀a,ao=some a->ls≠[]->w'.heap[a.block]?=w.heap[a.block]?:=by
  intro a e e2;obtain⟨hne,c,fr,q⟩:=h.ne a e e2;by_cases hlt:a.block<B
  ·exact hf.below.block _ hlt
  ·exact hf.other _ (by omega) (aab q) (fun c' fr'=>by rw[q];simp)
 refine⟨fun j hj=>?_,fun a e e2=>?_⟩
 ·obtain⟨b,off,rfl,hc⟩:=h.ints j hj;have hk:=key ⟨b,off,none⟩ rfl (ne_of_lt hj);exact⟨b,off,rfl,(aaT (w:=w) (a:=⟨b,off+j,none⟩) hk).trans hc⟩
 ·obtain⟨hne,c,fr,q⟩:=h.ne a e e2;exact⟨hne,c,fr,(key a e e2).trans q⟩
theorem wH.va {w:World}{B g:Nat}{ls:List Int}(h:aR w g ls)(hg:g≠B):wH w B (some ⟨g,0,none⟩) ls :=
 ⟨h.ints,fun a e _=>by cases e;exact⟨hg,_,_,h⟩⟩
theorem Fr.aJ {B:Nat}{w w':World}(h:Below w.heap.size w w')(hB:B<=w.heap.size):Fr B w w' :=
 ⟨h.mono hB,fun k _ h2 _=>h.block k h2⟩
theorem hidden {p:Prop}(h:p):Hid p:=h
theorem oN {w:World}{base n g cap:Nat}{zs:List Int}(h:w.ownsRow base 3 1 (.slice (some ⟨g,0,none⟩) n cap) n (vals zs))(j:Nat)(hj:j<zs.length):w.cell? ⟨g,j,none⟩=some (.int .i64 zs[j]):=by
 have hl:=h.1;rcases h.2 with⟨h',_⟩|⟨g',cap',cur,e,_,hb,_,_,_,ht⟩
 ·cases h'
 ·cases e;rw[aan _ _ _ _ _ _ hb];have h1:(cur.toList.take (n*1))[j]?=cur.toList[j]?:=by rw[abx,aaf (by simp[vals]at hl;omega)]
  rw[ht]at h1;have h2:cur[j]?=cur.toList[j]?:=by simp
  rw[h2,<-h1];simp[vals,hj]
theorem KZ {w:World}{base n g cap B:Nat}{zs:List Int}(h:w.ownsRow base 3 1 (.slice (some ⟨g,0,none⟩) n cap) n (vals zs))(hg:g≠B)(m:Nat): wH w B (some ⟨g,0,none⟩) (zs.take m)/\wH w B (some ⟨g,m,none⟩) (zs.drop m):=by
 obtain⟨cur,hb⟩:=eU h g rfl;refine⟨⟨fun j hj=>⟨g,0,rfl,?_⟩,fun a e _=>by cases e;exact⟨hg,_,_,hb⟩⟩,⟨fun j hj=>⟨g,m,rfl,?_⟩,fun a e _=>by cases e;exact⟨hg,_,_,hb⟩⟩⟩
 ·have hj':j<zs.length:=by simp at hj;omega
  have:=oN h j hj';simpa using this
 ·have hj':m+j<zs.length:=by simp at hj;omega
  have:=oN h (m+j) hj';simpa using this
theorem K0 {w:World}{base n g cap:Nat}{xs:List Value}(h:w.ownsRow base 3 1 (.slice (some ⟨g,0,none⟩) n cap) n xs):n<=cap/\cap<=maxLen/\g<w.heap.size:=by
 rcases h.2 with⟨h',_⟩|⟨g',cap',cur,e,_,hb,h1,h2,_⟩
 ·cases h'
 ·cases e;exact⟨h1,h2,aab hb⟩
theorem wI (L ls cd:List Int)(n:Nat):∀(f:Nat) (out:List Int) (st:Rf.St),(Rf.oJ L ls cd n f out st).2.out=st.out/\st.pos<=(Rf.oJ L ls cd n f out st).2.pos
 | 0,_,_=>⟨rfl,aad _⟩
 | f+1,out,st=>by
  have h1:=(Rf.fp L ls cd st).1;have h2:=Rf.lC L ls cd st;have t:∀k,(Rf.take L (Rf.symbol L ls cd st).2 k).2.out=st.out/\st.pos<=(Rf.take L (Rf.symbol L ls cd st).2 k).2.pos:=fun k=>⟨((Rf.bY L _ k).1).trans h1,aaz h2 (Rf.dN L _ k)⟩
  have c:∀o s,s.out=st.out/\st.pos<=s.pos->(Rf.oJ L ls cd n f o s).2.out=st.out/\st.pos<=(Rf.oJ L ls cd n f o s).2.pos:=fun o s hs=>⟨(wI L ls cd n f o s).1.trans hs.1,aaz hs.2 (wI L ls cd n f o s).2⟩
  simp only[Rf.oJ];split
  ·exact⟨rfl,aad _⟩
  ·split
   ·exact⟨h1,h2⟩
   ·split
    ·exact c _ _ ⟨h1,h2⟩
    ·split
     ·split
      ·exact t 2
      ·exact c _ _ (t 2)
     ·split
      ·exact c _ _ (t 3)
      ·exact c _ _ (t 7)
theorem rU (L ls:List Int)(n:Nat)(st:Rf.St):(Rf.listed L ls n st).2.out=st.out/\st.pos<=(Rf.listed L ls n st).2.pos:=by
 have h:=wI L ls (Rf.codes ls) n (n+1) [] st;unfold Rf.listed;simp only;split
 ·exact h
 ·exact h
end Go.Proofs.YtmfijackgekioaaGreatDoor
namespace Go.Proofs.YtmfijackgekioaaGreatDoor.Rf
def block (L:List Int)(limit:Int)(k:Int)(st:St):St :=
 if k=0 then plain L limit st else if k=1 then symbols L limit bE jl st else if k=2 then own L limit st else { st with bad:=true }
def nH (L:List Int)(limit:Int):Nat->Int->St->St
 | 0,_,st=>st
 | f+1,last,st =>
  if last≠0\/(st.bad||st.full)=true then st else
  let a:=take L st 1
  let k:=take L a.2 2
  if k.2.bad=true then k.2 else
  nH L limit f a.1 (block L limit k.1 { k.2 with kinds:=k.2.kinds++[k.1] })
def inflate (L:List Int)(limit:Int):St:=nH L limit (L.length+2) 0 ⟨0,false,false,[],[]⟩
def Grow (a b:St):Prop:=a.pos<=b.pos/\b.out.length+258*a.pos<=a.out.length+258*b.pos
theorem Grow.refl (a:St):Grow a a:=⟨aad _,aad _⟩
theorem Grow.trans {a b c:St}(h:Grow a b)(k:Grow b c):Grow a c:=⟨aaz h.1 k.1,by have:=h.2;have:=k.2;omega⟩
theorem Grow.same {a b:St}(h:b.out=a.out)(hp:a.pos<=b.pos):Grow a b:=⟨hp,by rw[h];omega⟩
theorem dO (L:List Int)(st:St)(n:Nat):Grow st (take L st n).2:=.same (bY L st n).1 (dN L st n)
theorem yF (L ls cd:List Int)(st:St):Grow st (symbol L ls cd st).2:=.same (fp L ls cd st).1 (lC L ls cd st)
theorem GY (L:List Int):∀(f:Nat) (st:St),st.pos<=(yu L f st).pos/\(yu L f st).out.length+st.pos<=st.out.length+(yu L f st).pos+1/\(st.bad=true->yu L f st=st)
 | 0,st=>⟨aad _,by simp only[yu];omega,fun _=>rfl⟩
 | f+1,st=>by
  rw[yu];split
  ·exact⟨aad _,by omega,fun _=>rfl⟩
  ·rename_i hb;have ih:=GY L f { (take L st 8).2 with out:=(take L st 8).2.out++[UInt8.ofNat (take L st 8).1.toNat] };have ho:=(bY L st 8).1;have hm:=dN L st 8;have hl:((take L st 8).2.out++[UInt8.ofNat (take L st 8).1.toNat]).length=st.out.length+1:=by rw[ho];simp
   cases GZ:(take L st 8).2.bad
   ·have hp:=(gH L st 8 GZ).1;have i1:=ih.1;have i2:=ih.2.1;simp only at i1 i2 ⊢;rw[hl]at i2;exact⟨by omega,by omega,fun h=>absurd h hb⟩
   ·have i3:=ih.2.2 GZ;simp only at i3 ⊢;rw[i3];simp only;rw[hl];exact⟨hm,by omega,fun h=>absurd h hb⟩
theorem AW (L:List Int)(limit:Int)(st:St):Grow st (plain L limit st):=by
 have g1:=dO L { st with pos:=(st.pos+7)/8*8 } 16;have g0:Grow st { st with pos:=(st.pos+7)/8*8 }:=.same rfl (by simp only;omega);have b1:=gH L { st with pos:=(st.pos+7)/8*8 } 16;unfold plain;simp only;generalize take L { st with pos:=(st.pos+7)/8*8 } 16=A at *;have g2:=dO L A.2 16;have b2:=gH L A.2 16;have o2:=(bY L A.2 16).1;generalize take L A.2 16=C at *;have g:=(g0.trans g1).trans g2;by_cases hs:A.1+C.1=65535
 ·simp only[aaf hs];split
  ·exact g
  ·rename_i hb;have hc:C.2.bad=false:=by cases h:C.2.bad<;>simp_all
   have p2:=(b2 hc).1;have h5:=iC limit C.2 A.1.toNat;generalize room limit C.2 A.1.toNat=R at *;have gR:Grow C.2 R.2:=.same h5.1 (by rw[h5.2.2.1];omega);split
   ·have hp:=GY L A.1.toNat R.2;have e1:=h5.2.2.1;have gg:=g.trans gR;refine⟨by have:=gg.1;omega,?_⟩;have h1:=(g0.trans g1).2;have h2:=(g0.trans g1).1;have h3:=hp.2.1;have h4:R.2.out.length=A.2.out.length:=by rw[h5.1,o2]
    have h6:=hp.1;omega
   ·exact g.trans gR
 ·simp only[aae hs,if_true];exact g
theorem rV {L:List Int}(hb:Bits L)(limit:Int)(ls cd far uY:List Int):∀(f:Nat) (st:St),Grow st (eO L limit ls cd far uY f st)
 | 0,st=>.refl st
 | f+1,st=>by
  have g:=yF L ls cd st;rw[eO];split
  ·exact .refl st
  ·split
   ·exact g
   ·rename_i hx;have hbs:(symbol L ls cd st).2.bad=false:=by cases h:(symbol L ls cd st).2.bad<;>simp_all
    have hp:=rR L ls cd st hbs;have ho:=(fp L ls cd st).1;have h5:=iC limit (symbol L ls cd st).2 1
    have c:∀s:St,(symbol L ls cd st).2.pos<=s.pos/\s.out.length<=(symbol L ls cd st).2.out.length+258->Grow st (eO L limit ls cd far uY f s):=fun s hs =>
     Grow.trans ⟨by omega,by rw[ho]at hs;omega⟩ (rV hb limit ls cd far uY f s)
    split
    ·apply c;split
     ·simp only;rw[h5.2.2.1,aac,h5.1];simp
     ·rw[h5.2.2.1,h5.1];omega
    ·split
     ·apply c;simp only;omega
     ·rename_i h1 h2;exact c _ (uZ hb limit _ (by omega) far uY _)
theorem oO {L:List Int}(hb:Bits L)(limit:Int)(ls far:List Int)(st:St):Grow st (symbols L limit ls far st):=rV hb limit _ _ _ _ _ st
theorem vb (L:List Int):∀(f i:Nat) (ls:List Int) (st:St),Grow st (jX L f i ls st).2
 | 0,_,_,st=>.refl st
 | f+1,i,ls,st=>by
  rw[jX];split
  ·exact .refl st
  ·exact (dO L st 3).trans (vb L f _ _ _)
theorem G0 {L:List Int}(hb:Bits L)(limit:Int)(st:St):Grow st (own L limit st):=by
 unfold own;simp only;have g:=((dO L st 5).trans (dO L (take L st 5).2 5)).trans (dO L (take L (take L st 5).2 5).2 4);generalize take L (take L (take L st 5).2 5).2 4=K at *;have g2:=g.trans (vb L (K.1.toNat+4) 0 (List.replicate 19 0) K.2);generalize jX L (K.1.toNat+4) 0 (List.replicate 19 0) K.2=Q at *;split
 ·exact g2
 ·generalize ((take L st 5).1+(take L (take L st 5).2 5).1+258).toNat=n;have hl:=rU L Q.1 n Q.2;have g3:=g2.trans (Grow.same hl.1 hl.2);split
  ·exact g3
  ·split
   ·exact g3
   ·exact g3.trans (oO hb limit _ _ _)
theorem rW {L:List Int}(hb:Bits L)(limit k:Int)(st:St):Grow st (block L limit k st):=by
 unfold block;split
 ·exact AW L limit st
 ·split
  ·exact oO hb limit _ _ st
  ·split
   ·exact G0 hb limit st
   ·exact .refl st
theorem bC (L:List Int)(st:St)(n:Nat):(take L st n).2.kinds=st.kinds:=(bY L st n).2.1
theorem j0 (L ls cd:List Int)(st:St):(symbol L ls cd st).2.kinds=st.kinds:=(fp L ls cd st).2.1
theorem ob (limit:Int)(st:St)(n:Nat):(room limit st n).2.kinds=st.kinds:=(iC limit st n).2.1
theorem yG (L:List Int)(i:Nat)(st:St):(lenOf L i st).2.kinds=st.kinds:=by
 unfold lenOf;repeat' split
 all_goals first|rfl|exact bC L st _
theorem wJ (L:List Int)(j:Nat)(st:St):(cg L j st).2.kinds=st.kinds:=by
 unfold cg;repeat' split
 all_goals first|rfl|exact bC L st _
theorem wK (L:List Int)(limit:Int)(i:Nat)(far code:List Int)(st:St):(copied L limit i far code st).kinds=st.kinds:=by
 have h1:=yG L i st;unfold copied;generalize lenOf L i st=A at *;have h2:=j0 L far code A.2;generalize symbol L far code A.2=S at *;have h3:=wJ L S.1.toNat S.2;generalize cg L S.1.toNat S.2=D at *;have h4:=ob limit D.2 A.1;generalize room limit D.2 A.1=R at *
 repeat' split
 all_goals simp only[h1,h2,h3,h4]
theorem vd (L:List Int):∀(f:Nat) (st:St),(yu L f st).kinds=st.kinds
 | 0,_=>rfl
 | f+1,st=>by
  rw[yu];split
  ·rfl
  ·exact (vd L f _).trans (bC L st 8)
theorem yH (L:List Int)(limit:Int)(st:St):(plain L limit st).kinds=st.kinds:=by
 have h1:=bC L { st with pos:=(st.pos+7)/8*8 } 16;unfold plain;simp only;generalize take L { st with pos:=(st.pos+7)/8*8 } 16=A at *;have h2:=bC L A.2 16;generalize take L A.2 16=C at *;by_cases hs:A.1+C.1=65535
 ·simp only[aaf hs];have h4:=ob limit C.2 A.1.toNat;generalize room limit C.2 A.1.toNat=R at *
  repeat' split
  ·rw[h2,h1]
  ·rw[vd,h4,h2,h1]
  ·rw[h4,h2,h1]
 ·simp only[aae hs,if_true];rw[h2,h1]
theorem gI (L:List Int)(limit:Int)(ls cd far uY:List Int):∀(f:Nat) (st:St),(eO L limit ls cd far uY f st).kinds=st.kinds
 | 0,_=>rfl
 | f+1,st=>by
  have h1:=j0 L ls cd st;have h2:=ob limit (symbol L ls cd st).2 1;rw[eO];split
  ·rfl
  ·split
   ·exact h1
   ·split
    ·rw[gI L limit ls cd far uY f];split
     ·exact h2.trans h1
     ·exact h2.trans h1
    ·split
     ·exact (gI L limit ls cd far uY f _).trans h1
     ·exact ((gI L limit ls cd far uY f _).trans (wK L limit _ far uY _)).trans h1
theorem jF (L ls cd:List Int)(n:Nat):∀(f:Nat) (out:List Int) (st:St),(oJ L ls cd n f out st).2.kinds=st.kinds
 | 0,_,_=>rfl
 | f+1,out,st=>by
  have h1:=j0 L ls cd st;have t:∀k,(take L (symbol L ls cd st).2 k).2.kinds=st.kinds:=fun k=>(bC L _ k).trans h1;simp only[oJ];split
  ·rfl
  ·split
   ·exact h1
   ·split
    ·exact (jF L ls cd n f _ _).trans h1
    ·split
     ·split
      ·exact t 2
      ·exact (jF L ls cd n f _ _).trans (t 2)
     ·split
      ·exact (jF L ls cd n f _ _).trans (t 3)
      ·exact (jF L ls cd n f _ _).trans (t 7)
theorem wL (L ls:List Int)(n:Nat)(st:St):(listed L ls n st).2.kinds=st.kinds:=by
 have h:=jF L ls (codes ls) n (n+1) [] st;unfold listed;simp only;split
 ·exact h
 ·exact h
theorem rX (L:List Int):∀(f i:Nat) (ls:List Int) (st:St),(jX L f i ls st).2.kinds=st.kinds
 | 0,_,_,_=>rfl
 | f+1,i,ls,st=>by
  rw[jX];split
  ·rfl
  ·exact (rX L f _ _ _).trans (bC L st 3)
theorem Ep (L:List Int)(limit:Int)(st:St):(own L limit st).kinds=st.kinds:=by
 unfold own;simp only;have g:(take L (take L (take L st 5).2 5).2 4).2.kinds=st.kinds:=by rw[bC,bC,bC]
 generalize take L (take L (take L st 5).2 5).2 4=K at *;have g2:=(rX L (K.1.toNat+4) 0 (List.replicate 19 0) K.2).trans g;generalize jX L (K.1.toNat+4) 0 (List.replicate 19 0) K.2=Q at *;split
 ·exact g2
 ·generalize ((take L st 5).1+(take L (take L st 5).2 5).1+258).toNat=n;have g3:=(wL L Q.1 n Q.2).trans g2;split
  ·exact g3
  ·split
   ·exact g3
   ·exact (gI L limit _ _ _ _ _ _).trans g3
theorem qC (L:List Int)(limit k:Int)(st:St):(block L limit k st).kinds=st.kinds:=by
 unfold block;split
 ·exact yH L limit st
 ·split
  ·exact gI L limit _ _ _ _ _ st
  ·split
   ·exact Ep L limit st
   ·rfl
end Go.Proofs.YtmfijackgekioaaGreatDoor.Rf
namespace Go.Proofs.YtmfijackgekioaaGreatDoor
open Go.RowKit
theorem G4 (x:Nat)(h:x<4294967296):bits .xor .u32 ((x:Int)/2) (3988292384*bits .and .u32 (x:Int) 1%4294967296)=((Mx.AF x:Nat):Int):=by
 have e1:bits .and .u32 (x:Int) 1=((x%2:Nat):Int):=by
  have:=u32_and_nat x 1 h (by omega);rw[Nat.and_one_is_mod]at this;exact this
 rw[e1];have e2:(3988292384*((x%2:Nat):Int)%4294967296)=((3988292384*(x%2):Nat):Int):=by omega
 have e3:((x:Int)/2)=((x/2:Nat):Int):=by omega
 rw[e2,e3,u32_xor_nat _ _ (by omega) (by omega)];rfl
theorem G5 (x:Nat)(h:x<4294967296):bits .xor .u32 IntKind.u32.max (x:Int)=4294967295-(x:Int):=by
 have e:IntKind.u32.max=((4294967295:Nat):Int):=by decide
 rw[e,u32_xor_nat _ _ (by omega) h]
 have h2:4294967295^^^x=4294967295-x:=by
  apply Nat.eq_of_testBit_eq;intro i;have a:=Nat.testBit_two_pow_sub_one 32 i;have b:=Nat.testBit_two_pow_sub_succ (n:=32) (x:=x) (by omega) i;rw[show 2^32-1=4294967295 from rfl]at a;rw[show 2^32-(x+1)=4294967295-x by omega]at b;rw[Nat.testBit_xor,a,b];by_cases hi:i<32
  ·simp[hi]
  ·have:x.testBit i=false:=Nat.testBit_lt_two_pow (aar (m:=2^32) (by omega) (aa2 (by omega) (by omega)));simp[hi,this]
 rw[h2];omega
theorem Wo (s:ByteArray)(w:World)(hs:s.size<=maxLen): Calls Tryz.prog 106 #[.string s] w fun e w'=>e=.returned (.int .i64 (4294967295-(Mx.kZ s.data.toList:Int)))/\w'=w:=by
 unfold maxLen at hs
 go_enter Tryz.func106,Tryz.ntmps106
 go_wp2
 go_loop [3,8] (fun x i=>∃k:Nat,k<=s.size/\i=.int .i64 k/\x=.int .u32 (Mx.kZ (s.data.toList.take k):Nat)) (fun _ i=>s.size-(intOf i).toNat)
 case atStart=>exact⟨0,aaj _,rfl,rfl⟩
 case round =>
  obtain⟨k,hk,rfl,rfl⟩:=hrel;have hr:=Mx.wE (s.data.toList.take k);by_cases hlt:k<s.size
  ·have HS:Hid (Mx.kZ (s.data.toList.take (k+1))=Mx.fV 8 (Mx.kZ (s.data.toList.take k)^^^s[k].toNat)):=by rw[Mx.fU s k hlt];exact Mx.Eo _ _
   have hc:(s[k].toNat:Int)<256:=by have:=s[k].toNat_lt;omega
   have e1:bits .xor .u32 (Mx.kZ (s.data.toList.take k):Int) (s[k].toNat:Int)=((Mx.kZ (s.data.toList.take k)^^^s[k].toNat:Nat):Int):=u32_xor_nat _ _ hr (by omega);have hq0:=Mx.GU _ s[k].toNat hr (by omega);generalize Mx.kZ (s.data.toList.take k)^^^s[k].toNat=q at *;go_wp2
   go_loop [3,17] (fun x i=>∃t:Nat,t<=8/\i=.int .i64 t/\x=.int .u32 (Mx.fV t q:Nat)) (fun _ i=>8-(intOf i).toNat)
   case atStart=>exact⟨0,aaj _,rfl,rfl⟩
   case round =>
    obtain⟨t,ht,rfl,rfl⟩:=hrel;have hq:=Mx.CN t q hq0;by_cases hlt':t<8
    ·go_wp2
     go_round
     case rel=>exact⟨t+1,by omega,by go_num,by rw[G4 _ hq];rfl⟩
     case measure=>simp[intOf];omega
    ·have Wp:t=8:=by omega
     subst Wp;go_wp2
     go_round
     case rel=>exact⟨k+1,by omega,by go_num,by rw[HS.out]⟩
     case measure=>simp[intOf];omega
  ·go_wp2
   go_ret
   refine⟨aC ?_,rfl⟩;rw[G5 _ hr,aav (by simp;omega)];rw[aav (by simp;omega)]at hr;exact abM _ (by omega)
theorem Er (n:Int):bits .and .i64 n 1=n%2:=by
 have h1:(BitVec.ofInt 64 1).toNat=2^1-1:=by decide
 have key:(BitVec.ofInt 64 n&&&BitVec.ofInt 64 1).toNat=(n%((2^64:Nat):Int)).toNat%2^1:=by
  rw[BitVec.toNat_and,BitVec.toNat_ofInt,h1,Nat.and_two_pow_sub_one_eq_mod]
 show IntKind.i64.wrap ((BitVec.ofInt 64 n&&&BitVec.ofInt 64 1).toNat:Nat)=n%2;rw[key,IntKind.wrap_i64];omega
theorem rY (a j:Nat):bits .and .i64 ((a:Int)/2^j) 1=((a/2^j%2:Nat):Int):=by
 rw[Er];simp
theorem RN (s:ByteArray)(w:World)(hs:s.size<=60000000): Calls Tryz.prog 77 #[.string s] w fun e w'=>∃v,e=.returned v/\w'.ownsRow w.heap.size 3 1 v (8*s.size) ((Mx.low s.data.toList).map (Value.int .i64))/\Below w.heap.size w w':=by
 obtain⟨i0,hi,hz0,hz1,hz2⟩:=aaX Tryz.info3
 go_enter Tryz.func77,Tryz.ntmps77
 go_wp2
 go_loopw [3,4] (fun v i wr=>∃k:Nat,k<=s.size/\i=.int .i64 k/\wr.ownsRow w.heap.size 3 1 v (8*k) ((Mx.low (s.data.toList.take k)).map (Value.int .i64))/\Below w.heap.size w wr) (fun _ i _=>s.size-(intOf i).toNat)
 case atStart=>exact⟨0,aaj _,rfl,aba _ _ _ _,aak _ _⟩
 case round =>
  obtain⟨k,hk,rfl,hown,hnx⟩:=hrel;by_cases hlt:k<s.size
  ·have hc:(s[k].toNat:Int)<256:=by have:=s[k].toNat_lt;omega
   go_wp2
   go_loopw [3,5] (fun v i wr=>∃j:Nat,j<=8/\i=.int .i64 j/\wr.ownsRow w.heap.size 3 1 v (8*k+j) ((Mx.low (s.data.toList.take k)++Mx.some s[k] j).map (Value.int .i64))/\Below w.heap.size w wr) (fun _ i _=>8-(intOf i).toNat)
   case atStart=>exact⟨0,aaj _,rfl,by simpa[Mx.some]using hown,hnx⟩
   case round =>
    obtain⟨j,hj,rfl,hown,hnx⟩:=hrel;by_cases hlt':j<8
    ·obtain⟨x,hx⟩:∃x:Int,x=((s[k].toNat/2^j%2:Nat):Int):=⟨_,rfl⟩
     have hb:bits .and .i64 ((s[k].toNat:Int)/2^j) 1=x:=by rw[hx];exact rY _ _
     have HX:Hid (x=((s[k].toNat/2^j%2:Nat):Int)):=hx;clear hx;go_wp2_with (at_builtin;refine aax _ rfl _ _ 24 rfl w.heap.size 3 i0 (.int .i64 0) 1 8 Tryz.underlying24 hi hz0 hz1 hz2 rfl (by decide) _ _ _ rfl (hown.alloc _) ⟨wr.heap.size,0,none⟩ 1 1 [.int .i64 x] rfl rfl ?c1 ?c2 ?c3 ?c4 ?c5 ?_)
     case c1=>exact aa1 _ _ _
     case c2=>intro u hu;simp at hu;subst hu;rfl
     case c3=>unfold maxLen;omega
     case c4=>omega
     case c5=>have:=hnx.size;simp;omega
     ·intro v' w1 hown' hgrow _
      have R:w1.ownsRow w.heap.size 3 1 v' (8*k+(j+1)) ((Mx.low (s.data.toList.take k)++Mx.some s[k] (j+1)).map (Value.int .i64))/\Below w.heap.size w w1:=by
       refine⟨?_,(hnx.alloc hnx.size _).grown hgrow (by have:=hnx.size;simp;omega) (fun b hb=>(hown.lt b hb).1)⟩;rw[Mx.pL,<-HX.out];simpa[Nat.add_assoc]using hown'
      clear hown' hgrow hown hnx;go_wp2
      go_roundw
      case rel=>exact⟨j+1,by omega,by go_num,R.1,R.2⟩
      case measure=>simp[intOf];omega
    ·have VD:j=8:=by omega
     subst VD;go_wp2
     go_roundw
     case rel=>exact⟨k+1,by omega,by go_num,by rw[Mx.fU s k hlt,Mx.yB];exact hown,hnx⟩
     case measure=>simp[intOf];omega
  ·have hk2:k=s.size:=by omega
   subst hk2;go_wp2
   go_ret
   exact⟨_,rfl,by rw[aav (by simp)]at hown;exact hown,hnx⟩
end Go.Proofs.YtmfijackgekioaaGreatDoor
namespace Go.Proofs.YtmfijackgekioaaGreatDoor.Rf
def At (L:List Int)(p:Nat)(b:List Int):Prop:=p+b.length<=L.length/\∀j,j<b.length->L.getD (p+j) 0=b.getD j 0
theorem At.left {L:List Int}{p:Nat}{a b:List Int}(h:At L p (a++b)):At L p a:=by
 obtain⟨h1,h2⟩:=h;rw[aac]at h1 h2;refine⟨by omega,fun j hj=>?_⟩;rw[h2 j (by omega)];simp only[aaa];rw[aaS hj]
theorem At.right {L:List Int}{p:Nat}{a b:List Int}(h:At L p (a++b)):At L (p+a.length) b:=by
 obtain⟨h1,h2⟩:=h;rw[aac]at h1 h2;refine⟨by omega,fun j hj=>?_⟩;have:=h2 (a.length+j) (by omega);rw[abI,this];simp only[aaa];rw[aaG (by omega),Nat.add_sub_cancel_left]
def nb (v:Nat):Nat->List Int
 | 0=>[]
 | k+1=>nb v k++[((v/2^k%2:Nat):Int)]
theorem aF (v k:Nat):(nb v k).length=k:=by
 induction k with
 | zero=>rfl
 | succ k ih=>rw[nb,aac,ih];rfl
theorem Nq {L:List Int}{p v:Nat}:∀(k:Nat),At L p (nb v k)->bv L p k=((v%2^k:Nat):Int)
 | 0,_=>by simp[bv,Nat.mod_one]
 | k+1,h=>by
  rw[nb]at h;have h1:=Nq k h.left;have h2:=h.right.2 0 (by simp);rw[aF,abQ]at h2;rw[bv,h1,h2,Nat.mod_pow_succ];simp[Int.mul_comm]
theorem fg {L:List Int}{v k:Nat}{st:St}(h:At L st.pos (nb v k)):take L st k=(((v%2^k:Nat):Int),{ st with pos:=st.pos+k }):=by
 have hl:=h.1;rw[aF]at hl;rw[take,aae (by omega),Nq k h]
def cb (c:Nat):Nat->List Int
 | 0=>[]
 | k+1=>((c/2^k%2:Nat):Int)::cb c k
theorem fC (c k:Nat):(cb c k).length=k:=by
 induction k with
 | zero=>rfl
 | succ k ih=>rw[cb,aao,ih]
theorem CQ {L ls code:List Int}{c i:Nat}:∀(k f n:Nat) (st:St),st.bad=false->k<f->At L st.pos (cb c (k+1)) -> (∀m,m<k->find ls code ((n:Int)+1+m) ((c/2^(k-m):Nat):Int)=none)->find ls code ((n:Int)+1+k) (c:Int)=some i -> gW L ls code f n ((c/2^(k+1):Nat):Int) st=((i:Int),{ st with pos:=st.pos+(k+1) })
 | k,0,n,st,_,hf,_,_,_=>absurd hf (by omega)
 | k,f+1,n,st,hb,hf,ha,hn,hi=>by
  have hb0:=ha.2 0 (by rw[fC];omega);have hlen:=ha.1;rw[fC]at hlen
  have ht:take L st 1=(((c/2^k%2:Nat):Int),{ st with pos:=st.pos+1 }):=by
   rw[take,aae (by omega)];simp only[bv,abQ]at hb0 ⊢;rw[hb0];simp[cb]
  have e2:2*((c/2^(k+1):Nat):Int)+((c/2^k%2:Nat):Int)=((c/2^k:Nat):Int):=by
   have:c/2^(k+1)=c/2^k/2:=by rw[ab1,Nat.div_div_eq_div_mul]
   rw[this];omega
  rw[gW,ht];simp only[hb,e2,abl,acA];cases k with
  | zero =>
   have hi':find ls code ((n:Int)+1) ((c/2^0:Nat):Int)=some i:=by simpa using hi
   rw[hi']
  | succ k =>
   have h0:=hn 0 (by omega);simp only[Int.ofNat_zero,Int.add_zero,Nat.sub_zero]at h0;rw[h0]
   have ha':At L (st.pos+1) (cb c (k+1)):=by
    have:cb c (k+1+1)=[((c/2^(k+1)%2:Nat):Int)]++cb c (k+1):=rfl;rw[this]at ha;exact ha.right
   have:=CQ k f (n+1) { st with pos:=st.pos+1,bad:=false } rfl (by omega) ha' (fun m hm=>by
    have:=hn (m+1) (by omega);rw[show k+1-(m+1)=k-m by omega]at this;rw[<-this]
    congr 1
    omega) (by rw[<-hi];congr 1;omega)
   rw[this];simp only[Prod.mk.injEq,St.mk.injEq,and_true,abG];omega
def bb:List UInt8->List Int
 | []=>[]
 | c::r=>nb c.toNat 8++bb r
theorem m8 (t:List UInt8):(bb t).length=8*t.length:=by
 induction t with
 | nil=>rfl
 | cons c r ih=>rw[bb,aac,aF,ih,aao];omega
theorem G6 {L:List Int}:∀(t:List UInt8) (st:St),st.bad=false->At L st.pos (bb t) -> yu L t.length st={ st with pos:=st.pos+8*t.length,out:=st.out++t }
 | [],st,_,_=>by simp[yu]
 | c::r,st,hb,h=>by
  rw[bb]at h;have ht:=fg h.left;have hr:=h.right;rw[aF]at hr;have hc:c.toNat%2^8=c.toNat:=abp c.toNat_lt;rw[hc]at ht;rw[aao,yu,hb,ht];simp only[abl,acA,aa5,UInt8.ofNat_toNat];rw[G6 r { st with pos:=st.pos+8,out:=st.out++[c] } hb hr];simp only[aaq,acn,abg];rw[show st.pos+8+8*r.length=st.pos+8*(r.length+1) by omega,hb]
theorem G7 {L:List Int}{limit:Int}{st:St}{t:List UInt8}(hb:st.bad=false)(hn:t.length<=65535)(hl:(st.out.length:Int)+t.length<=limit)(h:At L ((st.pos+7)/8*8) (nb t.length 16++(nb (65535-t.length) 16++bb t))): plain L limit st={ st with pos:=(st.pos+7)/8*8+32+8*t.length,out:=st.out++t }:=by
 have h1:=fg (st:={ st with pos:=(st.pos+7)/8*8 }) h.left;have hr:=h.right;rw[aF]at hr;have h2:=fg (st:={ st with pos:=(st.pos+7)/8*8+16 }) hr.left;have h3:=hr.right;rw[aF]at h3;rw[abp (by omega)]at h1 h2;simp only at h1 h2;unfold plain;simp only;rw[h1];simp only;rw[h2];simp only;have e:((t.length:Nat):Int)+((65535-t.length:Nat):Int)=65535:=by omega
 rw[aaf e];simp only[hb,abl,acA,aa5]
 have hr0:∀q:St,q.out=st.out->room limit q t.length=(true,q):=fun q hq=>by
  rw[room,aae (by rw[hq];omega)]
 rw[hr0 { st with pos:=(st.pos+7)/8*8+16+16,bad:=false } rfl];simp only[if_true];rw[G6 t _ rfl h3]
def Reads (ls:List Int)(i:Nat)(b:List Int):Prop:=∀(L:List Int) (st:St),st.bad=false->At L st.pos b->symbol L ls (codes ls) st=((i:Int),{ st with pos:=st.pos+b.length })
theorem CR (limit:Int)(st:St)(n:Nat)(h:(st.out.length:Int)+n<=limit):room limit st n=(true,st):=by
 rw[room,aae (by omega)]
theorem Es {L:List Int}{limit:Int}{ls far b:List Int}{c f:Nat}{st:St}(hr:Reads ls c b)(hc:c<256)(hb:st.bad=false)(hf:st.full=false)(hl:(st.out.length:Int)+1<=limit)(ha:At L st.pos b): eO L limit ls (codes ls) far (codes far) (f+1) st=eO L limit ls (codes ls) far (codes far) f { st with pos:=st.pos+b.length,out:=st.out++[UInt8.ofNat c] }:=by
 rw[eO,hr L st hb ha];simp only;have e:=CR limit { st with pos:=st.pos+b.length } 1 hl;rw[aae (by rw[hb,hf];decide),aae (by rw[hb];rintro (q|q);cases q;omega),aaf (by omega),e];simp
theorem Et {L:List Int}{limit:Int}{ls far b:List Int}{f:Nat}{st:St}(hr:Reads ls 256 b)(hb:st.bad=false)(hf:st.full=false)(ha:At L st.pos b): eO L limit ls (codes ls) far (codes far) (f+1) st={ st with pos:=st.pos+b.length }:=by
 rw[eO,hr L st hb ha];rw[aae (by rw[hb,hf];decide),aaf (.inr rfl)]
def lb (i:Nat):Nat:=if i=28 then 0 else if 8<=i then i/4-1 else 0
def dj (i:Nat):Nat:=if i=28 then 258 else if 8<=i then (4+i%4)*2^(i/4-1)+3 else i+3
def db (j:Nat):Nat:=if 4<=j then j/2-1 else 0
def cR (j:Nat):Nat:=if 4<=j then (2+j%2)*2^(j/2-1)+1 else j+1
theorem G8 {L:List Int}{i x:Nat}{st:St}(hx:x<2^lb i)(ha:At L st.pos (nb x (lb i))):lenOf L i st=(dj i+x,{ st with pos:=st.pos+lb i }):=by
 unfold lenOf;by_cases OA:i=28
 ·subst OA;have e0:lb 28=0:=rfl;rw[e0]at hx;obtain rfl:x=0:=by omega
  rfl
 ·by_cases h8:8<=i
  ·have e:lb i=i/4-1:=by rw[lb,aae OA,aaf h8]
   have e1:dj i=(4+i%4)*2^(i/4-1)+3:=by rw[dj,aae OA,aaf h8]
   rw[e]at ha hx ⊢;rw[aae OA,aaf h8,fg ha,abp hx,e1];simp
  ·have e:lb i=0:=by rw[lb,aae OA,aae h8]
   have e1:dj i=i+3:=by rw[dj,aae OA,aae h8]
   rw[e]at hx ⊢;obtain rfl:x=0:=by omega
   rw[aae OA,aae h8,e1];rfl
theorem Eu {L:List Int}{j y:Nat}{st:St}(hy:y<2^db j)(ha:At L st.pos (nb y (db j))):cg L j st=(cR j+y,{ st with pos:=st.pos+db j }):=by
 unfold cg;by_cases h4:4<=j
 ·have e:db j=j/2-1:=by rw[db,aaf h4]
  have e1:cR j=(2+j%2)*2^(j/2-1)+1:=by rw[cR,aaf h4]
  rw[e]at ha hy ⊢;rw[aaf h4,fg ha,abp hy,e1];simp
 ·have e:db j=0:=by rw[db,aae h4]
  have e1:cR j=j+1:=by rw[cR,aae h4]
  rw[e]at hy ⊢;obtain rfl:y=0:=by omega
  rw[aae h4,e1];rfl
theorem Ev {L:List Int}{limit:Int}{far b:List Int}{i j x y:Nat}{st:St}(hr:Reads far j b)(hj:j<=29)(hx:x<2^lb i)(hy:y<2^db j)(hb:st.bad=false)(hd:cR j+y<=st.out.length)(hl:(st.out.length:Int)+(dj i+x:Nat)<=limit)(ha:At L st.pos (nb x (lb i)++(b++nb y (db j)))): copied L limit i far (codes far) st={ st with pos:=st.pos+lb i+b.length+db j,out:=Em (cR j+y) (dj i+x) st.out }:=by
 have h1:=G8 hx ha.left;have hr1:=ha.right;rw[aF]at hr1;have h2:=hr L { st with pos:=st.pos+lb i } hb hr1.left;have h3:=Eu (st:={ st with pos:=st.pos+lb i+b.length }) hy hr1.right;have h4:=CR limit { st with pos:=st.pos+lb i+b.length+db j } (dj i+x) hl;unfold copied;rw[h1];simp only;rw[h2];simp only[aa5];rw[h3];simp only;rw[h4];simp only;rw[aae (by rw[hb];decide),aae (by rw[hb];rintro (q|q);cases q;omega),aae (by rw[hb];rintro (q|q);cases q;omega)];simp
theorem Ew (T:List UInt8)(p k:Nat)(h:k<p):(T.take p).getD k 0=T.getD k 0:=by
 simp only[aaa,abx,aaf h]
theorem lH (T:List UInt8)(p:Nat)(h:p<T.length):T.take (p+1)=T.take p++[T.getD p 0]:=by
 rw[aaB h,aaa,aai h];rfl
theorem yI (T:List UInt8)(d:Nat)(hd:1<=d):∀(l p:Nat),d<=p->p+l<=T.length->(∀k,k<l->T.getD (p+k) 0=T.getD (p+k-d) 0)->Em d l (T.take p)=T.take (p+l)
 | 0,p,_,_,_=>rfl
 | l+1,p,hp,hl,h=>by
  have e:(T.take p).length=p:=by rw[aaQ];omega
  rw[Em,e,Ew _ _ _ (by omega)];have h0:=h 0 (by omega);rw[abQ]at h0
  rw[<-h0,<-lH T p (by omega),yI T d hd l (p+1) (by omega) (by omega) (fun k hk=>by
   have:=h (k+1) (by omega);rw[show p+1+k=p+(k+1) by omega]
   exact this)]
  rw[show p+1+l=p+(l+1) by omega]
def k7 (x:Nat):Nat:=if x=0 then 0 else x.log2+1
def fG (l:Nat):Nat:=if l=258 then 28 else 4*(k7 (l-3)-3)+(l-3)/2^(k7 (l-3)-3)
def gJ (d:Nat):Nat:=2*(k7 (d-1)-2)+(d-1)/2^(k7 (d-1)-2)
theorem rZ (l:Nat)(h1:3<=l)(h2:l<=258):fG l<=28/\dj (fG l)<=l/\l-dj (fG l)<2^lb (fG l):=by
 have:∀l:Fin 259,3<=l.val->fG l.val<=28/\dj (fG l.val)<=l.val/\l.val-dj (fG l.val)<2^lb (fG l.val):=by decide +kernel
 exact this ⟨l,by omega⟩ h1
def r8 (T:List UInt8)(p:Nat)(s:Nat×Nat):Prop :=
 (s.2=0/\s.1=1/\p<T.length)\/(3<=s.1/\s.1<=258/\1<=s.2/\s.2<=32768/\s.2<=p/\p+s.1<=T.length/\∀k,k<s.1->T.getD (p+k) 0=T.getD (p+k-s.2) 0)
def Fits (T:List UInt8):Nat->List (Nat×Nat)->Nat->Prop
 | p,[],q=>p=q
 | p,s::r,q=>r8 T p s/\Fits T (p+s.1) r q
def jG (sb fb:Nat->List Int)(T:List UInt8)(p:Nat)(s:Nat×Nat):List Int :=
 if s.2=0 then sb (T.getD p 0).toNat
 else sb (257+fG s.1)++(nb (s.1-dj (fG s.1)) (lb (fG s.1))++(fb (gJ s.2)++nb (s.2-cR (gJ s.2)) (db (gJ s.2))))
def dl (sb fb:Nat->List Int)(T:List UInt8):Nat->List (Nat×Nat)->List Int
 | _,[]=>sb 256
 | p,s::r=>jG sb fb T p s++dl sb fb T (p+s.1) r
def r9 (ls far:List Int)(sb fb:Nat->List Int)(T:List UInt8):Nat->List (Nat×Nat)->Prop
 | _,[]=>Reads ls 256 (sb 256)
 | p,s::r=>(if s.2=0 then Reads ls (T.getD p 0).toNat (sb (T.getD p 0).toNat) else Reads ls (257+fG s.1) (sb (257+fG s.1))/\Reads far (gJ s.2) (fb (gJ s.2)))/\r9 ls far sb fb T (p+s.1) r
theorem lJ {L:List Int}{limit:Int}{ls far:List Int}{sb fb:Nat->List Int}{T:List UInt8}(hlim:(T.length:Int)<=limit)(hdix:∀d,1<=d->d<=32768->gJ d<=29/\cR (gJ d)<=d/\d-cR (gJ d)<2^db (gJ d)): ∀(S:List (Nat×Nat)) (p q f:Nat) (st:St),S.length<f->Fits T p S q->r9 ls far sb fb T p S->st.bad=false->st.full=false->st.out=T.take p->At L st.pos (dl sb fb T p S) -> eO L limit ls (codes ls) far (codes far) f st={ st with pos:=st.pos+(dl sb fb T p S).length,out:=T.take q }
 | [],p,q,f+1,st,_,hfit,hk,hb,hf,ho,ha=>by
  rw[Et hk hb hf ha];obtain rfl:p=q:=hfit;rw[<-ho];rfl
 | s::r,p,q,f+1,st,hfu,hfit,hk,hb,hf,ho,ha=>by
  obtain⟨hs,hfit⟩:=hfit;obtain⟨hk1,hk⟩:=hk;rw[dl]at ha ⊢;have hal:=ha.left;have har:=ha.right;rw[aac];rcases hs with⟨h0,h1,hp⟩|⟨g1,g2,g3,g4,g5,g6,g7⟩
  ·rw[aaf h0]at hk1;rw[jG,aaf h0]at hal har ⊢;have e:(T.take p).length=p:=by rw[aaQ];omega
   rw[Es hk1 (UInt8.toNat_lt _) hb hf (by rw[ho,e];omega) hal];rw[h1]at hfit hk har ⊢;rw[lJ hlim hdix r (p+1) q f { st with pos:=st.pos+(sb (T.getD p 0).toNat).length,out:=st.out++[UInt8.ofNat (T.getD p 0).toNat] } (by simp only[aao]at hfu;omega) hfit hk hb hf (by simp only[UInt8.ofNat_toNat];rw[ho,<-lH T p hp]) har];simp only[abI]
  ·have hne:¬s.2=0:=by omega
   rw[aae hne]at hk1;rw[jG,aae hne]at hal har ⊢;obtain⟨l1,l2,l3⟩:=rZ s.1 g1 g2;obtain⟨d1,d2,d3⟩:=hdix s.2 g3 g4;have e:(T.take p).length=p:=by rw[aaQ];omega
   have hcp:=Ev (limit:=limit) (st:={ st with pos:=st.pos+(sb (257+fG s.1)).length }) hk1.2 d1 l3 d3 hb (by show _<=st.out.length;rw[ho,e];omega) (by show ((st.out.length:Nat):Int)+_<=_;rw[ho,e];omega) hal.right;rw[eO,hk1.1 L st hb hal.left];simp only;rw[aae (by rw[hb,hf];decide),aae (by rw[hb];rintro (q|q);cases q;omega),aae (by omega),aae (by omega),show (((257+fG s.1:Nat):Int)-257).toNat=fG s.1 by omega,hcp];have hcf:=yI T s.2 g3 s.1 p g5 g6 g7;rw[show cR (gJ s.2)+(s.2-cR (gJ s.2))=s.2 by omega,show dj (fG s.1)+(s.1-dj (fG s.1))=s.1 by omega,ho,hcf];simp only[aac,aF]at har ⊢;rw[lJ hlim hdix r (p+s.1) q f { st with pos:=st.pos+(sb (257+fG s.1)).length+lb (fG s.1)+(fb (gJ s.2)).length+db (gJ s.2),out:=T.take (p+s.1) } (by simp only[aao]at hfu;omega) hfit hk hb hf rfl (by simpa only[abI]using har)];simp only[abI]
end Go.Proofs.YtmfijackgekioaaGreatDoor.Rf
