import Derived.Test.YtmfijackgekioabGreatDoorQ01
import Derived.Laws.BitsAllLaws
set_option maxHeartbeats 400000
set_option maxRecDepth 100000
namespace Go.Proofs.YtmfijackgekioabGreatDoor
open Go.RowKit
abbrev cm (c:UInt8):Value:=.int .u8 c.toNat
theorem nK (k:Nat)(h:k<16):(1:Int)<=2^k/\(2:Int)^k<=32768:=by
 have h1:(2:Nat)^0<=2^k:=abs (by omega) (by omega);have h2:(2:Nat)^k<=2^15:=abs (by omega) (by omega);have e:((2:Int)^k)=((2^k:Nat):Int):=by simp
 rw[e];omega
theorem mI (n:Nat)(hn:n<=320)(Z:List Value)(hZ:Z=List.replicate n (.int .i64 0))(u:World): (Instr.makeSlice 22 (.int .i64 (n:Int)) (.int .i64 (n:Int))).run Tryz.prog u = .ok (.slice (some ⟨u.heap.size,0,none⟩) n n) (u.alloc (.cells Z.toArray 3)):=by
 obtain⟨i0,hi,hz0,hz1,hz2⟩:=abu Tryz.info3;have h:=run_make (P:=Tryz.prog) u 22 3 i0 (.int .i64 0) Tryz.underlying22 hi hz0 .i64 .i64 (n:Int) (n:Int) (by omega) (abU _) (by rw[hz2];omega) (by omega)
 have e2:(madeCells #[Value.int .i64 0] n)=Z.toArray:=by
  rw[hZ,<-toList_madeCells_one]
 simpa[hz1,Value.cells,e2]using h
theorem bJ (n:Nat):vals (List.replicate n 0)=List.replicate n (.int .i64 0):=by simp[vals]
theorem Jc (l:List Int)(i:Nat)(x:Int):(vals l).toArray.setIfInBounds i (.int .i64 x)=(vals (l.set i x)).toArray:=by simp[vals,List.map_set]
structure Fr (B:Nat) (w w':World):Prop where
 below:Below B w w'
 other:∀k,B<k->k<w.heap.size->(∀c fr,w.heap[k]?≠some (.cells c 5 fr))->w'.heap[k]?=w.heap[k]?
theorem Fr.refl (B:Nat)(w:World):Fr B w w:=⟨aav _ _,fun _ _ _ _=>rfl⟩
theorem Fr.trans {B:Nat}{a b c:World}(h:Fr B a b)(k:Fr B b c):Fr B a c :=
 ⟨h.below.trans k.below,fun i h1 h2 h3=>by
  have e:=h.other i h1 h2 h3
  exact (k.other i h1 (aaQ h2 h.below.size) (fun c fr=>by rw[e];exact h3 c fr)).trans e⟩
theorem Fr.jx {B:Nat}{w w':World}(hB:B<=w.heap.size)(h:Kp (·=B) w w'):Fr B w w' :=
 ⟨h.below hB (fun _ _ e=>Nat.le_of_eq e.symm),fun k h1 h2 _=>h.block k h2 (Nat.ne_of_gt h1)⟩
theorem Fr.drewN {B:Nat}{a w:World}(h:Fr B a w)(n:Nat):Fr B a (w.drewN n):=⟨aaD h.below n,h.other⟩
theorem jd {w:World}{base e n:Nat}{v:Value}{xs:List Value}(h:w.ownsRow base e 1 v n xs)(g:Nat)(hg:v.ownBlock=some g):∃cur,w.heap[g]?=some (.cells cur e (0,0)):=by
 rcases h.2 with⟨rfl,_⟩|⟨g',cap,cur,rfl,hb,hg',_⟩
 ·simp[Value.ownBlock]at hg
 ·simp[Value.ownBlock]at hg;subst hg;exact⟨cur,hg'⟩
theorem Tryz.info5:(Tryz.prog.info? 5).map (fun i=>(i.zero,i.size,i.bytes))=some (some (.int .u8 0),1,1):=by kernel_rfl
def aQ (w:World)(g:Nat)(zs:List Int):Prop:=w.heap[g]?=some (.cells (vals zs).toArray 3 (0,0))
theorem aQ.ints {w:World}{g:Nat}{zs:List Int}(h:aQ w g zs):Ints w (some ⟨g,0,none⟩) zs :=
 fun j hj=>⟨g,0,rfl,(aat _ _ _ _ _ _ h).trans (by simp[vals,hj])⟩
theorem aQ.set {w:World}{g:Nat}{zs:List Int}(h:aQ w g zs)(i:Nat)(x:Int):aQ (w.setCell ⟨g,i,none⟩ (.int .i64 x)) g (zs.set i x) :=
 (aau _ _ _ _ _ _ h).trans (by rw[Jc])
abbrev part (n k:Nat)(f:Nat->Int):List Int:=(List.range n).map fun i=>if i<k then f i else 0
theorem sW (n k:Nat)(f:Nat->Int):(part n k f).set k (f k)=part n (k+1) f:=by
 apply aca
 ·simp
 ·intro i h1 h2;simp only[List.getElem_set,acB,acG];by_cases e:k=i
  ·subst e;simp
  ·rw[aai e];by_cases h:i<k
   ·rw[aaj h,aaj (by omega)]
   ·rw[aai h,aai (by omega)]
theorem qk (n:Nat)(f:Nat->Int):part n 0 f=List.replicate n 0:=by
 apply aca<;>simp
theorem sX (n:Nat)(f:Nat->Int):part n n f=(List.range n).map f:=by
 apply acJ;intro i hi;rw[aaj (List.mem_range.1 hi)]
theorem aQ.cell {w:World}{g:Nat}{zs:List Int}(h:aQ w g zs)(j:Nat)(hj:j<zs.length):w.cell? ⟨g,j,none⟩=some (.int .i64 zs[j]):=(aat _ _ _ _ _ _ h).trans (by simp[vals,hj])
theorem sD {w w':World}{base e n:Nat}{v:Value}{xs:List Value}(h:w.ownsRow base e 1 v n xs)(hb:∀g,v.ownBlock=some g->w'.heap[g]?=w.heap[g]?):w'.ownsRow base e 1 v n xs:=by
 refine⟨h.1,?_⟩;rcases h.2 with h'|⟨g,cap,cur,rfl,hb',hg,hr⟩
 ·exact .inl h'
 ·exact .inr ⟨g,cap,cur,rfl,hb',(hb g rfl).trans hg,hr⟩
def Jd:Value->Nat|.slice _ n _=>n|_=>0
theorem zC {w:World}{base e n:Nat}{v:Value}{xs:List Value}(h:w.ownsRow base e 1 v n xs)(hn:0<n): ∃g cap,v=.slice (some ⟨g,0,none⟩) n cap/\base<=g:=by
 rcases h.2 with⟨_,hx⟩|⟨g,cap,cur,rfl,hb,_⟩
 ·omega
 ·exact⟨g,cap,rfl,hb⟩
theorem nL (out:List Int)(k:Nat)(x:Int):vals (out++List.replicate (k+1) x)=vals (out++List.replicate k x)++[Value.int .i64 x]:=by
 simp[vals,List.replicate_succ']
structure Yy (w:World) (B:Nat) (ao:Option Addr) (ls:List Int):Prop where
 ints:Ints w ao ls
 ne:∀a,ao=some a->ls≠[]->a.block≠B/\∃c fr,w.heap[a.block]?=some (.cells c 3 fr)
theorem hidden {p:Prop}(h:p):Hid p:=h
theorem sY {w:World}{base n g cap:Nat}{zs:List Int}(h:w.ownsRow base 3 1 (.slice (some ⟨g,0,none⟩) n cap) n (vals zs))(j:Nat)(hj:j<zs.length):w.cell? ⟨g,j,none⟩=some (.int .i64 zs[j]):=by
 have hl:=h.1;rcases h.2 with⟨h',_⟩|⟨g',cap',cur,e,_,hb,_,_,_,ht⟩
 ·cases h'
 ·cases e;rw[aat _ _ _ _ _ _ hb];have h1:(cur.toList.take (n*1))[j]?=cur.toList[j]?:=by rw[abZ,aaj (by simp[vals]at hl;omega)]
  rw[ht]at h1;have h2:cur[j]?=cur.toList[j]?:=by simp
  rw[h2,<-h1];simp[vals,hj]
theorem MP {w:World}{base n g cap B:Nat}{zs:List Int}(h:w.ownsRow base 3 1 (.slice (some ⟨g,0,none⟩) n cap) n (vals zs))(hg:g≠B)(m:Nat): Yy w B (some ⟨g,0,none⟩) (zs.take m)/\Yy w B (some ⟨g,m,none⟩) (zs.drop m):=by
 obtain⟨cur,hb⟩:=jd h g rfl;refine⟨⟨fun j hj=>⟨g,0,rfl,?_⟩,fun a e _=>by cases e;exact⟨hg,_,_,hb⟩⟩,⟨fun j hj=>⟨g,m,rfl,?_⟩,fun a e _=>by cases e;exact⟨hg,_,_,hb⟩⟩⟩
 ·have hj':j<zs.length:=by simp at hj;omega
  have:=sY h j hj';simpa using this
 ·have hj':m+j<zs.length:=by simp at hj;omega
  have:=sY h (m+j) hj';simpa using this
theorem MQ {w:World}{base n g cap:Nat}{xs:List Value}(h:w.ownsRow base 3 1 (.slice (some ⟨g,0,none⟩) n cap) n xs):n<=cap/\cap<=maxLen/\g<w.heap.size:=by
 rcases h.2 with⟨h',_⟩|⟨g',cap',cur,e,_,hb,h1,h2,_⟩
 ·cases h'
 ·cases e;exact⟨h1,h2,aaa hb⟩
theorem xJ (L ls cd:List Int)(n:Nat):∀(f:Nat) (out:List Int) (st:Rf.St),(Rf.mr L ls cd n f out st).2.out=st.out/\st.pos<=(Rf.mr L ls cd n f out st).2.pos
 | 0,_,_=>⟨rfl,aah _⟩
 | f+1,out,st=>by
  have h1:=(Rf.fK L ls cd st).1;have h2:=Rf.jA L ls cd st;have t:∀k,(Rf.take L (Rf.symbol L ls cd st).2 k).2.out=st.out/\st.pos<=(Rf.take L (Rf.symbol L ls cd st).2 k).2.pos:=fun k=>⟨((Rf.aZ L _ k).1).trans h1,abe h2 (Rf.eV L _ k)⟩
  have c:∀o s,s.out=st.out/\st.pos<=s.pos->(Rf.mr L ls cd n f o s).2.out=st.out/\st.pos<=(Rf.mr L ls cd n f o s).2.pos:=fun o s hs=>⟨(xJ L ls cd n f o s).1.trans hs.1,abe hs.2 (xJ L ls cd n f o s).2⟩
  simp only[Rf.mr];split
  ·exact⟨rfl,aah _⟩
  ·split
   ·exact⟨h1,h2⟩
   ·split
    ·exact c _ _ ⟨h1,h2⟩
    ·split
     ·split
      ·exact t 2
      ·exact c _ _ (t 2)
     ·split
      ·exact c _ _ (t 3)
      ·exact c _ _ (t 7)
theorem sZ (L ls:List Int)(n:Nat)(st:Rf.St):(Rf.listed L ls n st).2.out=st.out/\st.pos<=(Rf.listed L ls n st).2.pos:=by
 have h:=xJ L ls (Rf.codes ls) n (n+1) [] st;unfold Rf.listed;simp only;split
 ·exact h
 ·exact h
theorem one_cell {w:World}{b:Nat}{v:Value}{t:TypeId}(h:w.heap[b]?=some (.cells #[v] t (0,0))):w.cell? ⟨b,0,none⟩=some v/\w.frozen? ⟨b,0,none⟩=false/\b<w.heap.size :=
 ⟨aat _ _ _ _ _ _ h,aaI w b 0 _ _ h,aaa h⟩
theorem one_set {w:World}{b:Nat}{v:Value}{t:TypeId}(h:w.heap[b]?=some (.cells #[v] t (0,0)))(u:Value):(w.setCell ⟨b,0,none⟩ u).heap[b]?=some (.cells #[u] t (0,0)):=(aau w b 0 _ _ u h).trans rfl
theorem aR {w:World}{C:Nat}{cs:Array Value}{t:TypeId}(h:w.heap[C]?=some (.cells cs t (0,0)))(j:Nat):w.cell? ⟨C,j,none⟩=cs[j]?:=by
 simp[World.cell?,h]
theorem ae (w:World)(o:Obj):Below w.heap.size w (w.alloc o):=(aav _ _).alloc (aah _) _
theorem eJ (b off j:Nat):(⟨b,off,none⟩:Addr).add j=⟨b,off+j,none⟩:=by
 unfold Addr.add;split
 ·next h=>rw[h,acz]
 ·rfl
theorem aV {w:World}{base e n:Nat}{v:Value}{xs:List Value}(h:w.ownsRow base e 2 v n xs):∃ao cap,v=.slice ao n cap:=by
 rcases h.2 with⟨rfl,rfl⟩|⟨g,cap,cur,rfl,_⟩
 ·exact⟨_,_,rfl⟩
 ·exact⟨_,_,rfl⟩
theorem aJ {w w':World}{base:Nat}{e:TypeId}{size:Nat}{v:Value}{n:Nat}{xs:List Value}(h:w.ownsRow base e size v n xs)(hk:∀g,v.ownBlock=some g->w'.heap[g]?=w.heap[g]?):w'.ownsRow base e size v n xs:=by
 refine⟨h.1,?_⟩;rcases h.2 with h'|⟨g,cap,cur,rfl,hb,hg,r⟩
 ·exact .inl h'
 ·exact .inr ⟨g,cap,cur,rfl,hb,(hk g rfl).trans hg,r⟩
def bG (w:World)(X:Nat)(v:Value)(t:TypeId):Prop:=w.heap[X]?=some (.cells #[v] t (0,0))
theorem bG.below {w w':World}{X:Nat}{v:Value}{t:TypeId}(h:bG w X v t)(k:Below w.heap.size w w'):bG w' X v t:=(k.block _ (aaa h)).trans h
theorem bG.cell {w:World}{X:Nat}{v:Value}{t:TypeId}(h:bG w X v t):w.cell? ⟨X,0,none⟩=some v:=(one_cell h).1
theorem oG (w:World)(o0 o1 o2 o3:Obj):Below w.heap.size w ((((w.alloc o0).alloc o1).alloc o2).alloc o3)/\((((w.alloc o0).alloc o1).alloc o2).alloc o3).heap[w.heap.size]?=some o0/\((((w.alloc o0).alloc o1).alloc o2).alloc o3).heap[w.heap.size+1]?=some o1/\((((w.alloc o0).alloc o1).alloc o2).alloc o3).heap[w.heap.size+1+1]?=some o2/\((((w.alloc o0).alloc o1).alloc o2).alloc o3).heap[w.heap.size+1+1+1]?=some o3:=by
 have a1:=ah (w.alloc o0) o1;have a2:=ah ((w.alloc o0).alloc o1) o2;have a3:=ah (((w.alloc o0).alloc o1).alloc o2) o3;simp only[aas]at a1 a2 a3;exact⟨((((aav _ _).alloc (aah _) _).alloc (by simp) _).alloc (by simp;omega) _).alloc (by simp;omega) _,ak (ak (ak (ah w o0) _) _) _,ak (ak a1 _) _,ak a2 _,a3⟩
theorem aN {w:World}{T:Nat}{a b:Value}{t:TypeId}(h:w.heap[T]?=some (.cells #[a,b] t (0,0))): w.cell? ⟨T,0,none⟩=some a/\w.cell? ⟨T,1,none⟩=some b/\(∀j,w.frozen? ⟨T,j,none⟩=false)/\T<w.heap.size :=
 ⟨aat _ _ _ _ _ _ h,aat _ _ _ _ _ _ h,fun j=>aaI w T j _ _ h,aaa h⟩
theorem vU (w:World)(o0 o1 o2 o3 o4 o5:Obj):Below w.heap.size w ((((((w.alloc o0).alloc o1).alloc o2).alloc o3).alloc o4).alloc o5)/\((((((w.alloc o0).alloc o1).alloc o2).alloc o3).alloc o4).alloc o5).heap[w.heap.size]?=some o0/\((((((w.alloc o0).alloc o1).alloc o2).alloc o3).alloc o4).alloc o5).heap[w.heap.size+1]?=some o1/\((((((w.alloc o0).alloc o1).alloc o2).alloc o3).alloc o4).alloc o5).heap[w.heap.size+1+1]?=some o2/\((((((w.alloc o0).alloc o1).alloc o2).alloc o3).alloc o4).alloc o5).heap[w.heap.size+1+1+1]?=some o3/\((((((w.alloc o0).alloc o1).alloc o2).alloc o3).alloc o4).alloc o5).heap[w.heap.size+1+1+1+1]?=some o4/\((((((w.alloc o0).alloc o1).alloc o2).alloc o3).alloc o4).alloc o5).heap[w.heap.size+1+1+1+1+1]?=some o5:=by
 have a1:=ah (w.alloc o0) o1;have a2:=ah ((w.alloc o0).alloc o1) o2;have a3:=ah (((w.alloc o0).alloc o1).alloc o2) o3;have a4:=ah ((((w.alloc o0).alloc o1).alloc o2).alloc o3) o4;have a5:=ah (((((w.alloc o0).alloc o1).alloc o2).alloc o3).alloc o4) o5;simp only[aas]at a1 a2 a3 a4 a5;exact⟨((((((aav _ _).alloc (aah _) _).alloc (by simp) _).alloc (by simp;omega) _).alloc (by simp;omega) _).alloc (by simp;omega) _).alloc (by simp;omega) _,(ak (ak (ak (ak (ak (ah w o0) _) _) _) _) _),(ak (ak (ak (ak a1 _) _) _) _),(ak (ak (ak a2 _) _) _),(ak (ak a3 _) _),(ak a4 _),a5⟩
theorem bH (w:World)(o0 o1:Obj):Below w.heap.size w ((w.alloc o0).alloc o1)/\((w.alloc o0).alloc o1).heap[w.heap.size]?=some o0/\((w.alloc o0).alloc o1).heap[w.heap.size+1]?=some o1:=by
 have a1:=ah (w.alloc o0) o1;simp only[aas]at a1;exact⟨((aav _ _).alloc (aah _) _).alloc (by simp) _,(ak (ah w o0) _),a1⟩
theorem gq {w:World}{b:Nat}{a c:Value}{t:TypeId}(h:w.heap[b]?=some (.cells #[a,c] t (0,0)))(x y:Value):((w.setCell ⟨b,0,none⟩ x).setCell ⟨b,1,none⟩ y).heap[b]?=some (.cells #[x,y] t (0,0)) :=
 (aau _ b 1 _ _ y ((aau w b 0 _ _ x h).trans rfl)).trans rfl
theorem kW (w:World)(o0 o1 o2 o3 o4:Obj):Below w.heap.size w (((((w.alloc o0).alloc o1).alloc o2).alloc o3).alloc o4)/\(((((w.alloc o0).alloc o1).alloc o2).alloc o3).alloc o4).heap[w.heap.size]?=some o0/\(((((w.alloc o0).alloc o1).alloc o2).alloc o3).alloc o4).heap[w.heap.size+1]?=some o1/\(((((w.alloc o0).alloc o1).alloc o2).alloc o3).alloc o4).heap[w.heap.size+1+1]?=some o2/\(((((w.alloc o0).alloc o1).alloc o2).alloc o3).alloc o4).heap[w.heap.size+1+1+1]?=some o3/\(((((w.alloc o0).alloc o1).alloc o2).alloc o3).alloc o4).heap[w.heap.size+1+1+1+1]?=some o4:=by
 have a1:=ah (w.alloc o0) o1;have a2:=ah ((w.alloc o0).alloc o1) o2;have a3:=ah (((w.alloc o0).alloc o1).alloc o2) o3;have a4:=ah ((((w.alloc o0).alloc o1).alloc o2).alloc o3) o4;simp only[aas]at a1 a2 a3 a4;exact⟨(((((aav _ _).alloc (aah _) _).alloc (by simp) _).alloc (by simp;omega) _).alloc (by simp;omega) _).alloc (by simp;omega) _,(ak (ak (ak (ak (ah w o0) _) _) _) _),(ak (ak (ak a1 _) _) _),(ak (ak a2 _) _),(ak a3 _),a4⟩
theorem s8 {P:Program}{f:FuncId}{args:Array Value}{w:World}{x:Nat}{v:Value}(h:Calls P f args (w.drewN x) fun e w'=>e=.returned v/\∃n,w'=(w.drewN x).drewN n):Calls P f args (w.drewN x) fun e w''=>e=.returned v/\∃n,w''=w.drewN n :=
 h.mono fun _ _ ⟨he,n,hn⟩=>⟨he,x+n,by rw[hn];simp⟩
theorem gv {w w':World}{Q:Nat->Prop}{X:Nat}{o:Obj}(h:w.heap[X]?=some o)(k:Kp Q w w')(hq:¬Q X):w'.heap[X]?=some o:=(k.block X (aaa h) hq).trans h
theorem byte_at (T:ByteArray)(j:Nat)(h:j<T.size):T[j].toNat=(T.data.toList.getD j 0).toNat:=by
 rw[aab,aan (by simpa using h)];rfl
theorem xK (T:ByteArray)(j:Nat)(h:j<T.size)(v:Int)(hv:v=(j:Int))(u:World):(Instr.index 9 (.string T) (.int .i64 v)).run Tryz.prog u=.ok (.int .u8 ((T.data.toList.getD j 0).toNat:Nat)) u:=by
 subst hv;rw[<-byte_at T j h];simp[go_sem,Instr.index,h]
end Go.Proofs.YtmfijackgekioabGreatDoor
namespace Go.Proofs.YtmfijackgekioabGreatDoor.Rf
def block (L:List Int)(limit:Int)(k:Int)(st:St):St :=
 if k=0 then plain L limit st else if k=1 then symbols L limit bQ gd st else if k=2 then own L limit st else { st with bad:=true }
def oH (L:List Int)(limit:Int):Nat->Int->St->St
 | 0,_,st=>st
 | f+1,last,st =>
  if last≠0\/(st.bad||st.full)=true then st else
  let a:=take L st 1
  let k:=take L a.2 2
  if k.2.bad=true then k.2 else
  oH L limit f a.1 (block L limit k.1 { k.2 with kinds:=k.2.kinds++[k.1] })
def inflate (L:List Int)(limit:Int):St:=oH L limit (L.length+2) 0 ⟨0,false,false,[],[]⟩
def Grow (a b:St):Prop:=a.pos<=b.pos/\b.out.length+258*a.pos<=a.out.length+258*b.pos
theorem Grow.refl (a:St):Grow a a:=⟨aah _,aah _⟩
theorem Grow.trans {a b c:St}(h:Grow a b)(k:Grow b c):Grow a c:=⟨abe h.1 k.1,by have:=h.2;have:=k.2;omega⟩
theorem Grow.same {a b:St}(h:b.out=a.out)(hp:a.pos<=b.pos):Grow a b:=⟨hp,by rw[h];omega⟩
theorem iZ (L:List Int)(st:St)(n:Nat):Grow st (take L st n).2:=.same (aZ L st n).1 (eV L st n)
theorem zD (L ls cd:List Int)(st:St):Grow st (symbol L ls cd st).2:=.same (fK L ls cd st).1 (jA L ls cd st)
theorem Je (L:List Int):∀(f:Nat) (st:St),st.pos<=(iK L f st).pos/\(iK L f st).out.length+st.pos<=st.out.length+(iK L f st).pos+1/\(st.bad=true->iK L f st=st)
 | 0,st=>⟨aah _,by simp only[iK];omega,fun _=>rfl⟩
 | f+1,st=>by
  rw[iK];split
  ·exact⟨aah _,by omega,fun _=>rfl⟩
  ·rename_i hb;have ih:=Je L f { (take L st 8).2 with out:=(take L st 8).2.out++[UInt8.ofNat (take L st 8).1.toNat] };have ho:=(aZ L st 8).1;have hm:=eV L st 8;have hl:((take L st 8).2.out++[UInt8.ofNat (take L st 8).1.toNat]).length=st.out.length+1:=by rw[ho];simp
   cases Ce:(take L st 8).2.bad
   ·have hp:=(eH L st 8 Ce).1;have i1:=ih.1;have i2:=ih.2.1;simp only at i1 i2 ⊢;rw[hl]at i2;exact⟨by omega,by omega,fun h=>absurd h hb⟩
   ·have i3:=ih.2.2 Ce;simp only at i3 ⊢;rw[i3];simp only;rw[hl];exact⟨hm,by omega,fun h=>absurd h hb⟩
theorem Cf (L:List Int)(limit:Int)(st:St):Grow st (plain L limit st):=by
 have g1:=iZ L { st with pos:=(st.pos+7)/8*8 } 16;have g0:Grow st { st with pos:=(st.pos+7)/8*8 }:=.same rfl (by simp only;omega);have b1:=eH L { st with pos:=(st.pos+7)/8*8 } 16;unfold plain;simp only;generalize take L { st with pos:=(st.pos+7)/8*8 } 16=A at *;have g2:=iZ L A.2 16;have b2:=eH L A.2 16;have o2:=(aZ L A.2 16).1;generalize take L A.2 16=C at *;have g:=(g0.trans g1).trans g2;by_cases hs:A.1+C.1=65535
 ·simp only[aaj hs];split
  ·exact g
  ·rename_i hb;have hc:C.2.bad=false:=by cases h:C.2.bad<;>simp_all
   have p2:=(b2 hc).1;have h5:=sS limit C.2 A.1.toNat;generalize room limit C.2 A.1.toNat=R at *;have gR:Grow C.2 R.2:=.same h5.1 (by rw[h5.2.2.1];omega);split
   ·have hp:=Je L A.1.toNat R.2;have e1:=h5.2.2.1;have gg:=g.trans gR;refine⟨by have:=gg.1;omega,?_⟩;have h1:=(g0.trans g1).2;have h2:=(g0.trans g1).1;have h3:=hp.2.1;have h4:R.2.out.length=A.2.out.length:=by rw[h5.1,o2]
    have h6:=hp.1;omega
   ·exact g.trans gR
 ·simp only[aai hs,if_true];exact g
theorem tg {L:List Int}(hb:Bits L)(limit:Int)(ls cd far vS:List Int):∀(f:Nat) (st:St),Grow st (d9 L limit ls cd far vS f st)
 | 0,st=>.refl st
 | f+1,st=>by
  have g:=zD L ls cd st;rw[d9];split
  ·exact .refl st
  ·split
   ·exact g
   ·rename_i hx;have hbs:(symbol L ls cd st).2.bad=false:=by cases h:(symbol L ls cd st).2.bad<;>simp_all
    have hp:=sV L ls cd st hbs;have ho:=(fK L ls cd st).1;have h5:=sS limit (symbol L ls cd st).2 1
    have c:∀s:St,(symbol L ls cd st).2.pos<=s.pos/\s.out.length<=(symbol L ls cd st).2.out.length+258->Grow st (d9 L limit ls cd far vS f s):=fun s hs =>
     Grow.trans ⟨by omega,by rw[ho]at hs;omega⟩ (tg hb limit ls cd far vS f s)
    split
    ·apply c;split
     ·simp only;rw[h5.2.2.1,aac,h5.1];simp
     ·rw[h5.2.2.1,h5.1];omega
    ·split
     ·apply c;simp only;omega
     ·rename_i h1 h2;exact c _ (FK hb limit _ (by omega) far vS _)
theorem pA {L:List Int}(hb:Bits L)(limit:Int)(ls far:List Int)(st:St):Grow st (symbols L limit ls far st):=tg hb limit _ _ _ _ _ st
theorem qm (L:List Int):∀(f i:Nat) (ls:List Int) (st:St),Grow st (ik L f i ls st).2
 | 0,_,_,st=>.refl st
 | f+1,i,ls,st=>by
  rw[ik];split
  ·exact .refl st
  ·exact (iZ L st 3).trans (qm L f _ _ _)
theorem Jf {L:List Int}(hb:Bits L)(limit:Int)(st:St):Grow st (own L limit st):=by
 unfold own;simp only;have g:=((iZ L st 5).trans (iZ L (take L st 5).2 5)).trans (iZ L (take L (take L st 5).2 5).2 4);generalize take L (take L (take L st 5).2 5).2 4=K at *;have g2:=g.trans (qm L (K.1.toNat+4) 0 (List.replicate 19 0) K.2);generalize ik L (K.1.toNat+4) 0 (List.replicate 19 0) K.2=Q at *;split
 ·exact g2
 ·generalize ((take L st 5).1+(take L (take L st 5).2 5).1+258).toNat=n;have hl:=sZ L Q.1 n Q.2;have g3:=g2.trans (Grow.same hl.1 hl.2);split
  ·exact g3
  ·split
   ·exact g3
   ·exact g3.trans (pA hb limit _ _ _)
theorem Cg {L:List Int}(hb:Bits L)(limit k:Int)(st:St):Grow st (block L limit k st):=by
 unfold block;split
 ·exact Cf L limit st
 ·split
  ·exact pA hb limit _ _ st
  ·split
   ·exact Jf hb limit st
   ·exact .refl st
end Go.Proofs.YtmfijackgekioabGreatDoor.Rf
namespace Go.Proofs.YtmfijackgekioabGreatDoor
open Go.RowKit
theorem Jg (x:Nat)(h:x<4294967296):bits .xor .u32 ((x:Int)/2) (3988292384*bits .and .u32 (x:Int) 1%4294967296)=((Mx.UW x:Nat):Int):=by
 have e1:bits .and .u32 (x:Int) 1=((x%2:Nat):Int):=by
  have:=u32_and_nat x 1 h (by omega);rw[Nat.and_one_is_mod]at this;exact this
 rw[e1];have e2:(3988292384*((x%2:Nat):Int)%4294967296)=((3988292384*(x%2):Nat):Int):=by omega
 have e3:((x:Int)/2)=((x/2:Nat):Int):=by omega
 rw[e2,e3,u32_xor_nat _ _ (by omega) (by omega)];rfl
theorem Jh (x:Nat)(h:x<4294967296):bits .xor .u32 IntKind.u32.max (x:Int)=4294967295-(x:Int):=by
 have e:IntKind.u32.max=((4294967295:Nat):Int):=by decide
 rw[e,u32_xor_nat _ _ (by omega) h]
 have h2:4294967295^^^x=4294967295-x:=by
  apply Nat.eq_of_testBit_eq;intro i;have a:=Nat.testBit_two_pow_sub_one 32 i;have b:=Nat.testBit_two_pow_sub_succ (n:=32) (x:=x) (by omega) i;rw[show 2^32-1=4294967295 from rfl]at a;rw[show 2^32-(x+1)=4294967295-x by omega]at b;rw[Nat.testBit_xor,a,b];by_cases hi:i<32
  ·simp[hi]
  ·have:x.testBit i=false:=Nat.testBit_lt_two_pow (aaQ (m:=2^32) (by omega) (abs (by omega) (by omega)));simp[hi,this]
 rw[h2];omega
theorem QN (s:ByteArray)(w:World)(hs:s.size<=maxLen): Calls Tryz.prog 24 #[.string s] w fun e w'=>e=.returned (.int .i64 (4294967295-(Mx.oE s.data.toList:Int)))/\w'=w:=by
 unfold maxLen at hs
 go_enter Tryz.func24,Tryz.ntmps24
 go_wp2
 go_loop [3,8] (fun x i=>∃k:Nat,k<=s.size/\i=.int .i64 k/\x=.int .u32 (Mx.oE (s.data.toList.take k):Nat)) (fun _ i=>s.size-(intOf i).toNat)
 case atStart=>exact⟨0,aaq _,rfl,rfl⟩
 case round =>
  obtain⟨k,hk,rfl,rfl⟩:=hrel;have hr:=Mx.Em (s.data.toList.take k);by_cases hlt:k<s.size
  ·have HS:Hid (Mx.oE (s.data.toList.take (k+1))=Mx.Cd 8 (Mx.oE (s.data.toList.take k)^^^s[k].toNat)):=by rw[Mx.qj s k hlt];exact Mx.FL _ _
   have hc:(s[k].toNat:Int)<256:=by have:=s[k].toNat_lt;omega
   have e1:bits .xor .u32 (Mx.oE (s.data.toList.take k):Int) (s[k].toNat:Int)=((Mx.oE (s.data.toList.take k)^^^s[k].toNat:Nat):Int):=u32_xor_nat _ _ hr (by omega);have hq0:=Mx.Jb _ s[k].toNat hr (by omega);generalize Mx.oE (s.data.toList.take k)^^^s[k].toNat=q at *;go_wp2
   go_loop [3,17] (fun x i=>∃t:Nat,t<=8/\i=.int .i64 t/\x=.int .u32 (Mx.Cd t q:Nat)) (fun _ i=>8-(intOf i).toNat)
   case atStart=>exact⟨0,aaq _,rfl,rfl⟩
   case round =>
    obtain⟨t,ht,rfl,rfl⟩:=hrel;have hq:=Mx.El t q hq0;by_cases hlt':t<8
    ·go_wp2
     go_round
     case rel=>exact⟨t+1,by omega,by go_num,by rw[Jg _ hq];rfl⟩
     case measure=>simp[intOf];omega
    ·have Zt:t=8:=by omega
     subst Zt;go_wp2
     go_round
     case rel=>exact⟨k+1,by omega,by go_num,by rw[HS.out]⟩
     case measure=>simp[intOf];omega
  ·go_wp2
   go_ret
   refine⟨aI ?_,rfl⟩;rw[Jh _ hr,abf (by simp;omega)];rw[abf (by simp;omega)]at hr;exact IntWalk.wrap64_in _ (by omega)
theorem afb (s:ByteArray)(w:World)(hs:s.size<=maxLen): Calls Tryz.prog 13 #[.string s] w fun e w'=>e=.returned (.int .i64 (4294967295-(Mx.oE s.data.toList:Int)))/\w'=w:=by
 go_enter Tryz.func13,Tryz.ntmps13
 go_wp2_with (go_at_call 24;refine (QN s _ hs).mono ?_;rintro e w' ⟨rfl,rfl⟩)
 go_ret
 exact⟨rfl,rfl⟩
end Go.Proofs.YtmfijackgekioabGreatDoor
