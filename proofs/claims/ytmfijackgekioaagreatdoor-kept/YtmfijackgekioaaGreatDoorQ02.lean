import Derived.Test.YtmfijackgekioaaGreatDoorQ01
import Derived.Laws.BitsAllLaws
set_option maxHeartbeats 400000
set_option maxRecDepth 100000
namespace Go.Proofs.YtmfijackgekioaaGreatDoor
def Tz (_:List Nat)(G:Prop):Prop:=G
theorem ap {G:Prop}(l:List Nat)(h:Tz l G):G:=h
theorem ai {G:Prop}(h:G):Tz [] G:=h
section
variable {P:Program} {ops:Array Oper} {Q:Exit->Act->World->Prop} {md:Region.Mode} {S:World->Prop} {z:Nat}
def DR (md:Region.Mode)(ops:Array Oper)(listed:Array Bool)(z i:Nat)(oi:Oper)(X:Array Value):Bool :=
 Region.noSelect ops&&(Region.free md ops listed i&&((Region.ready md ops listed).contains i&&(waits md ops z i&&Region.wanted oi (yielded ops X))))
theorem ar {i:Nat}{is:List Nat}{oi:Oper}{v:Value}{fuel:Nat}{listed:Array Bool}{a:Act}{w:World}(hi:ops[i]?=some oi)(hk:DR md ops listed z i oi a.tmps=true)(hQ:∀c a w,Q (.panic c) (a.put oi.dst v) w->Q (.panic c) a w)(hy:∀w,S w->(execOp a.eval oi).run P w=.ok (.value v) w)(hS:S w)(h:Tz is (iJ P md ops Q S z fuel (listed.setIfInBounds i true) (a.put oi.dst v) w)):Tz (i::is) (iJ P md ops Q S z (fuel+1) listed a w):=by
 unfold DR at hk;simp only[Bool.and_eq_true]at hk;exact aw hi hk.1 hk.2.1 hk.2.2.1 hk.2.2.2.1 hQ hk.2.2.2.2 hy hS h
end
section
open Go.RowKit
abbrev bU (c:UInt8):Value:=.int .u8 c.toNat
theorem nD (k:Nat)(h:k<16):(1:Int)<=2^k/\(2:Int)^k<=32768:=by
 have h1:(2:Nat)^0<=2^k:=Nat.pow_le_pow_right (by omega) (by omega);have h2:(2:Nat)^k<=2^15:=Nat.pow_le_pow_right (by omega) (by omega);have e:((2:Int)^k)=((2^k:Nat):Int):=by simp
 rw[e];omega
theorem mA (n:Nat)(hn:n<=320)(Z:List Value)(hZ:Z=List.replicate n (.int .i64 0))(u:World): (Instr.makeSlice 24 (.int .i64 (n:Int)) (.int .i64 (n:Int))).run Tryz.prog u = .ok (.slice (some ⟨u.heap.size,0,none⟩) n n) (u.alloc (.cells Z.toArray 3)):=by
 obtain⟨i0,hi,hz0,hz1,hz2⟩:=info_parts Tryz.info3;have h:=run_make (P:=Tryz.prog) u 24 3 i0 (.int .i64 0) Tryz.underlying24 hi hz0 .i64 .i64 (n:Int) (n:Int) (by omega) (Int.le_refl _) (by rw[hz2];omega) (by omega)
 have e2:(madeCells #[Value.int .i64 0] n)=Z.toArray:=by
  rw[hZ,<-toList_madeCells_one]
 simpa[hz1,Value.cells,e2]using h
theorem bC (n:Nat):vals (List.replicate n 0)=List.replicate n (.int .i64 0):=by simp[vals]
theorem IA (l:List Int)(i:Nat)(x:Int):(vals l).toArray.setIfInBounds i (.int .i64 x)=(vals (l.set i x)).toArray:=by simp[vals,List.map_set]
structure Fr (B:Nat) (w w':World):Prop where
 below:Below B w w'
 other:∀k,B<k->k<w.heap.size->(∀c fr,w.heap[k]?≠some (.cells c 5 fr))->w'.heap[k]?=w.heap[k]?
theorem Fr.refl (B:Nat)(w:World):Fr B w w:=⟨Below.refl _ _,fun _ _ _ _=>rfl⟩
theorem Fr.trans {B:Nat}{a b c:World}(h:Fr B a b)(k:Fr B b c):Fr B a c :=
 ⟨h.below.trans k.below,fun i h1 h2 h3=>by
  have e:=h.other i h1 h2 h3
  exact (k.other i h1 (Nat.lt_of_lt_of_le h2 h.below.size) (fun c fr=>by rw[e];exact h3 c fr)).trans e⟩
theorem Fr.jo {B:Nat}{w w':World}(hB:B<=w.heap.size)(h:Kp (·=B) w w'):Fr B w w' :=
 ⟨h.below hB (fun _ _ e=>Nat.le_of_eq e.symm),fun k h1 h2 _=>h.block k h2 (Nat.ne_of_gt h1)⟩
theorem Fr.drewN {B:Nat}{a w:World}(h:Fr B a w)(n:Nat):Fr B a (w.drewN n):=⟨below_drewN h.below n,h.other⟩
theorem iZ {w:World}{base e n:Nat}{v:Value}{xs:List Value}(h:w.ownsRow base e 1 v n xs)(g:Nat)(hg:v.ownBlock=some g):∃cur,w.heap[g]?=some (.cells cur e (0,0)):=by
 rcases h.2 with⟨rfl,_⟩|⟨g',cap,cur,rfl,hb,hg',_⟩
 ·simp[Value.ownBlock]at hg
 ·simp[Value.ownBlock]at hg;subst hg;exact⟨cur,hg'⟩
theorem Tryz.info5:(Tryz.prog.info? 5).map (fun i=>(i.zero,i.size,i.bytes))=some (some (.int .u8 0),1,1):=by kernel_rfl
def aP (w:World)(g:Nat)(zs:List Int):Prop:=w.heap[g]?=some (.cells (vals zs).toArray 3 (0,0))
theorem aP.ints {w:World}{g:Nat}{zs:List Int}(h:aP w g zs):Ints w (some ⟨g,0,none⟩) zs :=
 fun j hj=>⟨g,0,rfl,(cell_of_row _ _ _ _ _ _ h).trans (by simp[vals,hj])⟩
theorem aP.set {w:World}{g:Nat}{zs:List Int}(h:aP w g zs)(i:Nat)(x:Int):aP (w.setCell ⟨g,i,none⟩ (.int .i64 x)) g (zs.set i x) :=
 (heap_setCell_same _ _ _ _ _ _ h).trans (by rw[IA])
abbrev part (n k:Nat)(f:Nat->Int):List Int:=(List.range n).map fun i=>if i<k then f i else 0
theorem sM (n k:Nat)(f:Nat->Int):(part n k f).set k (f k)=part n (k+1) f:=by
 apply List.ext_getElem
 ·simp
 ·intro i h1 h2;simp only[List.getElem_set,List.getElem_map,List.getElem_range];by_cases e:k=i
  ·subst e;simp
  ·rw[if_neg e];by_cases h:i<k
   ·rw[if_pos h,if_pos (by omega)]
   ·rw[if_neg h,if_neg (by omega)]
theorem qf (n:Nat)(f:Nat->Int):part n 0 f=List.replicate n 0:=by
 apply List.ext_getElem<;>simp
theorem sN (n:Nat)(f:Nat->Int):part n n f=(List.range n).map f:=by
 apply List.map_congr_left;intro i hi;rw[if_pos (List.mem_range.1 hi)]
theorem aP.cell {w:World}{g:Nat}{zs:List Int}(h:aP w g zs)(j:Nat)(hj:j<zs.length):w.cell? ⟨g,j,none⟩=some (.int .i64 zs[j]):=(cell_of_row _ _ _ _ _ _ h).trans (by simp[vals,hj])
theorem r8 {w w':World}{base e n:Nat}{v:Value}{xs:List Value}(h:w.ownsRow base e 1 v n xs)(hb:∀g,v.ownBlock=some g->w'.heap[g]?=w.heap[g]?):w'.ownsRow base e 1 v n xs:=by
 refine⟨h.1,?_⟩;rcases h.2 with h'|⟨g,cap,cur,rfl,hb',hg,hr⟩
 ·exact .inl h'
 ·exact .inr ⟨g,cap,cur,rfl,hb',(hb g rfl).trans hg,hr⟩
def IB:Value->Nat|.slice _ n _=>n|_=>0
theorem yW {w:World}{base e n:Nat}{v:Value}{xs:List Value}(h:w.ownsRow base e 1 v n xs)(hn:0<n): ∃g cap,v=.slice (some ⟨g,0,none⟩) n cap/\base<=g:=by
 rcases h.2 with⟨_,hx⟩|⟨g,cap,cur,rfl,hb,_⟩
 ·omega
 ·exact⟨g,cap,rfl,hb⟩
theorem nE (out:List Int)(k:Nat)(x:Int):vals (out++List.replicate (k+1) x)=vals (out++List.replicate k x)++[Value.int .i64 x]:=by
 simp[vals,List.replicate_succ']
structure X9 (w:World) (B:Nat) (ao:Option Addr) (ls:List Int):Prop where
 ints:Ints w ao ls
 ne:∀a,ao=some a->ls≠[]->a.block≠B/\∃c fr,w.heap[a.block]?=some (.cells c 3 fr)
theorem hidden {p:Prop}(h:p):Hid p:=h
theorem sO {w:World}{base n g cap:Nat}{zs:List Int}(h:w.ownsRow base 3 1 (.slice (some ⟨g,0,none⟩) n cap) n (vals zs))(j:Nat)(hj:j<zs.length):w.cell? ⟨g,j,none⟩=some (.int .i64 zs[j]):=by
 have hl:=h.1;rcases h.2 with⟨h',_⟩|⟨g',cap',cur,e,_,hb,_,_,_,ht⟩
 ·cases h'
 ·cases e;rw[cell_of_row _ _ _ _ _ _ hb];have h1:(cur.toList.take (n*1))[j]?=cur.toList[j]?:=by rw[List.getElem?_take,if_pos (by simp[vals]at hl;omega)]
  rw[ht]at h1;have h2:cur[j]?=cur.toList[j]?:=by simp
  rw[h2,<-h1];simp[vals,hj]
theorem Mk {w:World}{base n g cap B:Nat}{zs:List Int}(h:w.ownsRow base 3 1 (.slice (some ⟨g,0,none⟩) n cap) n (vals zs))(hg:g≠B)(m:Nat): X9 w B (some ⟨g,0,none⟩) (zs.take m)/\X9 w B (some ⟨g,m,none⟩) (zs.drop m):=by
 obtain⟨cur,hb⟩:=iZ h g rfl;refine⟨⟨fun j hj=>⟨g,0,rfl,?_⟩,fun a e _=>by cases e;exact⟨hg,_,_,hb⟩⟩,⟨fun j hj=>⟨g,m,rfl,?_⟩,fun a e _=>by cases e;exact⟨hg,_,_,hb⟩⟩⟩
 ·have hj':j<zs.length:=by simp at hj;omega
  have:=sO h j hj';simpa using this
 ·have hj':m+j<zs.length:=by simp at hj;omega
  have:=sO h (m+j) hj';simpa using this
theorem Ml {w:World}{base n g cap:Nat}{xs:List Value}(h:w.ownsRow base 3 1 (.slice (some ⟨g,0,none⟩) n cap) n xs):n<=cap/\cap<=maxLen/\g<w.heap.size:=by
 rcases h.2 with⟨h',_⟩|⟨g',cap',cur,e,_,hb,h1,h2,_⟩
 ·cases h'
 ·cases e;exact⟨h1,h2,lt_of_block hb⟩
theorem xh (L ls cd:List Int)(n:Nat):∀(f:Nat) (out:List Int) (st:Rf.St),(Rf.mc L ls cd n f out st).2.out=st.out/\st.pos<=(Rf.mc L ls cd n f out st).2.pos
 | 0,_,_=>⟨rfl,Nat.le_refl _⟩
 | f+1,out,st=>by
  have h1:=(Rf.fF L ls cd st).1;have h2:=Rf.jt L ls cd st;have t:∀k,(Rf.take L (Rf.symbol L ls cd st).2 k).2.out=st.out/\st.pos<=(Rf.take L (Rf.symbol L ls cd st).2 k).2.pos:=fun k=>⟨((Rf.aX L _ k).1).trans h1,Nat.le_trans h2 (Rf.eL L _ k)⟩
  have c:∀o s,s.out=st.out/\st.pos<=s.pos->(Rf.mc L ls cd n f o s).2.out=st.out/\st.pos<=(Rf.mc L ls cd n f o s).2.pos:=fun o s hs=>⟨(xh L ls cd n f o s).1.trans hs.1,Nat.le_trans hs.2 (xh L ls cd n f o s).2⟩
  simp only[Rf.mc];split
  ·exact⟨rfl,Nat.le_refl _⟩
  ·split
   ·exact⟨h1,h2⟩
   ·split
    ·exact c _ _ ⟨h1,h2⟩
    ·split
     ·split
      ·exact t 2
      ·exact c _ _ (t 2)
     ·split
      ·exact c _ _ (t 3)
      ·exact c _ _ (t 7)
theorem sP (L ls:List Int)(n:Nat)(st:Rf.St):(Rf.listed L ls n st).2.out=st.out/\st.pos<=(Rf.listed L ls n st).2.pos:=by
 have h:=xh L ls (Rf.codes ls) n (n+1) [] st;unfold Rf.listed;simp only;split
 ·exact h
 ·exact h
theorem one_cell {w:World}{b:Nat}{v:Value}{t:TypeId}(h:w.heap[b]?=some (.cells #[v] t (0,0))):w.cell? ⟨b,0,none⟩=some v/\w.frozen? ⟨b,0,none⟩=false/\b<w.heap.size :=
 ⟨cell_of_row _ _ _ _ _ _ h,frozen_of_row w b 0 _ _ h,lt_of_block h⟩
theorem one_set {w:World}{b:Nat}{v:Value}{t:TypeId}(h:w.heap[b]?=some (.cells #[v] t (0,0)))(u:Value):(w.setCell ⟨b,0,none⟩ u).heap[b]?=some (.cells #[u] t (0,0)):=(heap_setCell_same w b 0 _ _ u h).trans rfl
theorem aR {w:World}{C:Nat}{cs:Array Value}{t:TypeId}(h:w.heap[C]?=some (.cells cs t (0,0)))(j:Nat):w.cell? ⟨C,j,none⟩=cs[j]?:=by
 simp[World.cell?,h]
theorem ae (w:World)(o:Obj):Below w.heap.size w (w.alloc o):=(Below.refl _ _).alloc (Nat.le_refl _) _
theorem eU (b off j:Nat):(⟨b,off,none⟩:Addr).add j=⟨b,off+j,none⟩:=by
 unfold Addr.add;split
 ·next h=>rw[h,Nat.add_zero]
 ·rfl
theorem aT {w:World}{base e n:Nat}{v:Value}{xs:List Value}(h:w.ownsRow base e 2 v n xs):∃ao cap,v=.slice ao n cap:=by
 rcases h.2 with⟨rfl,rfl⟩|⟨g,cap,cur,rfl,_⟩
 ·exact⟨_,_,rfl⟩
 ·exact⟨_,_,rfl⟩
theorem aI {w w':World}{base:Nat}{e:TypeId}{size:Nat}{v:Value}{n:Nat}{xs:List Value}(h:w.ownsRow base e size v n xs)(hk:∀g,v.ownBlock=some g->w'.heap[g]?=w.heap[g]?):w'.ownsRow base e size v n xs:=by
 refine⟨h.1,?_⟩;rcases h.2 with h'|⟨g,cap,cur,rfl,hb,hg,r⟩
 ·exact .inl h'
 ·exact .inr ⟨g,cap,cur,rfl,hb,(hk g rfl).trans hg,r⟩
def bu (w:World)(X:Nat)(v:Value)(t:TypeId):Prop:=w.heap[X]?=some (.cells #[v] t (0,0))
theorem bu.below {w w':World}{X:Nat}{v:Value}{t:TypeId}(h:bu w X v t)(k:Below w.heap.size w w'):bu w' X v t:=(k.block _ (lt_of_block h)).trans h
theorem bu.cell {w:World}{X:Nat}{v:Value}{t:TypeId}(h:bu w X v t):w.cell? ⟨X,0,none⟩=some v:=(one_cell h).1
theorem oo (w:World)(o0 o1 o2 o3:Obj):Below w.heap.size w ((((w.alloc o0).alloc o1).alloc o2).alloc o3)/\((((w.alloc o0).alloc o1).alloc o2).alloc o3).heap[w.heap.size]?=some o0/\((((w.alloc o0).alloc o1).alloc o2).alloc o3).heap[w.heap.size+1]?=some o1/\((((w.alloc o0).alloc o1).alloc o2).alloc o3).heap[w.heap.size+1+1]?=some o2/\((((w.alloc o0).alloc o1).alloc o2).alloc o3).heap[w.heap.size+1+1+1]?=some o3:=by
 have a1:=ah (w.alloc o0) o1;have a2:=ah ((w.alloc o0).alloc o1) o2;have a3:=ah (((w.alloc o0).alloc o1).alloc o2) o3;simp only[World.size_alloc]at a1 a2 a3;exact⟨((((Below.refl _ _).alloc (Nat.le_refl _) _).alloc (by simp) _).alloc (by simp;omega) _).alloc (by simp;omega) _,am (am (am (ah w o0) _) _) _,am (am a1 _) _,am a2 _,a3⟩
theorem aL {w:World}{T:Nat}{a b:Value}{t:TypeId}(h:w.heap[T]?=some (.cells #[a,b] t (0,0))): w.cell? ⟨T,0,none⟩=some a/\w.cell? ⟨T,1,none⟩=some b/\(∀j,w.frozen? ⟨T,j,none⟩=false)/\T<w.heap.size :=
 ⟨cell_of_row _ _ _ _ _ _ h,cell_of_row _ _ _ _ _ _ h,fun j=>frozen_of_row w T j _ _ h,lt_of_block h⟩
theorem vB (w:World)(o0 o1 o2 o3 o4 o5:Obj):Below w.heap.size w ((((((w.alloc o0).alloc o1).alloc o2).alloc o3).alloc o4).alloc o5)/\((((((w.alloc o0).alloc o1).alloc o2).alloc o3).alloc o4).alloc o5).heap[w.heap.size]?=some o0/\((((((w.alloc o0).alloc o1).alloc o2).alloc o3).alloc o4).alloc o5).heap[w.heap.size+1]?=some o1/\((((((w.alloc o0).alloc o1).alloc o2).alloc o3).alloc o4).alloc o5).heap[w.heap.size+1+1]?=some o2/\((((((w.alloc o0).alloc o1).alloc o2).alloc o3).alloc o4).alloc o5).heap[w.heap.size+1+1+1]?=some o3/\((((((w.alloc o0).alloc o1).alloc o2).alloc o3).alloc o4).alloc o5).heap[w.heap.size+1+1+1+1]?=some o4/\((((((w.alloc o0).alloc o1).alloc o2).alloc o3).alloc o4).alloc o5).heap[w.heap.size+1+1+1+1+1]?=some o5:=by
 have a1:=ah (w.alloc o0) o1;have a2:=ah ((w.alloc o0).alloc o1) o2;have a3:=ah (((w.alloc o0).alloc o1).alloc o2) o3;have a4:=ah ((((w.alloc o0).alloc o1).alloc o2).alloc o3) o4;have a5:=ah (((((w.alloc o0).alloc o1).alloc o2).alloc o3).alloc o4) o5;simp only[World.size_alloc]at a1 a2 a3 a4 a5;exact⟨((((((Below.refl _ _).alloc (Nat.le_refl _) _).alloc (by simp) _).alloc (by simp;omega) _).alloc (by simp;omega) _).alloc (by simp;omega) _).alloc (by simp;omega) _,(am (am (am (am (am (ah w o0) _) _) _) _) _),(am (am (am (am a1 _) _) _) _),(am (am (am a2 _) _) _),(am (am a3 _) _),(am a4 _),a5⟩
theorem bJ (w:World)(o0 o1:Obj):Below w.heap.size w ((w.alloc o0).alloc o1)/\((w.alloc o0).alloc o1).heap[w.heap.size]?=some o0/\((w.alloc o0).alloc o1).heap[w.heap.size+1]?=some o1:=by
 have a1:=ah (w.alloc o0) o1;simp only[World.size_alloc]at a1;exact⟨((Below.refl _ _).alloc (Nat.le_refl _) _).alloc (by simp) _,(am (ah w o0) _),a1⟩
theorem fZ {w:World}{b:Nat}{a c:Value}{t:TypeId}(h:w.heap[b]?=some (.cells #[a,c] t (0,0)))(x y:Value):((w.setCell ⟨b,0,none⟩ x).setCell ⟨b,1,none⟩ y).heap[b]?=some (.cells #[x,y] t (0,0)) :=
 (heap_setCell_same _ b 1 _ _ y ((heap_setCell_same w b 0 _ _ x h).trans rfl)).trans rfl
theorem kH (w:World)(o0 o1 o2 o3 o4:Obj):Below w.heap.size w (((((w.alloc o0).alloc o1).alloc o2).alloc o3).alloc o4)/\(((((w.alloc o0).alloc o1).alloc o2).alloc o3).alloc o4).heap[w.heap.size]?=some o0/\(((((w.alloc o0).alloc o1).alloc o2).alloc o3).alloc o4).heap[w.heap.size+1]?=some o1/\(((((w.alloc o0).alloc o1).alloc o2).alloc o3).alloc o4).heap[w.heap.size+1+1]?=some o2/\(((((w.alloc o0).alloc o1).alloc o2).alloc o3).alloc o4).heap[w.heap.size+1+1+1]?=some o3/\(((((w.alloc o0).alloc o1).alloc o2).alloc o3).alloc o4).heap[w.heap.size+1+1+1+1]?=some o4:=by
 have a1:=ah (w.alloc o0) o1;have a2:=ah ((w.alloc o0).alloc o1) o2;have a3:=ah (((w.alloc o0).alloc o1).alloc o2) o3;have a4:=ah ((((w.alloc o0).alloc o1).alloc o2).alloc o3) o4;simp only[World.size_alloc]at a1 a2 a3 a4;exact⟨(((((Below.refl _ _).alloc (Nat.le_refl _) _).alloc (by simp) _).alloc (by simp;omega) _).alloc (by simp;omega) _).alloc (by simp;omega) _,(am (am (am (am (ah w o0) _) _) _) _),(am (am (am a1 _) _) _),(am (am a2 _) _),(am a3 _),a4⟩
theorem sQ {P:Program}{f:FuncId}{args:Array Value}{w:World}{x:Nat}{v:Value}(h:Calls P f args (w.drewN x) fun e w'=>e=.returned v/\∃n,w'=(w.drewN x).drewN n):Calls P f args (w.drewN x) fun e w''=>e=.returned v/\∃n,w''=w.drewN n :=
 h.mono fun _ _ ⟨he,n,hn⟩=>⟨he,x+n,by rw[hn];simp⟩
theorem gb {w w':World}{Q:Nat->Prop}{X:Nat}{o:Obj}(h:w.heap[X]?=some o)(k:Kp Q w w')(hq:¬Q X):w'.heap[X]?=some o:=(k.block X (lt_of_block h) hq).trans h
theorem byte_at (T:ByteArray)(j:Nat)(h:j<T.size):T[j].toNat=(T.data.toList.getD j 0).toNat:=by
 rw[List.getD_eq_getElem?_getD,List.getElem?_eq_getElem (by simpa using h)];rfl
theorem xj (T:ByteArray)(j:Nat)(h:j<T.size)(v:Int)(hv:v=(j:Int))(u:World):(Instr.index 9 (.string T) (.int .i64 v)).run Tryz.prog u=.ok (.int .u8 ((T.data.toList.getD j 0).toNat:Nat)) u:=by
 subst hv;rw[<-byte_at T j h];simp[go_sem,Instr.index,h]
end
end Go.Proofs.YtmfijackgekioaaGreatDoor
namespace Go.Proofs.YtmfijackgekioaaGreatDoor.Rf
def block (L:List Int)(limit:Int)(k:Int)(st:St):St :=
 if k=0 then plain L limit st else if k=1 then symbols L limit bH fV st else if k=2 then own L limit st else { st with bad:=true }
def oq (L:List Int)(limit:Int):Nat->Int->St->St
 | 0,_,st=>st
 | f+1,last,st =>
  if last≠0\/(st.bad||st.full)=true then st else
  let a:=take L st 1
  let k:=take L a.2 2
  if k.2.bad=true then k.2 else
  oq L limit f a.1 (block L limit k.1 { k.2 with kinds:=k.2.kinds++[k.1] })
def inflate (L:List Int)(limit:Int):St:=oq L limit (L.length+2) 0 ⟨0,false,false,[],[]⟩
def Grow (a b:St):Prop:=a.pos<=b.pos/\b.out.length+258*a.pos<=a.out.length+258*b.pos
theorem Grow.refl (a:St):Grow a a:=⟨Nat.le_refl _,Nat.le_refl _⟩
theorem Grow.trans {a b c:St}(h:Grow a b)(k:Grow b c):Grow a c:=⟨Nat.le_trans h.1 k.1,by have:=h.2;have:=k.2;omega⟩
theorem Grow.same {a b:St}(h:b.out=a.out)(hp:a.pos<=b.pos):Grow a b:=⟨hp,by rw[h];omega⟩
theorem iQ (L:List Int)(st:St)(n:Nat):Grow st (take L st n).2:=.same (aX L st n).1 (eL L st n)
theorem yX (L ls cd:List Int)(st:St):Grow st (symbol L ls cd st).2:=.same (fF L ls cd st).1 (jt L ls cd st)
theorem IC (L:List Int):∀(f:Nat) (st:St),st.pos<=(uV L f st).pos/\(uV L f st).out.length+st.pos<=st.out.length+(uV L f st).pos+1/\(st.bad=true->uV L f st=st)
 | 0,st=>⟨Nat.le_refl _,by simp only[uV];omega,fun _=>rfl⟩
 | f+1,st=>by
  rw[uV];split
  ·exact⟨Nat.le_refl _,by omega,fun _=>rfl⟩
  ·rename_i hb;have ih:=IC L f { (take L st 8).2 with out:=(take L st 8).2.out++[UInt8.ofNat (take L st 8).1.toNat] };have ho:=(aX L st 8).1;have hm:=eL L st 8;have hl:((take L st 8).2.out++[UInt8.ofNat (take L st 8).1.toNat]).length=st.out.length+1:=by rw[ho];simp
   cases Bx:(take L st 8).2.bad
   ·have hp:=(ew L st 8 Bx).1;have i1:=ih.1;have i2:=ih.2.1;simp only at i1 i2 ⊢;rw[hl]at i2;exact⟨by omega,by omega,fun h=>absurd h hb⟩
   ·have i3:=ih.2.2 Bx;simp only at i3 ⊢;rw[i3];simp only;rw[hl];exact⟨hm,by omega,fun h=>absurd h hb⟩
theorem By (L:List Int)(limit:Int)(st:St):Grow st (plain L limit st):=by
 have g1:=iQ L { st with pos:=(st.pos+7)/8*8 } 16;have g0:Grow st { st with pos:=(st.pos+7)/8*8 }:=.same rfl (by simp only;omega);have b1:=ew L { st with pos:=(st.pos+7)/8*8 } 16;unfold plain;simp only;generalize take L { st with pos:=(st.pos+7)/8*8 } 16=A at *;have g2:=iQ L A.2 16;have b2:=ew L A.2 16;have o2:=(aX L A.2 16).1;generalize take L A.2 16=C at *;have g:=(g0.trans g1).trans g2;by_cases hs:A.1+C.1=65535
 ·simp only[if_pos hs];split
  ·exact g
  ·rename_i hb;have hc:C.2.bad=false:=by cases h:C.2.bad<;>simp_all
   have p2:=(b2 hc).1;have h5:=sJ limit C.2 A.1.toNat;generalize room limit C.2 A.1.toNat=R at *;have gR:Grow C.2 R.2:=.same h5.1 (by rw[h5.2.2.1];omega);split
   ·have hp:=IC L A.1.toNat R.2;have e1:=h5.2.2.1;have gg:=g.trans gR;refine⟨by have:=gg.1;omega,?_⟩;have h1:=(g0.trans g1).2;have h2:=(g0.trans g1).1;have h3:=hp.2.1;have h4:R.2.out.length=A.2.out.length:=by rw[h5.1,o2]
    have h6:=hp.1;omega
   ·exact g.trans gR
 ·simp only[if_neg hs,if_true];exact g
theorem sR {L:List Int}(hb:Bits L)(limit:Int)(ls cd far vy:List Int):∀(f:Nat) (st:St),Grow st (dW L limit ls cd far vy f st)
 | 0,st=>.refl st
 | f+1,st=>by
  have g:=yX L ls cd st;rw[dW];split
  ·exact .refl st
  ·split
   ·exact g
   ·rename_i hx;have hbs:(symbol L ls cd st).2.bad=false:=by cases h:(symbol L ls cd st).2.bad<;>simp_all
    have hp:=sL L ls cd st hbs;have ho:=(fF L ls cd st).1;have h5:=sJ limit (symbol L ls cd st).2 1
    have c:∀s:St,(symbol L ls cd st).2.pos<=s.pos/\s.out.length<=(symbol L ls cd st).2.out.length+258->Grow st (dW L limit ls cd far vy f s):=fun s hs =>
     Grow.trans ⟨by omega,by rw[ho]at hs;omega⟩ (sR hb limit ls cd far vy f s)
    split
    ·apply c;split
     ·simp only;rw[h5.2.2.1,List.length_append,h5.1];simp
     ·rw[h5.2.2.1,h5.1];omega
    ·split
     ·apply c;simp only;omega
     ·rename_i h1 h2;exact c _ (Fe hb limit _ (by omega) far vy _)
theorem pg {L:List Int}(hb:Bits L)(limit:Int)(ls far:List Int)(st:St):Grow st (symbols L limit ls far st):=sR hb limit _ _ _ _ _ st
theorem qg (L:List Int):∀(f i:Nat) (ls:List Int) (st:St),Grow st (ia L f i ls st).2
 | 0,_,_,st=>.refl st
 | f+1,i,ls,st=>by
  rw[ia];split
  ·exact .refl st
  ·exact (iQ L st 3).trans (qg L f _ _ _)
theorem ID {L:List Int}(hb:Bits L)(limit:Int)(st:St):Grow st (own L limit st):=by
 unfold own;simp only;have g:=((iQ L st 5).trans (iQ L (take L st 5).2 5)).trans (iQ L (take L (take L st 5).2 5).2 4);generalize take L (take L (take L st 5).2 5).2 4=K at *;have g2:=g.trans (qg L (K.1.toNat+4) 0 (List.replicate 19 0) K.2);generalize ia L (K.1.toNat+4) 0 (List.replicate 19 0) K.2=Q at *;split
 ·exact g2
 ·generalize ((take L st 5).1+(take L (take L st 5).2 5).1+258).toNat=n;have hl:=sP L Q.1 n Q.2;have g3:=g2.trans (Grow.same hl.1 hl.2);split
  ·exact g3
  ·split
   ·exact g3
   ·exact g3.trans (pg hb limit _ _ _)
theorem Bz {L:List Int}(hb:Bits L)(limit k:Int)(st:St):Grow st (block L limit k st):=by
 unfold block;split
 ·exact By L limit st
 ·split
  ·exact pg hb limit _ _ st
  ·split
   ·exact ID hb limit st
   ·exact .refl st
end Go.Proofs.YtmfijackgekioaaGreatDoor.Rf
namespace Go.Proofs.YtmfijackgekioaaGreatDoor
open Go.RowKit
theorem IE (x:Nat)(h:x<4294967296):bits .xor .u32 ((x:Int)/2) (3988292384*bits .and .u32 (x:Int) 1%4294967296)=((Mx.Ut x:Nat):Int):=by
 have e1:bits .and .u32 (x:Int) 1=((x%2:Nat):Int):=by
  have:=u32_and_nat x 1 h (by omega);rw[Nat.and_one_is_mod]at this;exact this
 rw[e1];have e2:(3988292384*((x%2:Nat):Int)%4294967296)=((3988292384*(x%2):Nat):Int):=by omega
 have e3:((x:Int)/2)=((x/2:Nat):Int):=by omega
 rw[e2,e3,u32_xor_nat _ _ (by omega) (by omega)];rfl
theorem IG (x:Nat)(h:x<4294967296):bits .xor .u32 IntKind.u32.max (x:Int)=4294967295-(x:Int):=by
 have e:IntKind.u32.max=((4294967295:Nat):Int):=by decide
 rw[e,u32_xor_nat _ _ (by omega) h]
 have h2:4294967295^^^x=4294967295-x:=by
  apply Nat.eq_of_testBit_eq;intro i;have a:=Nat.testBit_two_pow_sub_one 32 i;have b:=Nat.testBit_two_pow_sub_succ (n:=32) (x:=x) (by omega) i;rw[show 2^32-1=4294967295 from rfl]at a;rw[show 2^32-(x+1)=4294967295-x by omega]at b;rw[Nat.testBit_xor,a,b];by_cases hi:i<32
  ·simp[hi]
  ·have:x.testBit i=false:=Nat.testBit_lt_two_pow (Nat.lt_of_lt_of_le (m:=2^32) (by omega) (Nat.pow_le_pow_right (by omega) (by omega)));simp[hi,this]
 rw[h2];omega
theorem Uu (s:ByteArray)(w:World)(hs:s.size<=maxLen): Calls Tryz.prog 106 #[.string s] w fun e w'=>e=.returned (.int .i64 (4294967295-(Mx.o9 s.data.toList:Int)))/\w'=w:=by
 unfold maxLen at hs
 go_enter Tryz.func106,Tryz.ntmps106
 go_wp2
 go_loop [3,8] (fun x i=>∃k:Nat,k<=s.size/\i=.int .i64 k/\x=.int .u32 (Mx.o9 (s.data.toList.take k):Nat)) (fun _ i=>s.size-(intOf i).toNat)
 case atStart=>exact⟨0,Nat.zero_le _,rfl,rfl⟩
 case round =>
  obtain⟨k,hk,rfl,rfl⟩:=hrel;have hr:=Mx.DQ (s.data.toList.take k);by_cases hlt:k<s.size
  ·have HS:Hid (Mx.o9 (s.data.toList.take (k+1))=Mx.Bw 8 (Mx.o9 (s.data.toList.take k)^^^s[k].toNat)):=by rw[Mx.qe s k hlt];exact Mx.Ff _ _
   have hc:(s[k].toNat:Int)<256:=by have:=s[k].toNat_lt;omega
   have e1:bits .xor .u32 (Mx.o9 (s.data.toList.take k):Int) (s[k].toNat:Int)=((Mx.o9 (s.data.toList.take k)^^^s[k].toNat:Nat):Int):=u32_xor_nat _ _ hr (by omega);have hq0:=Mx.Iz _ s[k].toNat hr (by omega);generalize Mx.o9 (s.data.toList.take k)^^^s[k].toNat=q at *;go_wp2
   go_loop [3,17] (fun x i=>∃t:Nat,t<=8/\i=.int .i64 t/\x=.int .u32 (Mx.Bw t q:Nat)) (fun _ i=>8-(intOf i).toNat)
   case atStart=>exact⟨0,Nat.zero_le _,rfl,rfl⟩
   case round =>
    obtain⟨t,ht,rfl,rfl⟩:=hrel;have hq:=Mx.DM t q hq0;by_cases hlt':t<8
    ·go_wp2
     go_round
     case rel=>exact⟨t+1,by omega,by go_num,by rw[IE _ hq];rfl⟩
     case measure=>simp[intOf];omega
    ·have YZ:t=8:=by omega
     subst YZ;go_wp2
     go_round
     case rel=>exact⟨k+1,by omega,by go_num,by rw[HS.out]⟩
     case measure=>simp[intOf];omega
  ·go_wp2
   go_ret
   refine⟨aH ?_,rfl⟩;rw[IG _ hr,List.take_of_length_le (by simp;omega)];rw[List.take_of_length_le (by simp;omega)]at hr;exact IntWalk.wrap64_in _ (by omega)
end Go.Proofs.YtmfijackgekioaaGreatDoor
