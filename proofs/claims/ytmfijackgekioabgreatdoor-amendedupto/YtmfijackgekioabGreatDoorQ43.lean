import Derived.Test.YtmfijackgekioabGreatDoorQ42
import Derived.Lib.SmallJoins
set_option maxHeartbeats 4000000
set_option maxRecDepth 100000
namespace Go.Proofs.YtmfijackgekioabGreatDoor
open Go.RowKit Go.Maps
section
variable {P:Program} {ops:Array Oper} {Q:Exit->Act->World->Prop} {md:Region.Mode} {S:World->Prop} {z:Nat}
theorem Ed {i j k:Nat}{o p r:Oper}{fuel:Nat}{listed:Array Bool}{a:Act}{w:World}(hr:Region.ready md ops listed=[i,j,k])(ho:ops[i]?=some o)(hp:ops[j]?=some p)(hq:ops[k]?=some r)(h1:∀K':Act->World->Prop,(∀a w,(i≠z->S w)->fk P md ops Q S z fuel (listed.setIfInBounds i true) a w->K' a w)->if Region.wanted o (yielded ops a.tmps)=true then Oper.wp P o a w K' Q else K' (a.put o.dst undef) w)(h2:∀K':Act->World->Prop,(∀a w,(j≠z->S w)->fk P md ops Q S z fuel (listed.setIfInBounds j true) a w->K' a w)->if Region.wanted p (yielded ops a.tmps)=true then Oper.wp P p a w K' Q else K' (a.put p.dst undef) w)(h3:∀K':Act->World->Prop,(∀a w,(k≠z->S w)->fk P md ops Q S z fuel (listed.setIfInBounds k true) a w->K' a w)->if Region.wanted r (yielded ops a.tmps)=true then Oper.wp P r a w K' Q else K' (a.put r.dst undef) w): fk P md ops Q S z (fuel+1) listed a w:=by
 refine⟨fun e=>?_,fun x hx=>?_⟩
 ·rw[hr]at e;cases e
 ·rw[hr]at hx;have e:x=i\/x=j\/x=k:=by simpa using hx
  rcases e with e|e|e
  ·subst e;exact wpOp_step ho (fun K' hK=>h1 K' (fun a w hS hW=>hK a w ⟨hS,hW⟩))
  ·subst e;exact wpOp_step hp (fun K' hK=>h2 K' (fun a w hS hW=>hK a w ⟨hS,hW⟩))
  ·subst e;exact wpOp_step hq (fun K' hK=>h3 K' (fun a w hS hW=>hK a w ⟨hS,hW⟩))
end
theorem qY (u:World):(Instr.makeMap 198 none).run Tryz.prog u=.ok (.map (some u.heap.size)) (u.alloc (.map #[] 0)):=by
 simp[go_sem,Instr.makeMap]
def qa (T:ByteArray)(per:Nat):Prop:=per<=4500000/\Rf.uY (T.data.toList.take 65536) per
structure Nf (w:World) (T:ByteArray) (en M G per:Nat) (v:World):Prop where
 m:v.heap[M]?=some (.map #[] 0)
 g:aQ v G (List.replicate en 0)
 be:Below w.heap.size w v
 ge:w.heap.size<=M/\w.heap.size<=G
 per:(0<T.size->1<=per)/\qa T per
theorem qZ {w v:World}{T:ByteArray}{en M G per:Nat}(h:Nf w T en M G per v)(he:en=min T.size 32768): Fd (v.alloc (.cells #[.string T,.map (some M),.slice (some ⟨G,0,none⟩) en en,.int .i64 (per:Nat)] 200)) v.heap.size M G en per T 0/\(0<T.size->1<=per)/\qa T per/\Below w.heap.size w (v.alloc (.cells #[.string T,.map (some M),.slice (some ⟨G,0,none⟩) en en,.int .i64 (per:Nat)] 200))/\w.heap.size<=v.heap.size/\w.heap.size<=M/\w.heap.size<=G:=by
 have lm:M<v.heap.size:=aaa h.m;have lg:G<v.heap.size:=aaa h.g
 have hmg:M≠G:=fun e=>by
  have:=h.m;rw[e,show v.heap[G]?=_ from h.g]at this;simp at this
 refine⟨⟨ah v _,⟨.map [],0,Joins.ownsMap_empty (ak h.m _),aah _,⟨⟨[],rfl⟩,fun x _ hh=>by cases hh⟩⟩,⟨List.replicate en 0,ak h.g _,by simp,fun j=>?_⟩,he,by omega,by omega,hmg⟩,h.per.1,h.per.2,h.be.trans ((ae v _).mono h.be.size),h.be.size,h.ge.1,h.ge.2⟩
 have:(List.replicate en (0:Int)).getD j 0=0:=by
  rw[aab,ach];split<;>rfl
 omega
theorem BA (T:ByteArray)(w:World)(hT:T.size<=4500000): Calls Tryz.prog 143 #[.string T] w fun e w'=>∃F M G en per:Nat,e=.returned (.pointer (some ⟨F,0,none⟩))/\Fd w' F M G en per T 0/\(0<T.size->1<=per)/\qa T per/\Below w.heap.size w w'/\w.heap.size<=F/\w.heap.size<=M/\w.heap.size<=G:=by
 obtain⟨en,hen⟩:∃en,min T.size 32768=en:=⟨_,rfl⟩
 obtain⟨un,hun⟩:∃un,min T.size 65536=un:=⟨_,rfl⟩
 have m1:min (T.size:Int) 32768=(en:Int):=by omega
 have m2:min (T.size:Int) 65536=(un:Int):=by omega
 obtain⟨Z,hZ⟩:∃Z:List Value,Z=List.replicate en (.int .i64 0):=⟨_,rfl⟩
 have hmk:∀u:World,(Instr.makeSlice 22 (.int .i64 (en:Int)) (.int .i64 (en:Int))).run Tryz.prog u=.ok (.slice (some ⟨u.heap.size,0,none⟩) en en) (u.alloc (.cells Z.toArray 3)):=fun u=>By en (by omega) Z hZ u
 have HZ:Hid (∀u:World,aQ (u.alloc (.cells Z.toArray 3)) u.heap.size (List.replicate en 0)):=fun u=>by
  have:=ah u (.cells Z.toArray 3);rw[hZ,<-bJ]at this;rw[hZ,<-bJ];exact this
 have HU:(T.extract 0 un).size=un:=by rw[aaL];omega
 have UE:(T.extract 0 un).data.toList=T.data.toList.take 65536:=by
  rw[acs,acF,aco,Nat.sub_zero,acU,<-hun,<-List.take_take,abf (by rw[aa7,abm];exact Nat.min_le_right _ _)]
 have Qm:Hid (∀v:World,Calls Tryz.prog 158 #[.string (T.extract 0 un)] v fun e w'=>∃per:Nat,e=.returned (.int .i64 per)/\((0<T.size->1<=per)/\qa T per)/\Below v.heap.size v w'):=fun v=>(Mi (T.extract 0 un) v (by omega)).mono fun e w' ⟨per,h1,h2,h3,hL,h4⟩=>⟨per,h1,⟨fun h=>h2 (by omega),by omega,UE▸hL⟩,h4⟩
 clear UE;have ahu:un<=T.size:=by omega
 have aeN:(un:Int)<=(T.size:Int):=by omega
 have Ql:Hid (en=min T.size 32768):=hen.symm;have hmm:=qY;have hS:True:=trivial;have QC:Below w.heap.size w w.drew:=(aav _ _).drew;clear hen hun hT hZ HU
 go_enter Tryz.func143,Tryz.ntmps143
 go_wp2_with fail
 ·refine ax (fun _=>True) 999 ?_;generalize w.drew=v0 at *;refine ap [0] ?_
  iterate 1 (refine au hS ?_;try simp only[Act.put])
  refine aj ?_;refine ap [2,3] ?_
  iterate 2 (refine au hS ?_;try simp only[Act.put])
  refine aj ?_;refine aB 4 (v:=.int .i64 (en:Int)) ?_ hS ?_
  ·intro w hSw;(try dsimp only at hSw);go_simp;try with_reducible rfl
  simp only[Act.put];refine ap [6,7,8] ?_
  iterate 3 (refine au hS ?_;try simp only[Act.put])
  refine aj ?_;refine aB 9 (v:=.int .i64 (un:Int)) ?_ hS ?_
  ·intro w hSw;(try dsimp only at hSw);go_simp;try with_reducible rfl
  simp only[Act.put];refine aB 10 (v:=.string (T.extract 0 un)) ?_ hS ?_
  ·intro w hSw;(try dsimp only at hSw);go_simp;try with_reducible rfl
  simp only[Act.put];refine Ed (i:=1) (j:=5) (k:=11) (by kernel_rfl) rfl rfl rfl (fun K hK=>?_) (fun K hK=>?_) (fun K hK=>?_)
  ·go_simp;have key:∀v,v0.alloc (.map #[] 0)=v->Below v0.heap.size v0 v/\v.heap[v0.heap.size]?=some (.map #[] 0):=fun v e=>by subst e;exact⟨ae v0 _,ah v0 _⟩
   have vO:w.heap.size<=v0.heap.size:=QC.size;generalize Mn:World.alloc v0 _=v1;obtain⟨qd,Yd⟩:=key _ Mn;clear key Mn;generalize hM:v0.heap.size=M at Yd vO ⊢;have qd:Below w.heap.size w v1:=QC.trans (qd.mono QC.size);refine hK _ _ (fun _=>trivial) ?_;clear hK K;refine fp (i:=5) (j:=11) (by kernel_rfl) rfl rfl (fun K hK=>?_) (fun K hK=>?_)
   ·go_simp;have key:∀v,v1.alloc (.cells Z.toArray 3)=v->Below v1.heap.size v1 v/\aQ v v1.heap.size (List.replicate en 0):=fun v e=>by subst e;exact⟨ae v1 _,HZ.out v1⟩
    have vP:w.heap.size<=v1.heap.size:=qd.size;generalize vg:World.alloc v1 _=v2;obtain⟨jw,vG⟩:=key _ vg;clear key vg;generalize hG:v1.heap.size=G at vG vP ⊢;have IB:=(jw.block _ (aaa Yd)).trans Yd;have jw:Below w.heap.size w v2:=qd.trans (jw.mono qd.size);refine hK _ _ (fun _=>trivial) ?_;clear hK K;refine ag 11 fun K hK=>?_;go_simp;refine (Qm.out v2).mono ?_;rintro e v3 ⟨per,rfl,ia,iB⟩;have zm:=(iB.block _ (aaa IB)).trans IB;have qJ:=vG.keep iB;have iB:Below w.heap.size w v3:=jw.trans (iB.mono jw.size);refine hK _ _ (fun _=>trivial) ?_;clear hK K;have hn:Nf w T en M G per v3:=⟨zm,qJ,iB,⟨vO,vP⟩,ia⟩
    have HN:Hid (Nf w T en M G per v3):=hn;clear hn zm qJ iB ia vO vP;refine ap [12] ?_
    iterate 1 (refine au hS ?_;try simp only[Act.put])
    refine aj ?_;refine ag 13 fun K hK=>?_;go_simp;refine hK _ _ (fun _=>trivial) ?_;clear hK K;refine ag 14 fun K hK=>?_;go_simp;refine hK _ _ (fun _=>trivial) ?_;clear hK K;refine am ?_;go_wp2
    go_ret
    exact⟨v3.heap.size,M,G,en,per,rfl,qZ HN.out Ql.out⟩
   ·go_simp;refine (Qm.out v1).mono ?_;rintro e v2 ⟨per,rfl,ia,jw⟩;have IB:=(jw.block _ (aaa Yd)).trans Yd;have jw:Below w.heap.size w v2:=qd.trans (jw.mono qd.size);refine hK _ _ (fun _=>trivial) ?_;clear hK K;refine ag 5 fun K hK=>?_;go_simp;have key:∀v,v2.alloc (.cells Z.toArray 3)=v->Below v2.heap.size v2 v/\aQ v v2.heap.size (List.replicate en 0):=fun v e=>by subst e;exact⟨ae v2 _,HZ.out v2⟩
    have vP:w.heap.size<=v2.heap.size:=jw.size;generalize vh:World.alloc v2 _=v3;obtain⟨iB,qJ⟩:=key _ vh;clear key vh;generalize hG:v2.heap.size=G at qJ vP ⊢;have zm:=(iB.block _ (aaa IB)).trans IB;have iB:Below w.heap.size w v3:=jw.trans (iB.mono jw.size);refine hK _ _ (fun _=>trivial) ?_;clear hK K;have hn:Nf w T en M G per v3:=⟨zm,qJ,iB,⟨vO,vP⟩,ia⟩
    have HN:Hid (Nf w T en M G per v3):=hn;clear hn zm qJ iB ia vO vP;refine ap [12] ?_
    iterate 1 (refine au hS ?_;try simp only[Act.put])
    refine aj ?_;refine ag 13 fun K hK=>?_;go_simp;refine hK _ _ (fun _=>trivial) ?_;clear hK K;refine ag 14 fun K hK=>?_;go_simp;refine hK _ _ (fun _=>trivial) ?_;clear hK K;refine am ?_;go_wp2
    go_ret
    exact⟨v3.heap.size,M,G,en,per,rfl,qZ HN.out Ql.out⟩
  ·go_simp;have key:∀v,v0.alloc (.cells Z.toArray 3)=v->Below v0.heap.size v0 v/\aQ v v0.heap.size (List.replicate en 0):=fun v e=>by subst e;exact⟨ae v0 _,HZ.out v0⟩
   have vP:w.heap.size<=v0.heap.size:=QC.size;generalize Mn:World.alloc v0 _=v1;obtain⟨qd,N6⟩:=key _ Mn;clear key Mn;generalize hG:v0.heap.size=G at N6 vP ⊢;have qd:Below w.heap.size w v1:=QC.trans (qd.mono QC.size);refine hK _ _ (fun _=>trivial) ?_;clear hK K;refine fp (i:=1) (j:=11) (by kernel_rfl) rfl rfl (fun K hK=>?_) (fun K hK=>?_)
   ·go_simp;have key:∀v,v1.alloc (.map #[] 0)=v->Below v1.heap.size v1 v/\v.heap[v1.heap.size]?=some (.map #[] 0):=fun v e=>by subst e;exact⟨ae v1 _,ah v1 _⟩
    have vO:w.heap.size<=v1.heap.size:=qd.size;generalize vg:World.alloc v1 _=v2;obtain⟨jw,IB⟩:=key _ vg;clear key vg;generalize hM:v1.heap.size=M at IB vO ⊢;have vG:=N6.keep jw;have jw:Below w.heap.size w v2:=qd.trans (jw.mono qd.size);refine hK _ _ (fun _=>trivial) ?_;clear hK K;refine ag 11 fun K hK=>?_;go_simp;refine (Qm.out v2).mono ?_;rintro e v3 ⟨per,rfl,ia,iB⟩;have zm:=(iB.block _ (aaa IB)).trans IB;have qJ:=vG.keep iB;have iB:Below w.heap.size w v3:=jw.trans (iB.mono jw.size);refine hK _ _ (fun _=>trivial) ?_;clear hK K;have hn:Nf w T en M G per v3:=⟨zm,qJ,iB,⟨vO,vP⟩,ia⟩
    have HN:Hid (Nf w T en M G per v3):=hn;clear hn zm qJ iB ia vO vP;refine ap [12] ?_
    iterate 1 (refine au hS ?_;try simp only[Act.put])
    refine aj ?_;refine ag 13 fun K hK=>?_;go_simp;refine hK _ _ (fun _=>trivial) ?_;clear hK K;refine ag 14 fun K hK=>?_;go_simp;refine hK _ _ (fun _=>trivial) ?_;clear hK K;refine am ?_;go_wp2
    go_ret
    exact⟨v3.heap.size,M,G,en,per,rfl,qZ HN.out Ql.out⟩
   ·go_simp;refine (Qm.out v1).mono ?_;rintro e v2 ⟨per,rfl,ia,jw⟩;have vG:=N6.keep jw;have jw:Below w.heap.size w v2:=qd.trans (jw.mono qd.size);refine hK _ _ (fun _=>trivial) ?_;clear hK K;refine ag 1 fun K hK=>?_;go_simp;have key:∀v,v2.alloc (.map #[] 0)=v->Below v2.heap.size v2 v/\v.heap[v2.heap.size]?=some (.map #[] 0):=fun v e=>by subst e;exact⟨ae v2 _,ah v2 _⟩
    have vO:w.heap.size<=v2.heap.size:=jw.size;generalize vh:World.alloc v2 _=v3;obtain⟨iB,zm⟩:=key _ vh;clear key vh;generalize hM:v2.heap.size=M at zm vO ⊢;have qJ:=vG.keep iB;have iB:Below w.heap.size w v3:=jw.trans (iB.mono jw.size);refine hK _ _ (fun _=>trivial) ?_;clear hK K;have hn:Nf w T en M G per v3:=⟨zm,qJ,iB,⟨vO,vP⟩,ia⟩
    have HN:Hid (Nf w T en M G per v3):=hn;clear hn zm qJ iB ia vO vP;refine ap [12] ?_
    iterate 1 (refine au hS ?_;try simp only[Act.put])
    refine aj ?_;refine ag 13 fun K hK=>?_;go_simp;refine hK _ _ (fun _=>trivial) ?_;clear hK K;refine ag 14 fun K hK=>?_;go_simp;refine hK _ _ (fun _=>trivial) ?_;clear hK K;refine am ?_;go_wp2
    go_ret
    exact⟨v3.heap.size,M,G,en,per,rfl,qZ HN.out Ql.out⟩
  ·go_simp;refine (Qm.out v0).mono ?_;rintro e v1 ⟨per,rfl,ia,qd⟩;have qd:Below w.heap.size w v1:=QC.trans (qd.mono QC.size);refine hK _ _ (fun _=>trivial) ?_;clear hK K;refine fp (i:=1) (j:=5) (by kernel_rfl) rfl rfl (fun K hK=>?_) (fun K hK=>?_)
   ·go_simp;have key:∀v,v1.alloc (.map #[] 0)=v->Below v1.heap.size v1 v/\v.heap[v1.heap.size]?=some (.map #[] 0):=fun v e=>by subst e;exact⟨ae v1 _,ah v1 _⟩
    have vO:w.heap.size<=v1.heap.size:=qd.size;generalize vg:World.alloc v1 _=v2;obtain⟨jw,IB⟩:=key _ vg;clear key vg;generalize hM:v1.heap.size=M at IB vO ⊢;have jw:Below w.heap.size w v2:=qd.trans (jw.mono qd.size);refine hK _ _ (fun _=>trivial) ?_;clear hK K;refine ag 5 fun K hK=>?_;go_simp;have key:∀v,v2.alloc (.cells Z.toArray 3)=v->Below v2.heap.size v2 v/\aQ v v2.heap.size (List.replicate en 0):=fun v e=>by subst e;exact⟨ae v2 _,HZ.out v2⟩
    have vP:w.heap.size<=v2.heap.size:=jw.size;generalize vh:World.alloc v2 _=v3;obtain⟨iB,qJ⟩:=key _ vh;clear key vh;generalize hG:v2.heap.size=G at qJ vP ⊢;have zm:=(iB.block _ (aaa IB)).trans IB;have iB:Below w.heap.size w v3:=jw.trans (iB.mono jw.size);refine hK _ _ (fun _=>trivial) ?_;clear hK K;have hn:Nf w T en M G per v3:=⟨zm,qJ,iB,⟨vO,vP⟩,ia⟩
    have HN:Hid (Nf w T en M G per v3):=hn;clear hn zm qJ iB ia vO vP;refine ap [12] ?_
    iterate 1 (refine au hS ?_;try simp only[Act.put])
    refine aj ?_;refine ag 13 fun K hK=>?_;go_simp;refine hK _ _ (fun _=>trivial) ?_;clear hK K;refine ag 14 fun K hK=>?_;go_simp;refine hK _ _ (fun _=>trivial) ?_;clear hK K;refine am ?_;go_wp2
    go_ret
    exact⟨v3.heap.size,M,G,en,per,rfl,qZ HN.out Ql.out⟩
   ·go_simp;have key:∀v,v1.alloc (.cells Z.toArray 3)=v->Below v1.heap.size v1 v/\aQ v v1.heap.size (List.replicate en 0):=fun v e=>by subst e;exact⟨ae v1 _,HZ.out v1⟩
    have vP:w.heap.size<=v1.heap.size:=qd.size;generalize vg:World.alloc v1 _=v2;obtain⟨jw,vG⟩:=key _ vg;clear key vg;generalize hG:v1.heap.size=G at vG vP ⊢;have jw:Below w.heap.size w v2:=qd.trans (jw.mono qd.size);refine hK _ _ (fun _=>trivial) ?_;clear hK K;refine ag 1 fun K hK=>?_;go_simp;have key:∀v,v2.alloc (.map #[] 0)=v->Below v2.heap.size v2 v/\v.heap[v2.heap.size]?=some (.map #[] 0):=fun v e=>by subst e;exact⟨ae v2 _,ah v2 _⟩
    have vO:w.heap.size<=v2.heap.size:=jw.size;generalize vh:World.alloc v2 _=v3;obtain⟨iB,zm⟩:=key _ vh;clear key vh;generalize hM:v2.heap.size=M at zm vO ⊢;have qJ:=vG.keep iB;have iB:Below w.heap.size w v3:=jw.trans (iB.mono jw.size);refine hK _ _ (fun _=>trivial) ?_;clear hK K;have hn:Nf w T en M G per v3:=⟨zm,qJ,iB,⟨vO,vP⟩,ia⟩
    have HN:Hid (Nf w T en M G per v3):=hn;clear hn zm qJ iB ia vO vP;refine ap [12] ?_
    iterate 1 (refine au hS ?_;try simp only[Act.put])
    refine aj ?_;refine ag 13 fun K hK=>?_;go_simp;refine hK _ _ (fun _=>trivial) ?_;clear hK K;refine ag 14 fun K hK=>?_;go_simp;refine hK _ _ (fun _=>trivial) ?_;clear hK K;refine am ?_;go_wp2
    go_ret
    exact⟨v3.heap.size,M,G,en,per,rfl,qZ HN.out Ql.out⟩
theorem Ye (S:List (Nat×Nat))(j:Nat)(h:j<S.length):(ig S)[j*2]?=some (.int .i64 ((S.getD j (0,0)).1:Nat))/\(ig S)[j*2+1]?=some (.int .i64 ((S.getD j (0,0)).2:Nat)):=by
 induction S generalizing j with
 | nil=>simp at h
 | cons x r ih =>
  have e:ig (x::r)=[.int .i64 (x.1:Nat),.int .i64 (x.2:Nat)]++ig r:=by simp[ig]
  cases j with
  | zero=>rw[e];exact⟨rfl,rfl⟩
  | succ j =>
   have:=ih j (by simpa using h);rw[e,show (j+1)*2=2+j*2 by omega,show 2+j*2+1=2+(j*2+1) by omega];rw[aaM (by simp),aaM (by simp)];simpa using this
theorem zg.steps {w:World}{Xs B:Nat}{S:List (Nat×Nat)}{sv:Value}(h:zg w Xs S sv)(hB:B<=Xs):Steps w sv S B:=by
 refine⟨aV h.own,fun hn=>?_⟩;rcases h.own.2 with⟨_,h0⟩|⟨g,cap,cur,hv,hg,hblk,hnc,hcm,hcs,htake⟩
 ·exact absurd (aaG h0) hn
 ·refine⟨g,cap,hv,by omega,cur,hblk,by have:=abt 2 hnc;omega,fun j hj=>?_⟩;obtain⟨a,b⟩:=Ye S j hj;rw[<-htake,abZ,aaj (by omega),acS]at a b;exact⟨a,b⟩
structure FF (w:World) (Xf Xs F M G en per:Nat) (T:ByteArray) (N:Nat) (S:List (Nat×Nat)) (sv:Value):Prop where
 f:bG w Xf (.pointer (some ⟨F,0,none⟩)) 183
 fd:Fd w F M G en per T N
 st:zg w Xs S sv
 lt:F<Xs/\M<Xs/\G<Xs/\Xf<Xs
 ne:Xf≠F/\Xf≠M/\Xf≠G
theorem Mp {w:World}{base n:Nat}{v:Value}{xs:List Value}(h:w.ownsRow base 187 2 v n xs):∃ao cap,v=.slice ao n cap/\w.ownsRow base 187 2 (.slice ao 0 cap) 0 []/\(ao=none->cap=0):=by
 rcases h.2 with⟨rfl,rfl⟩|⟨g,cap,cur,rfl,hg,hblk,hnc,hcm,hcs,htake⟩
 ·exact⟨_,_,rfl,⟨rfl,.inl ⟨rfl,rfl⟩⟩,fun _=>rfl⟩
 ·exact⟨_,_,rfl,⟨rfl,.inr ⟨g,cap,cur,rfl,hg,hblk,aaq _,hcm,hcs,by simp⟩⟩,fun e=>nomatch e⟩
theorem O9 (Xf Xs F M G en per start end_:Nat)(T:ByteArray)(S:List (Nat×Nat))(sv:Value)(w:World)(h:FF w Xf Xs F M G en per T start S sv)(hse:start<=end_)(hel:end_<=start+65535)(he:end_<=T.size)(hend:end_=min (start+65535) T.size)(hT:T.size<=4500000)(ia:0<T.size->1<=per)(KR:per<=4500000): Calls Tryz.prog 144 #[.int .i64 start,.int .i64 end_,.pointer (some ⟨Xs,0,none⟩),.pointer (some ⟨Xf,0,none⟩)] w fun e w'=>∃S' Ik,e=.returned Ik/\FF w' Xf Xs F M G en per T end_ S' Ik/\(Rf.Fits T.data.toList start S' end_/\Rf.Bw T.data.toList per (min (start+65535) T.size) start S')/\Kp (fun k=>k=M\/k=G\/k=Xs\/sv.ownBlock=some k) w w':=by
 obtain⟨ao,cap,rfl,hown0,hcap⟩:=Mp h.st.own;have hbx:=h.st.box;obtain⟨x0,x1,x2⟩:=one_cell hbx
 have hs0:zg (w.setCell ⟨Xs,0,none⟩ (.slice ao 0 cap)) Xs [] (.slice ao 0 cap) :=
  ⟨one_set hbx _,aJ hown0 (fun g hg=>aak _ ⟨Xs,0,none⟩ _ g (fun e=>by have:=(hown0.lt g hg).1;dsimp only at e;omega))⟩
 obtain⟨l1,l2,l3,l4⟩:=h.lt;have hf0:Fd (w.setCell ⟨Xs,0,none⟩ (.slice ao 0 cap)) F M G en per T start:=h.fd.kept (fun j hj=>aak _ ⟨Xs,0,none⟩ _ j (fun e=>by dsimp only at e;rcases hj with rfl|rfl|rfl<;>omega));have hf1:bG (w.setCell ⟨Xs,0,none⟩ (.slice ao 0 cap)) Xf (.pointer (some ⟨F,0,none⟩)) 183:=(aak _ ⟨Xs,0,none⟩ _ Xf (fun e=>by dsimp only at e;omega)).trans h.f;have hk0:Kp (fun k=>k=M\/k=G\/k=Xs\/(Value.slice ao S.length cap).ownBlock=some k) w (w.setCell ⟨Xs,0,none⟩ (.slice ao 0 cap)):=(Kp.refl _ _).setCell (p:=⟨Xs,0,none⟩) (.inl (.inr (.inr (.inl rfl)))) _;have Zm:(Value.slice ao 0 cap).ownBlock=(Value.slice ao S.length cap).ownBlock:=by cases ao<;>rfl
 have hst:=OZ F M G Xs en per start end_ T (.slice ao 0 cap) _ hf0 hs0 ⟨l1,l2,l3⟩ hse hel he hend hT ia KR;clear hend;have c1:=hf1.cell;have JR:(w.setCell ⟨Xs,0,none⟩ (.slice ao 0 cap)).heap.size=w.heap.size:=ab6 _ _ _;have hXl:Xs<w.heap.size:=x2;have hfl:=h.fd.lt;have HF:=h.ne;have HL:=h.lt;have zr:Hid (_/\_):=⟨hk0,hf1⟩
 have abY:Hid (∀g,(Value.slice ao 0 cap).ownBlock=some g->Xs+1<=g/\g<w.heap.size):=fun g hg=>hown0.lt g hg;clear h hs0 hf0 hf1 hown0 hbx hk0
 go_enter Tryz.func144,Tryz.ntmps144
 cases ao with
 | none =>
  obtain rfl:=hcap rfl;go_wp2_with fail;refine hst.mono ?_;rintro e w2 ⟨rfl,S2,sv2,D7,st2,Mq,_,uZ⟩;have c2:=st2.box.cell;obtain⟨hk0,hf1⟩:=zr.out;have hfx:bG w2 Xf (.pointer (some ⟨F,0,none⟩)) 183:=(uZ.block Xf (by rw[JR];omega) (fun e=>by rcases e with e|e|e|e;omega;omega;omega;cases e)).trans hf1;have HH:Hid (_/\_/\_):=⟨(⟨hfx,D7,st2,HL,HF⟩:FF w2 Xf Xs F M G en per T end_ S2 sv2),Mq,hk0.trans (Kp.mono uZ (fun k _ hk=>by rw[Zm]at hk;exact hk))⟩
  obtain⟨ao2,cap2,rfl⟩:=aV st2.own;clear hst D7 st2 Mq uZ hfx hk0 hf1 zr x0 x1 x2 c1 Zm;go_wp2
  go_ret
  exact⟨S2,_,rfl,HH.out⟩
 | some ad =>
  have ab0:Hid (Xs+1<=ad.block):=(abY.out ad.block rfl).1;go_wp2_with fail;refine hst.mono ?_;rintro e w2 ⟨rfl,S2,sv2,D7,st2,Mq,_,uZ⟩;have c2:=st2.box.cell;obtain⟨hk0,hf1⟩:=zr.out;have hfx:bG w2 Xf (.pointer (some ⟨F,0,none⟩)) 183:=(uZ.block Xf (by rw[JR];omega) (fun e=>by rcases e with e|e|e|e;omega;omega;omega;(simp only[Value.ownBlock,acw]at e;have:=ab0.out;omega))).trans hf1;have HH:Hid (_/\_/\_):=⟨(⟨hfx,D7,st2,HL,HF⟩:FF w2 Xf Xs F M G en per T end_ S2 sv2),Mq,hk0.trans (Kp.mono uZ (fun k _ hk=>by rw[Zm]at hk;exact hk))⟩
  obtain⟨ao2,cap2,rfl⟩:=aV st2.own;clear hst D7 st2 Mq uZ hfx hk0 hf1 zr x0 x1 x2 c1 Zm;go_wp2
  go_ret
  exact⟨S2,_,rfl,HH.out⟩
theorem TP (args:Array Value)(w:World):(callFunc 144 args).run Tryz.prog w=.ok (.enter 144 args) w:=by kernel_rfl
theorem TQ (args:Array Value)(w:World):(callFunc 142 args).run Tryz.prog w=.ok (.enter 142 args) w:=by kernel_rfl
theorem Pa (start end_:Int)(w:World):Calls Tryz.prog 142 #[.int .i64 start,.int .i64 end_] w fun e w'=>e=.returned (.slice none 0 0)/\w'=w:=by
 go_enter Tryz.func142,Tryz.ntmps142
 go_wp2
 go_ret
 exact⟨rfl,rfl⟩
theorem Ee (T:ByteArray)(level:Nat)(w:World)(hT:T.size<=4500000)(hl:level≠0): Calls Tryz.prog 116 #[.string T,.int .i64 level] w fun e w'=>∃Xf Xs F M G en per:Nat,e=.returned (.func (.func 144) #[] #[.pointer (some ⟨Xs,0,none⟩),.pointer (some ⟨Xf,0,none⟩)])/\FF w' Xf Xs F M G en per T 0 [] (.slice none 0 0)/\(0<T.size->1<=per)/\qa T per/\Below w.heap.size w w'/\w.heap.size<=M/\w.heap.size<=G/\w.heap.size<=Xs/\w.heap.size<=F/\w.heap.size<=Xf:=by
 have MJ:¬(level:Int)=0:=by omega
 go_enter Tryz.func116,Tryz.ntmps116
 go_wp2_with fail;refine (BA T w hT).mono ?_;rintro e w1 ⟨F,M,G,en,per,rfl,fd1,hp1,hp2,hb1,hF,hM,hG⟩;obtain⟨k0,q0,q1⟩:=bH w1 (.cells #[.pointer (some ⟨F,0,none⟩)] 183) (.cells #[.slice none 0 0] 161);have hlt:=fd1.lt;have hs:=hb1.size;have HH:Hid (_/\_):=⟨(⟨q0,fd1.below k0,⟨q1,⟨rfl,.inl ⟨rfl,rfl⟩⟩⟩,by omega,by omega⟩:FF ((w1.alloc (.cells #[.pointer (some ⟨F,0,none⟩)] 183)).alloc (.cells #[.slice none 0 0] 161)) w1.heap.size (w1.heap.size+1) F M G en per T 0 [] (.slice none 0 0)),hb1.trans (k0.mono hb1.size)⟩
 clear q0 q1 k0 fd1 hlt;go_wp2
 go_ret
 exact⟨_,_,F,M,G,en,per,rfl,HH.out.1,hp1,hp2,HH.out.2,hM,hG,by omega,hF,by omega⟩
theorem BB (T:ByteArray)(w:World):Calls Tryz.prog 116 #[.string T,.int .i64 0] w fun e w'=>e=.returned (.func (.func 142) #[] #[])/\w'=w:=by
 go_enter Tryz.func116,Tryz.ntmps116
 go_wp2
 go_ret
 exact⟨rfl,rfl⟩
theorem Pb (level:Nat)(hl:level=1\/level=2)(B:Nat)(last:Bool)(s:ByteArray)(ao:Option Addr)(cap:Nat)(steps:List (Nat×Nat))(W:List Int)(w:World)(h:aA w B W)(T:List UInt8)(p q:Nat)(hp:Part T p q s steps)(hst:Steps w (.slice ao steps.length cap) steps B)(hsv:∀SB cap',Value.slice ao steps.length cap=.slice (some ⟨SB,0,none⟩) steps.length cap'->SB<w.heap.size)(hW:W.length<=80000000): Calls Tryz.prog 117 #[.pointer (some ⟨B,0,none⟩),.string s,.slice ao steps.length cap,.bool last,.int .i64 level] w fun e w'=>∃v,e=.returned v/\pP w w' v B W T p q last level (ay Rf.bQ bd (ar s.data.toList 0 steps)).length:=by
 rcases hl with rfl|rfl
 ·exact Sw B last s ao cap steps W w h T p q hp hst hsv hW
 ·exact Sz B last s ao cap steps W w h T p q hp hst hsv hW
theorem BD (T:ByteArray)(p q:Nat):(T.extract p q).data.toList=(T.data.toList.take q).drop p:=by
 rw[acs,acF,aco,List.drop_take]
theorem aA.kp {w w':World}{B:Nat}{W:List Int}{Q:Nat->Prop}(h:aA w B W)(k:Kp Q w w')(hq:∀j cs t fr,w.heap[j]?=some (Obj.cells cs t fr)->(t=156\/t=5)->¬Q j):aA w' B W:=by
 obtain⟨pv,P,h⟩:=h;refine⟨pv,P,(k.block _ h.lt (hq _ _ _ _ h.blk (.inl rfl))).trans h.blk,aJ h.own (fun g hg=>?_),h.hold⟩;rcases h.own.2 with⟨rfl,_⟩|⟨b,cap,cur,rfl,_,hb,_⟩
 ·simp[Value.ownBlock]at hg
 ·simp only[Value.ownBlock,acw]at hg;subst hg;exact k.block _ (aaa hb) (hq _ _ _ _ hb (.inr rfl))
theorem TR {B j:Nat}{w w':World}(h:Fr B w w')(hj:B<j)(hl:j<w.heap.size)(hn:∀cs fr,w.heap[j]?≠some (Obj.cells cs 5 fr)):w'.heap[j]?=w.heap[j]?:=h.other j hj hl (fun c fr e=>hn c fr e)
theorem FF.fr {w w':World}{B Xf Xs F M G en per N:Nat}{T:ByteArray}{S:List (Nat×Nat)}{sv:Value}(h:FF w Xf Xs F M G en per T N S sv)(f:Fr B w w')(hB:B<F/\B<M/\B<G/\B<Xf):FF w' Xf Xs F M G en per T N S sv:=by
 obtain⟨lF,lM,lG⟩:=h.fd.lt;obtain⟨D,q,hM,_⟩:=h.fd.map;obtain⟨es,hG,_⟩:=h.fd.Wk;obtain⟨es',clock,VC,_⟩:=hM;have hl:=h.lt;refine⟨h.f.fr f (by omega) (by decide),h.fd.kept (fun j hj=>?_),h.st.kept (fun j hj=>?_),h.lt,h.ne⟩
 ·rcases hj with rfl|rfl|rfl
  ·exact f.kept (by omega) h.fd.box (by decide)
  ·exact TR f (by omega) lM (fun cs fr e=>by rw[VC]at e;simp at e)
  ·exact f.kept (by omega) hG (by decide)
 ·rcases hj with rfl|hj
  ·exact f.kept (by omega) h.st.box (by decide)
  ·rcases h.st.own.2 with⟨rfl,_⟩|⟨g,cap,cur,rfl,hg,hblk,_⟩
   ·cases hj
   ·simp only[Value.ownBlock,acw]at hj;subst hj;exact f.kept (by omega) hblk (by decide)
theorem FF.below {w w':World}{Xf Xs F M G en per N:Nat}{T:ByteArray}{S:List (Nat×Nat)}{sv:Value}(h:FF w Xf Xs F M G en per T N S sv)(k:Below w.heap.size w w'):FF w' Xf Xs F M G en per T N S sv :=
 ⟨h.f.below k,h.fd.below k,h.st.below k,h.lt,h.ne⟩
structure Lv (T:ByteArray) (level B:Nat) (kf:Nat) (aO:Array Value) (J:World->Nat->Prop) (R:World->Nat->Nat->Value->Prop) (per:Nat):Prop where
 call:∀args w,(callFunc kf args).run Tryz.prog w=.ok (.enter kf args) w
 split:∀w p q W,J w p->aA w B W->p<=q->q<=p+65535->q<=T.size->q=min (p+65535) T.size->Calls Tryz.prog kf (#[.int .i64 (p:Nat),.int .i64 (q:Nat)]++aO) w fun e w'=>∃sv,e=.returned sv/\R w' p q sv/\aA w' B W/\Below B w w'
 Mr:∀w p q sv W last,R w p q sv->aA w B W->W.length<=80000000->p<=q->q<=p+65535->q<=T.size->Calls Tryz.prog 117 #[.pointer (some ⟨B,0,none⟩),.string (T.extract p q),sv,.bool last,.int .i64 (level:Nat)] w fun e w'=>∃v,e=.returned v/\∃C,pP w w' v B W T.data.toList p q last level C/\(1<=level->Rf.Iv T.data.toList per->per<=32768->C<=QB per q p+7)
 next:∀w w' p q sv,R w p q sv->Fr B w w'->J w' q
 below:∀w w' p q sv,R w p q sv->Below w.heap.size w w'->R w' p q sv
 drew:∀w p,J w p->J w.drew p
theorem Pc (T:ByteArray)(B:Nat):Lv T 0 B 142 #[] (fun _ _=>True) (fun _ _ _ sv=>sv=.slice none 0 0) 0 where
 call:=TQ
 split:=fun w p q W _ hw _ _ _ _=>(Pa p q w).mono fun e w' ⟨h1,h2⟩=>⟨_,h1,rfl,h2▸hw,h2▸aav _ _⟩
 Mr:=fun w p q sv W last hr hw hW hpq hq hT=>by
  subst hr;exact (Sv B last (T.extract p q) _ W w hw T.data.toList p q (BD T p q) hpq (by rw[abm];exact hT) (by omega) hW 0).mono fun e w' ⟨v,h1,h2⟩=>⟨v,h1,0,h2,fun h=>absurd h (by decide)⟩
 next:=fun _ _ _ _ _ _ _=>trivial
 below:=fun _ _ _ _ _ h _=>h
 drew:=fun _ _ _=>trivial
theorem Pd (T:ByteArray)(level B Xf Xs F M G en per:Nat)(hl:level=1\/level=2)(hT:T.size<=4500000)(ia:0<T.size->1<=per)(KR:qa T per)(hB:B<F/\B<M/\B<G/\B<Xf): Lv T level B 144 #[.pointer (some ⟨Xs,0,none⟩),.pointer (some ⟨Xf,0,none⟩)] (fun w p=>∃S sv,FF w Xf Xs F M G en per T p S sv) (fun w p q sv=>∃S,FF w Xf Xs F M G en per T q S sv/\Rf.Fits T.data.toList p S q/\Rf.Bw T.data.toList per q p S) per where
 call:=TP
 split:=fun w p q W ⟨S,sv,hs⟩ hw hpq hq Zn hqe=>(O9 Xf Xs F M G en per p q T S sv w hs hpq hq Zn hqe hT ia KR.1).mono fun e w' ⟨S',Ik,h1,h2,h3,h4⟩=>by
  obtain⟨D,qq,hM,_⟩:=hs.fd.map;obtain⟨es,hG,_⟩:=hs.fd.Wk;obtain⟨es',clock,VC,_⟩:=hM;have hlt:=hs.lt;refine⟨Ik,h1,⟨S',h2,h3.1,by have:=h3.2;rwa [<-hqe]at this⟩,hw.kp h4 (fun j cs t fr hj ht hq=>?_),h4.below (acV hw.lt) (fun k _ hk=>?_)⟩
  ·rcases hq with rfl|rfl|rfl|hq
   ·rw[VC]at hj;simp at hj
   ·rw[show w.heap[j]?=_ from hG]at hj;simp at hj;rcases ht with ht|ht
    ·rw[ht]at hj;exact absurd hj.2.1 (by decide)
    ·rw[ht]at hj;exact absurd hj.2.1 (by decide)
   ·rw[show w.heap[j]?=_ from hs.st.box]at hj;simp at hj;rcases ht with ht|ht
    ·rw[ht]at hj;exact absurd hj.2.1 (by decide)
    ·rw[ht]at hj;exact absurd hj.2.1 (by decide)
   ·rcases hs.st.own.2 with⟨rfl,_⟩|⟨g,cap,cur,rfl,hg,hblk,_⟩
    ·cases hq
    ·simp only[Value.ownBlock,acw]at hq;subst hq;rw[hblk]at hj;simp at hj;rcases ht with ht|ht
     ·rw[ht]at hj;exact absurd hj.2.1 (by decide)
     ·rw[ht]at hj;exact absurd hj.2.1 (by decide)
  ·rcases hk with rfl|rfl|rfl|hk
   ·omega
   ·omega
   ·omega
   ·have:=(hs.st.lt k hk).1;omega
 Mr:=fun w p q sv W last ⟨S,hs,hf,hbg⟩ hw hW hpq hq Zn=>by
  obtain⟨ao,cap,rfl⟩:=aV hs.st.own;have hlt:=hs.lt
  refine (Pb level hl B last (T.extract p q) ao cap S W w hw T.data.toList p q ⟨BD T p q,hpq,by rw[abm];exact Zn,by omega,hf⟩ (hs.st.steps (by omega)) (fun SB cap' e=>by
   simp only[abH,acm]at e
   exact (hs.st.lt SB (by rw[e.1];rfl)).2) hW).mono fun e w' ⟨v,h1,h2⟩=>⟨v,h1,_,h2,fun _ hP hp=>FE _ _ per q hP hp (by rw[abm];exact Zn) S 0 p hf hbg⟩
 next:=fun w w' p q sv ⟨S,hs,hf,_⟩ f=>⟨S,sv,hs.fr f hB⟩
 below:=fun w w' p q sv ⟨S,hs,hf,hg⟩ k=>⟨S,hs.below k,hf,hg⟩
 drew:=fun w p ⟨S,sv,hs⟩=>⟨S,sv,hs.below (aav _ _).drew⟩
theorem Ms (T:ByteArray)(level:Nat)(hl:level<=2)(hT:T.size<=4500000)(B:Nat)(u:World)(hB:B<u.heap.size): Calls Tryz.prog 116 #[.string T,.int .i64 level] u fun e w'=>∃kf aO J R per,e=.returned (.func (.func kf) #[] aO)/\Lv T level B kf aO J R per/\(1<=level->qa T per)/\J w' 0/\Below u.heap.size u w':=by
 by_cases h0:level=0
 ·subst h0;exact (BB T u).mono fun e w' ⟨h1,h2⟩=>⟨_,_,_,_,_,h1,Pc T B,fun h=>absurd h (by decide),trivial,h2▸aav _ _⟩
 ·refine (Ee T level u hT h0).mono fun e w' ⟨Xf,Xs,F,M,G,en,per,h1,h2,h3,h4,h5,h6,h7,_,h8,h9⟩=>?_;exact⟨_,_,_,_,_,h1,Pd T level B Xf Xs F M G en per (by omega) hT h3 h4 ⟨by omega,by omega,by omega,by omega⟩,fun _=>h4,⟨[],_,h2⟩,h5⟩
end Go.Proofs.YtmfijackgekioabGreatDoor
