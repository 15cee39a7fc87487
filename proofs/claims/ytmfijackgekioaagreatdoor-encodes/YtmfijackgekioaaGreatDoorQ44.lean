import Derived.Test.YtmfijackgekioaaGreatDoorQ43
import Derived.Lib.SmallJoins
set_option maxHeartbeats 4000000
set_option maxRecDepth 100000
namespace Go.Proofs.YtmfijackgekioaaGreatDoor
open Go.RowKit Go.Maps
section
variable {P:Program} {ops:Array Oper} {Q:Exit->Act->World->Prop} {md:Region.Mode} {S:World->Prop} {z:Nat}
theorem Cx {i j k:Nat}{o p r:Oper}{fuel:Nat}{listed:Array Bool}{a:Act}{w:World}(hr:Region.ready md ops listed=[i,j,k])(ho:ops[i]?=some o)(hp:ops[j]?=some p)(hq:ops[k]?=some r)(h1:∀K':Act->World->Prop,(∀a w,(i≠z->S w)->dU P md ops Q S z fuel (listed.setIfInBounds i true) a w->K' a w)->if Region.wanted o (yielded ops a.tmps)=true then Oper.wp P o a w K' Q else K' (a.put o.dst undef) w)(h2:∀K':Act->World->Prop,(∀a w,(j≠z->S w)->dU P md ops Q S z fuel (listed.setIfInBounds j true) a w->K' a w)->if Region.wanted p (yielded ops a.tmps)=true then Oper.wp P p a w K' Q else K' (a.put p.dst undef) w)(h3:∀K':Act->World->Prop,(∀a w,(k≠z->S w)->dU P md ops Q S z fuel (listed.setIfInBounds k true) a w->K' a w)->if Region.wanted r (yielded ops a.tmps)=true then Oper.wp P r a w K' Q else K' (a.put r.dst undef) w): dU P md ops Q S z (fuel+1) listed a w:=by
 refine⟨fun e=>?_,fun x hx=>?_⟩
 ·rw[hr]at e;cases e
 ·rw[hr]at hx;have e:x=i\/x=j\/x=k:=by simpa using hx
  rcases e with e|e|e
  ·subst e;exact wpOp_step ho (fun K' hK=>h1 K' (fun a w hS hW=>hK a w ⟨hS,hW⟩))
  ·subst e;exact wpOp_step hp (fun K' hK=>h2 K' (fun a w hS hW=>hK a w ⟨hS,hW⟩))
  ·subst e;exact wpOp_step hq (fun K' hK=>h3 K' (fun a w hS hW=>hK a w ⟨hS,hW⟩))
end
theorem qv (u:World):(Instr.makeMap 235 none).run Tryz.prog u=.ok (.map (some u.heap.size)) (u.alloc (.map #[] 0)):=by
 simp[go_sem,Instr.makeMap]
def pF (T:ByteArray)(per:Nat):Prop:=per<=4500000/\Rf.ug (T.data.toList.take 65536) per
structure Nf (w:World) (T:ByteArray) (en M G per:Nat) (v:World):Prop where
 m:v.heap[M]?=some (.map #[] 0)
 g:aR v G (List.replicate en 0)
 be:Below w.heap.size w v
 ge:w.heap.size<=M/\w.heap.size<=G
 per:(0<T.size->1<=per)/\pF T per
theorem qx {w v:World}{T:ByteArray}{en M G per:Nat}(h:Nf w T en M G per v)(he:en=min T.size 32768): Fd (v.alloc (.cells #[.string T,.map (some M),.slice (some ⟨G,0,none⟩) en en,.int .i64 (per:Nat)] 237)) v.heap.size M G en per T 0/\(0<T.size->1<=per)/\pF T per/\Below w.heap.size w (v.alloc (.cells #[.string T,.map (some M),.slice (some ⟨G,0,none⟩) en en,.int .i64 (per:Nat)] 237))/\w.heap.size<=v.heap.size/\w.heap.size<=M/\w.heap.size<=G:=by
 have lm:M<v.heap.size:=aab h.m;have lg:G<v.heap.size:=aab h.g
 have hmg:M≠G:=fun e=>by
  have:=h.m;rw[e,show v.heap[G]?=_ from h.g]at this;simp at this
 refine⟨⟨ak v _,⟨.map [],0,Joins.ownsMap_empty (aw h.m _),aad _,⟨⟨[],rfl⟩,fun x _ hh=>by cases hh⟩⟩,⟨List.replicate en 0,aw h.g _,by simp,fun j=>?_⟩,he,by omega,by omega,hmg⟩,h.per.1,h.per.2,h.be.trans ((ag v _).mono h.be.size),h.be.size,h.ge.1,h.ge.2⟩
 have:(List.replicate en (0:Int)).getD j 0=0:=by
  rw[aaa,abK];split<;>rfl
 omega
theorem Ay (T:ByteArray)(w:World)(hT:T.size<=4500000): Calls Tryz.prog 178 #[.string T] w fun e w'=>∃F M G en per:Nat,e=.returned (.pointer (some ⟨F,0,none⟩))/\Fd w' F M G en per T 0/\(0<T.size->1<=per)/\pF T per/\Below w.heap.size w w'/\w.heap.size<=F/\w.heap.size<=M/\w.heap.size<=G:=by
 obtain⟨en,hen⟩:∃en,min T.size 32768=en:=⟨_,rfl⟩
 obtain⟨un,hun⟩:∃un,min T.size 65536=un:=⟨_,rfl⟩
 have m1:min (T.size:Int) 32768=(en:Int):=by omega
 have m2:min (T.size:Int) 65536=(un:Int):=by omega
 obtain⟨Z,hZ⟩:∃Z:List Value,Z=List.replicate en (.int .i64 0):=⟨_,rfl⟩
 have hmk:∀u:World,(Instr.makeSlice 24 (.int .i64 (en:Int)) (.int .i64 (en:Int))).run Tryz.prog u=.ok (.slice (some ⟨u.heap.size,0,none⟩) en en) (u.alloc (.cells Z.toArray 3)):=fun u=>Aw en (by omega) Z hZ u
 have HZ:Hid (∀u:World,aR (u.alloc (.cells Z.toArray 3)) u.heap.size (List.replicate en 0)):=fun u=>by
  have:=ak u (.cells Z.toArray 3);rw[hZ,<-aX]at this;rw[hZ,<-aX];exact this
 have HU:(T.extract 0 un).size=un:=by rw[aa7];omega
 have Ry:(T.extract 0 un).data.toList=T.data.toList.take 65536:=by
  rw[ab2,acg,abO,Nat.sub_zero,acv,<-hun,<-List.take_take,aav (by rw[aaQ,aaN];exact Nat.min_le_right _ _)]
 have Vn:Hid (∀v:World,Calls Tryz.prog 203 #[.string (T.extract 0 un)] v fun e w'=>∃per:Nat,e=.returned (.int .i64 per)/\((0<T.size->1<=per)/\pF T per)/\Below v.heap.size v w'):=fun v=>(Kj (T.extract 0 un) v (by omega)).mono fun e w' ⟨per,h1,h2,h3,hL,h4⟩=>⟨per,h1,⟨fun h=>h2 (by omega),by omega,Ry▸hL⟩,h4⟩
 clear Ry;have aeT:un<=T.size:=by omega
 have abF:(un:Int)<=(T.size:Int):=by omega
 have RI:Hid (en=min T.size 32768):=hen.symm;have hmm:=qv;have hS:True:=trivial;have Ot:Below w.heap.size w w.drew:=(aak _ _).drew;clear hen hun hT hZ HU
 go_enter Tryz.func178,Tryz.ntmps178
 go_wp2_with fail
 ·refine aE (fun _=>True) 999 ?_;generalize w.drew=v0 at *;refine am [0] ?_
  iterate 1 (refine ay hS ?_;try simp only[Act.put])
  refine aj ?_;refine am [2,3] ?_
  iterate 2 (refine ay hS ?_;try simp only[Act.put])
  refine aj ?_;refine ly 4 (v:=.int .i64 (en:Int)) ?_ hS ?_
  ·intro w hSw;(try dsimp only at hSw);go_simp;try with_reducible rfl
  simp only[Act.put];refine am [6,7,8] ?_
  iterate 3 (refine ay hS ?_;try simp only[Act.put])
  refine aj ?_;refine ly 9 (v:=.int .i64 (un:Int)) ?_ hS ?_
  ·intro w hSw;(try dsimp only at hSw);go_simp;try with_reducible rfl
  simp only[Act.put];refine ly 10 (v:=.string (T.extract 0 un)) ?_ hS ?_
  ·intro w hSw;(try dsimp only at hSw);go_simp;try with_reducible rfl
  simp only[Act.put];refine Cx (i:=1) (j:=5) (k:=11) (by kernel_rfl) rfl rfl rfl (fun K hK=>?_) (fun K hK=>?_) (fun K hK=>?_)
  ·go_simp;have key:∀v,v0.alloc (.map #[] 0)=v->Below v0.heap.size v0 v/\v.heap[v0.heap.size]?=some (.map #[] 0):=fun v e=>by subst e;exact⟨ag v0 _,ak v0 _⟩
   have uT:w.heap.size<=v0.heap.size:=Ot.size;generalize Ko:World.alloc v0 _=v1;obtain⟨pG,Vo⟩:=key _ Ko;clear key Ko;generalize hM:v0.heap.size=M at Vo uT ⊢;have pG:Below w.heap.size w v1:=Ot.trans (pG.mono Ot.size);refine hK _ _ (fun _=>trivial) ?_;clear hK K;refine eQ (i:=5) (j:=11) (by kernel_rfl) rfl rfl (fun K hK=>?_) (fun K hK=>?_)
   ·go_simp;have key:∀v,v1.alloc (.cells Z.toArray 3)=v->Below v1.heap.size v1 v/\aR v v1.heap.size (List.replicate en 0):=fun v e=>by subst e;exact⟨ag v1 _,HZ.out v1⟩
    have uU:w.heap.size<=v1.heap.size:=pG.size;generalize uv:World.alloc v1 _=v2;obtain⟨iW,uM⟩:=key _ uv;clear key uv;generalize hG:v1.heap.size=G at uM uU ⊢;have Gi:=(iW.block _ (aab Vo)).trans Vo;have iW:Below w.heap.size w v2:=pG.trans (iW.mono pG.size);refine hK _ _ (fun _=>trivial) ?_;clear hK K;refine ai 11 fun K hK=>?_;go_simp;refine (Vn.out v2).mono ?_;rintro e v3 ⟨per,rfl,gz,gQ⟩;have yi:=(gQ.block _ (aab Gi)).trans Gi;have p8:=uM.keep gQ;have gQ:Below w.heap.size w v3:=iW.trans (gQ.mono iW.size);refine hK _ _ (fun _=>trivial) ?_;clear hK K;have hn:Nf w T en M G per v3:=⟨yi,p8,gQ,⟨uT,uU⟩,gz⟩
    have HN:Hid (Nf w T en M G per v3):=hn;clear hn yi p8 gQ gz uT uU;refine am [12] ?_
    iterate 1 (refine ay hS ?_;try simp only[Act.put])
    refine aj ?_;refine ai 13 fun K hK=>?_;go_simp;refine hK _ _ (fun _=>trivial) ?_;clear hK K;refine ai 14 fun K hK=>?_;go_simp;refine hK _ _ (fun _=>trivial) ?_;clear hK K;refine ar ?_;go_wp2
    go_ret
    exact⟨v3.heap.size,M,G,en,per,rfl,qx HN.out RI.out⟩
   ·go_simp;refine (Vn.out v1).mono ?_;rintro e v2 ⟨per,rfl,gz,iW⟩;have Gi:=(iW.block _ (aab Vo)).trans Vo;have iW:Below w.heap.size w v2:=pG.trans (iW.mono pG.size);refine hK _ _ (fun _=>trivial) ?_;clear hK K;refine ai 5 fun K hK=>?_;go_simp;have key:∀v,v2.alloc (.cells Z.toArray 3)=v->Below v2.heap.size v2 v/\aR v v2.heap.size (List.replicate en 0):=fun v e=>by subst e;exact⟨ag v2 _,HZ.out v2⟩
    have uU:w.heap.size<=v2.heap.size:=iW.size;generalize uw:World.alloc v2 _=v3;obtain⟨gQ,p8⟩:=key _ uw;clear key uw;generalize hG:v2.heap.size=G at p8 uU ⊢;have yi:=(gQ.block _ (aab Gi)).trans Gi;have gQ:Below w.heap.size w v3:=iW.trans (gQ.mono iW.size);refine hK _ _ (fun _=>trivial) ?_;clear hK K;have hn:Nf w T en M G per v3:=⟨yi,p8,gQ,⟨uT,uU⟩,gz⟩
    have HN:Hid (Nf w T en M G per v3):=hn;clear hn yi p8 gQ gz uT uU;refine am [12] ?_
    iterate 1 (refine ay hS ?_;try simp only[Act.put])
    refine aj ?_;refine ai 13 fun K hK=>?_;go_simp;refine hK _ _ (fun _=>trivial) ?_;clear hK K;refine ai 14 fun K hK=>?_;go_simp;refine hK _ _ (fun _=>trivial) ?_;clear hK K;refine ar ?_;go_wp2
    go_ret
    exact⟨v3.heap.size,M,G,en,per,rfl,qx HN.out RI.out⟩
  ·go_simp;have key:∀v,v0.alloc (.cells Z.toArray 3)=v->Below v0.heap.size v0 v/\aR v v0.heap.size (List.replicate en 0):=fun v e=>by subst e;exact⟨ag v0 _,HZ.out v0⟩
   have uU:w.heap.size<=v0.heap.size:=Ot.size;generalize Ko:World.alloc v0 _=v1;obtain⟨pG,L6⟩:=key _ Ko;clear key Ko;generalize hG:v0.heap.size=G at L6 uU ⊢;have pG:Below w.heap.size w v1:=Ot.trans (pG.mono Ot.size);refine hK _ _ (fun _=>trivial) ?_;clear hK K;refine eQ (i:=1) (j:=11) (by kernel_rfl) rfl rfl (fun K hK=>?_) (fun K hK=>?_)
   ·go_simp;have key:∀v,v1.alloc (.map #[] 0)=v->Below v1.heap.size v1 v/\v.heap[v1.heap.size]?=some (.map #[] 0):=fun v e=>by subst e;exact⟨ag v1 _,ak v1 _⟩
    have uT:w.heap.size<=v1.heap.size:=pG.size;generalize uv:World.alloc v1 _=v2;obtain⟨iW,Gi⟩:=key _ uv;clear key uv;generalize hM:v1.heap.size=M at Gi uT ⊢;have uM:=L6.keep iW;have iW:Below w.heap.size w v2:=pG.trans (iW.mono pG.size);refine hK _ _ (fun _=>trivial) ?_;clear hK K;refine ai 11 fun K hK=>?_;go_simp;refine (Vn.out v2).mono ?_;rintro e v3 ⟨per,rfl,gz,gQ⟩;have yi:=(gQ.block _ (aab Gi)).trans Gi;have p8:=uM.keep gQ;have gQ:Below w.heap.size w v3:=iW.trans (gQ.mono iW.size);refine hK _ _ (fun _=>trivial) ?_;clear hK K;have hn:Nf w T en M G per v3:=⟨yi,p8,gQ,⟨uT,uU⟩,gz⟩
    have HN:Hid (Nf w T en M G per v3):=hn;clear hn yi p8 gQ gz uT uU;refine am [12] ?_
    iterate 1 (refine ay hS ?_;try simp only[Act.put])
    refine aj ?_;refine ai 13 fun K hK=>?_;go_simp;refine hK _ _ (fun _=>trivial) ?_;clear hK K;refine ai 14 fun K hK=>?_;go_simp;refine hK _ _ (fun _=>trivial) ?_;clear hK K;refine ar ?_;go_wp2
    go_ret
    exact⟨v3.heap.size,M,G,en,per,rfl,qx HN.out RI.out⟩
   ·go_simp;refine (Vn.out v1).mono ?_;rintro e v2 ⟨per,rfl,gz,iW⟩;have uM:=L6.keep iW;have iW:Below w.heap.size w v2:=pG.trans (iW.mono pG.size);refine hK _ _ (fun _=>trivial) ?_;clear hK K;refine ai 1 fun K hK=>?_;go_simp;have key:∀v,v2.alloc (.map #[] 0)=v->Below v2.heap.size v2 v/\v.heap[v2.heap.size]?=some (.map #[] 0):=fun v e=>by subst e;exact⟨ag v2 _,ak v2 _⟩
    have uT:w.heap.size<=v2.heap.size:=iW.size;generalize uw:World.alloc v2 _=v3;obtain⟨gQ,yi⟩:=key _ uw;clear key uw;generalize hM:v2.heap.size=M at yi uT ⊢;have p8:=uM.keep gQ;have gQ:Below w.heap.size w v3:=iW.trans (gQ.mono iW.size);refine hK _ _ (fun _=>trivial) ?_;clear hK K;have hn:Nf w T en M G per v3:=⟨yi,p8,gQ,⟨uT,uU⟩,gz⟩
    have HN:Hid (Nf w T en M G per v3):=hn;clear hn yi p8 gQ gz uT uU;refine am [12] ?_
    iterate 1 (refine ay hS ?_;try simp only[Act.put])
    refine aj ?_;refine ai 13 fun K hK=>?_;go_simp;refine hK _ _ (fun _=>trivial) ?_;clear hK K;refine ai 14 fun K hK=>?_;go_simp;refine hK _ _ (fun _=>trivial) ?_;clear hK K;refine ar ?_;go_wp2
    go_ret
    exact⟨v3.heap.size,M,G,en,per,rfl,qx HN.out RI.out⟩
  ·go_simp;refine (Vn.out v0).mono ?_;rintro e v1 ⟨per,rfl,gz,pG⟩;have pG:Below w.heap.size w v1:=Ot.trans (pG.mono Ot.size);refine hK _ _ (fun _=>trivial) ?_;clear hK K;refine eQ (i:=1) (j:=5) (by kernel_rfl) rfl rfl (fun K hK=>?_) (fun K hK=>?_)
   ·go_simp;have key:∀v,v1.alloc (.map #[] 0)=v->Below v1.heap.size v1 v/\v.heap[v1.heap.size]?=some (.map #[] 0):=fun v e=>by subst e;exact⟨ag v1 _,ak v1 _⟩
    have uT:w.heap.size<=v1.heap.size:=pG.size;generalize uv:World.alloc v1 _=v2;obtain⟨iW,Gi⟩:=key _ uv;clear key uv;generalize hM:v1.heap.size=M at Gi uT ⊢;have iW:Below w.heap.size w v2:=pG.trans (iW.mono pG.size);refine hK _ _ (fun _=>trivial) ?_;clear hK K;refine ai 5 fun K hK=>?_;go_simp;have key:∀v,v2.alloc (.cells Z.toArray 3)=v->Below v2.heap.size v2 v/\aR v v2.heap.size (List.replicate en 0):=fun v e=>by subst e;exact⟨ag v2 _,HZ.out v2⟩
    have uU:w.heap.size<=v2.heap.size:=iW.size;generalize uw:World.alloc v2 _=v3;obtain⟨gQ,p8⟩:=key _ uw;clear key uw;generalize hG:v2.heap.size=G at p8 uU ⊢;have yi:=(gQ.block _ (aab Gi)).trans Gi;have gQ:Below w.heap.size w v3:=iW.trans (gQ.mono iW.size);refine hK _ _ (fun _=>trivial) ?_;clear hK K;have hn:Nf w T en M G per v3:=⟨yi,p8,gQ,⟨uT,uU⟩,gz⟩
    have HN:Hid (Nf w T en M G per v3):=hn;clear hn yi p8 gQ gz uT uU;refine am [12] ?_
    iterate 1 (refine ay hS ?_;try simp only[Act.put])
    refine aj ?_;refine ai 13 fun K hK=>?_;go_simp;refine hK _ _ (fun _=>trivial) ?_;clear hK K;refine ai 14 fun K hK=>?_;go_simp;refine hK _ _ (fun _=>trivial) ?_;clear hK K;refine ar ?_;go_wp2
    go_ret
    exact⟨v3.heap.size,M,G,en,per,rfl,qx HN.out RI.out⟩
   ·go_simp;have key:∀v,v1.alloc (.cells Z.toArray 3)=v->Below v1.heap.size v1 v/\aR v v1.heap.size (List.replicate en 0):=fun v e=>by subst e;exact⟨ag v1 _,HZ.out v1⟩
    have uU:w.heap.size<=v1.heap.size:=pG.size;generalize uv:World.alloc v1 _=v2;obtain⟨iW,uM⟩:=key _ uv;clear key uv;generalize hG:v1.heap.size=G at uM uU ⊢;have iW:Below w.heap.size w v2:=pG.trans (iW.mono pG.size);refine hK _ _ (fun _=>trivial) ?_;clear hK K;refine ai 1 fun K hK=>?_;go_simp;have key:∀v,v2.alloc (.map #[] 0)=v->Below v2.heap.size v2 v/\v.heap[v2.heap.size]?=some (.map #[] 0):=fun v e=>by subst e;exact⟨ag v2 _,ak v2 _⟩
    have uT:w.heap.size<=v2.heap.size:=iW.size;generalize uw:World.alloc v2 _=v3;obtain⟨gQ,yi⟩:=key _ uw;clear key uw;generalize hM:v2.heap.size=M at yi uT ⊢;have p8:=uM.keep gQ;have gQ:Below w.heap.size w v3:=iW.trans (gQ.mono iW.size);refine hK _ _ (fun _=>trivial) ?_;clear hK K;have hn:Nf w T en M G per v3:=⟨yi,p8,gQ,⟨uT,uU⟩,gz⟩
    have HN:Hid (Nf w T en M G per v3):=hn;clear hn yi p8 gQ gz uT uU;refine am [12] ?_
    iterate 1 (refine ay hS ?_;try simp only[Act.put])
    refine aj ?_;refine ai 13 fun K hK=>?_;go_simp;refine hK _ _ (fun _=>trivial) ?_;clear hK K;refine ai 14 fun K hK=>?_;go_simp;refine hK _ _ (fun _=>trivial) ?_;clear hK K;refine ar ?_;go_wp2
    go_ret
    exact⟨v3.heap.size,M,G,en,per,rfl,qx HN.out RI.out⟩
theorem Vp (S:List (Nat×Nat))(j:Nat)(h:j<S.length):(gG S)[j*2]?=some (.int .i64 ((S.getD j (0,0)).1:Nat))/\(gG S)[j*2+1]?=some (.int .i64 ((S.getD j (0,0)).2:Nat)):=by
 induction S generalizing j with
 | nil=>simp at h
 | cons x r ih =>
  have e:gG (x::r)=[.int .i64 (x.1:Nat),.int .i64 (x.2:Nat)]++gG r:=by simp[gG]
  cases j with
  | zero=>rw[e];exact⟨rfl,rfl⟩
  | succ j =>
   have:=ih j (by simpa using h);rw[e,show (j+1)*2=2+j*2 by omega,show 2+j*2+1=2+(j*2+1) by omega];rw[aaG (by simp),aaG (by simp)];simpa using this
theorem x7.steps {w:World}{Xs B:Nat}{S:List (Nat×Nat)}{sv:Value}(h:x7 w Xs S sv)(hB:B<=Xs):Steps w sv S B:=by
 refine⟨aU h.own,fun hn=>?_⟩;rcases h.own.2 with⟨_,h0⟩|⟨g,cap,cur,hv,hg,hblk,hnc,hcm,hcs,htake⟩
 ·exact absurd (aau h0) hn
 ·refine⟨g,cap,hv,by omega,cur,hblk,by have:=aaU 2 hnc;omega,fun j hj=>?_⟩;obtain⟨a,b⟩:=Vp S j hj;rw[<-htake,abx,aaf (by omega),Array.getElem?_toList]at a b;exact⟨a,b⟩
structure Eh (w:World) (Xf Xs F M G en per:Nat) (T:ByteArray) (N:Nat) (S:List (Nat×Nat)) (sv:Value):Prop where
 f:bM w Xf (.pointer (some ⟨F,0,none⟩)) 212
 fd:Fd w F M G en per T N
 st:x7 w Xs S sv
 lt:F<Xs/\M<Xs/\G<Xs/\Xf<Xs
 ne:Xf≠F/\Xf≠M/\Xf≠G
theorem Kr {w:World}{base n:Nat}{v:Value}{xs:List Value}(h:w.ownsRow base 216 2 v n xs):∃ao cap,v=.slice ao n cap/\w.ownsRow base 216 2 (.slice ao 0 cap) 0 []/\(ao=none->cap=0):=by
 rcases h.2 with⟨rfl,rfl⟩|⟨g,cap,cur,rfl,hg,hblk,hnc,hcm,hcs,htake⟩
 ·exact⟨_,_,rfl,⟨rfl,.inl ⟨rfl,rfl⟩⟩,fun _=>rfl⟩
 ·exact⟨_,_,rfl,⟨rfl,.inr ⟨g,cap,cur,rfl,hg,hblk,aaj _,hcm,hcs,by simp⟩⟩,fun e=>nomatch e⟩
theorem M4 (Xf Xs F M G en per start end_:Nat)(T:ByteArray)(S:List (Nat×Nat))(sv:Value)(w:World)(h:Eh w Xf Xs F M G en per T start S sv)(hse:start<=end_)(hel:end_<=start+65535)(he:end_<=T.size)(hend:end_=min (start+65535) T.size)(hT:T.size<=4500000)(gz:0<T.size->1<=per)(I3:per<=4500000): Calls Tryz.prog 179 #[.int .i64 start,.int .i64 end_,.pointer (some ⟨Xs,0,none⟩),.pointer (some ⟨Xf,0,none⟩)] w fun e w'=>∃S' FY,e=.returned FY/\Eh w' Xf Xs F M G en per T end_ S' FY/\(Rf.Fits T.data.toList start S' end_/\Rf.Au T.data.toList per (min (start+65535) T.size) start S')/\Kp (fun k=>k=M\/k=G\/k=Xs\/sv.ownBlock=some k) w w':=by
 obtain⟨ao,cap,rfl,hown0,hcap⟩:=Kr h.st.own;have hbx:=h.st.box;obtain⟨x0,x1,x2⟩:=one_cell hbx
 have hs0:x7 (w.setCell ⟨Xs,0,none⟩ (.slice ao 0 cap)) Xs [] (.slice ao 0 cap) :=
  ⟨one_set hbx _,bK hown0 (fun g hg=>aag _ ⟨Xs,0,none⟩ _ g (fun e=>by have:=(hown0.lt g hg).1;dsimp only at e;omega))⟩
 obtain⟨l1,l2,l3,l4⟩:=h.lt;have hf0:Fd (w.setCell ⟨Xs,0,none⟩ (.slice ao 0 cap)) F M G en per T start:=h.fd.kept (fun j hj=>aag _ ⟨Xs,0,none⟩ _ j (fun e=>by dsimp only at e;rcases hj with rfl|rfl|rfl<;>omega));have hf1:bM (w.setCell ⟨Xs,0,none⟩ (.slice ao 0 cap)) Xf (.pointer (some ⟨F,0,none⟩)) 212:=(aag _ ⟨Xs,0,none⟩ _ Xf (fun e=>by dsimp only at e;omega)).trans h.f;have hk0:Kp (fun k=>k=M\/k=G\/k=Xs\/(Value.slice ao S.length cap).ownBlock=some k) w (w.setCell ⟨Xs,0,none⟩ (.slice ao 0 cap)):=(Kp.refl _ _).setCell (p:=⟨Xs,0,none⟩) (.inl (.inr (.inr (.inl rfl)))) _;have Wg:(Value.slice ao 0 cap).ownBlock=(Value.slice ao S.length cap).ownBlock:=by cases ao<;>rfl
 have hst:=M0 F M G Xs en per start end_ T (.slice ao 0 cap) _ hf0 hs0 ⟨l1,l2,l3⟩ hse hel he hend hT gz I3;clear hend;have c1:=hf1.cell;have KH:(w.setCell ⟨Xs,0,none⟩ (.slice ao 0 cap)).heap.size=w.heap.size:=aaY _ _ _;have GA:Xs<w.heap.size:=x2;have hfl:=h.fd.lt;have HF:=h.ne;have HL:=h.lt;have NS:Hid (_/\_):=⟨hk0,hf1⟩
 have Y6:Hid (∀g,(Value.slice ao 0 cap).ownBlock=some g->Xs+1<=g/\g<w.heap.size):=fun g hg=>hown0.lt g hg;clear h hs0 hf0 hf1 hown0 hbx hk0
 go_enter Tryz.func179,Tryz.ntmps179
 cases ao with
 | none =>
  obtain rfl:=hcap rfl;go_wp2_with fail;refine hst.mono ?_;rintro e w2 ⟨rfl,S2,Y7,Co,st2,Ks,_,m9⟩;have c2:=st2.box.cell;obtain⟨hk0,hf1⟩:=NS.out;have hfx:bM w2 Xf (.pointer (some ⟨F,0,none⟩)) 212:=(m9.block Xf (by rw[KH];omega) (fun e=>by rcases e with e|e|e|e;omega;omega;omega;cases e)).trans hf1;have HH:Hid (_/\_/\_):=⟨(⟨hfx,Co,st2,HL,HF⟩:Eh w2 Xf Xs F M G en per T end_ S2 Y7),Ks,hk0.trans (Kp.mono m9 (fun k _ hk=>by rw[Wg]at hk;exact hk))⟩
  obtain⟨KQ,cap2,rfl⟩:=aU st2.own;clear hst Co st2 Ks m9 hfx hk0 hf1 NS x0 x1 x2 c1 Wg;go_wp2
  go_ret
  exact⟨S2,_,rfl,HH.out⟩
 | some ad =>
  have Y8:Hid (Xs+1<=ad.block):=(Y6.out ad.block rfl).1;go_wp2_with fail;refine hst.mono ?_;rintro e w2 ⟨rfl,S2,Y7,Co,st2,Ks,_,m9⟩;have c2:=st2.box.cell;obtain⟨hk0,hf1⟩:=NS.out;have hfx:bM w2 Xf (.pointer (some ⟨F,0,none⟩)) 212:=(m9.block Xf (by rw[KH];omega) (fun e=>by rcases e with e|e|e|e;omega;omega;omega;(simp only[Value.ownBlock,abH]at e;have:=Y8.out;omega))).trans hf1;have HH:Hid (_/\_/\_):=⟨(⟨hfx,Co,st2,HL,HF⟩:Eh w2 Xf Xs F M G en per T end_ S2 Y7),Ks,hk0.trans (Kp.mono m9 (fun k _ hk=>by rw[Wg]at hk;exact hk))⟩
  obtain⟨KQ,cap2,rfl⟩:=aU st2.own;clear hst Co st2 Ks m9 hfx hk0 hf1 NS x0 x1 x2 c1 Wg;go_wp2
  go_ret
  exact⟨S2,_,rfl,HH.out⟩
theorem QO (args:Array Value)(w:World):(callFunc 179 args).run Tryz.prog w=.ok (.enter 179 args) w:=by kernel_rfl
theorem QP (args:Array Value)(w:World):(callFunc 177 args).run Tryz.prog w=.ok (.enter 177 args) w:=by kernel_rfl
theorem M5 (start end_:Int)(w:World):Calls Tryz.prog 177 #[.int .i64 start,.int .i64 end_] w fun e w'=>e=.returned (.slice none 0 0)/\w'=w:=by
 go_enter Tryz.func177,Tryz.ntmps177
 go_wp2
 go_ret
 exact⟨rfl,rfl⟩
theorem Cy (T:ByteArray)(level:Nat)(w:World)(hT:T.size<=4500000)(hl:level≠0): Calls Tryz.prog 137 #[.string T,.int .i64 level] w fun e w'=>∃Xf Xs F M G en per:Nat,e=.returned (.func (.func 179) #[] #[.pointer (some ⟨Xs,0,none⟩),.pointer (some ⟨Xf,0,none⟩)])/\Eh w' Xf Xs F M G en per T 0 [] (.slice none 0 0)/\(0<T.size->1<=per)/\pF T per/\Below w.heap.size w w'/\w.heap.size<=M/\w.heap.size<=G/\w.heap.size<=Xs/\w.heap.size<=F/\w.heap.size<=Xf:=by
 have KO:¬(level:Int)=0:=by omega
 go_enter Tryz.func137,Tryz.ntmps137
 go_wp2_with fail;refine (Ay T w hT).mono ?_;rintro e w1 ⟨F,M,G,en,per,rfl,fd1,hp1,hp2,hb1,hF,hM,hG⟩;obtain⟨k0,q0,q1⟩:=bO w1 (.cells #[.pointer (some ⟨F,0,none⟩)] 212) (.cells #[.slice none 0 0] 186);have hlt:=fd1.lt;have hs:=hb1.size;have HH:Hid (_/\_):=⟨(⟨q0,fd1.below k0,⟨q1,⟨rfl,.inl ⟨rfl,rfl⟩⟩⟩,by omega,by omega⟩:Eh ((w1.alloc (.cells #[.pointer (some ⟨F,0,none⟩)] 212)).alloc (.cells #[.slice none 0 0] 186)) w1.heap.size (w1.heap.size+1) F M G en per T 0 [] (.slice none 0 0)),hb1.trans (k0.mono hb1.size)⟩
 clear q0 q1 k0 fd1 hlt;go_wp2
 go_ret
 exact⟨_,_,F,M,G,en,per,rfl,HH.out.1,hp1,hp2,HH.out.2,hM,hG,by omega,hF,by omega⟩
theorem Az (T:ByteArray)(w:World):Calls Tryz.prog 137 #[.string T,.int .i64 0] w fun e w'=>e=.returned (.func (.func 177) #[] #[])/\w'=w:=by
 go_enter Tryz.func137,Tryz.ntmps137
 go_wp2
 go_ret
 exact⟨rfl,rfl⟩
theorem M6 (level:Nat)(hl:level=1\/level=2)(B:Nat)(last:Bool)(s:ByteArray)(ao:Option Addr)(cap:Nat)(steps:List (Nat×Nat))(W:List Int)(w:World)(h:aB w B W)(T:List UInt8)(p q:Nat)(hp:Part T p q s steps)(hst:Steps w (.slice ao steps.length cap) steps B)(hsv:∀SB cap',Value.slice ao steps.length cap=.slice (some ⟨SB,0,none⟩) steps.length cap'->SB<w.heap.size)(hW:W.length<=80000000): Calls Tryz.prog 138 #[.pointer (some ⟨B,0,none⟩),.string s,.slice ao steps.length cap,.bool last,.int .i64 level] w fun e w'=>∃v,e=.returned v/\o7 w w' v B W T p q last level (aA Rf.bE dF (ax s.data.toList 0 steps)).length:=by
 rcases hl with rfl|rfl
 ·exact PF B last s ao cap steps W w h T p q hp hst hsv hW
 ·exact PH B last s ao cap steps W w h T p q hp hst hsv hW
theorem AA (T:ByteArray)(p q:Nat):(T.extract p q).data.toList=(T.data.toList.take q).drop p:=by
 rw[ab2,acg,abO,List.drop_take]
theorem aB.kp {w w':World}{B:Nat}{W:List Int}{Q:Nat->Prop}(h:aB w B W)(k:Kp Q w w')(hq:∀j cs t fr,w.heap[j]?=some (Obj.cells cs t fr)->(t=181\/t=5)->¬Q j):aB w' B W:=by
 obtain⟨pv,P,h⟩:=h;refine⟨pv,P,(k.block _ h.lt (hq _ _ _ _ h.blk (.inl rfl))).trans h.blk,bK h.own (fun g hg=>?_),h.hold⟩;rcases h.own.2 with⟨rfl,_⟩|⟨b,cap,cur,rfl,_,hb,_⟩
 ·simp[Value.ownBlock]at hg
 ·simp only[Value.ownBlock,abH]at hg;subst hg;exact k.block _ (aab hb) (hq _ _ _ _ hb (.inr rfl))
theorem QR {B j:Nat}{w w':World}(h:Fr B w w')(hj:B<j)(hl:j<w.heap.size)(hn:∀cs fr,w.heap[j]?≠some (Obj.cells cs 5 fr)):w'.heap[j]?=w.heap[j]?:=h.other j hj hl (fun c fr e=>hn c fr e)
theorem Eh.fr {w w':World}{B Xf Xs F M G en per N:Nat}{T:ByteArray}{S:List (Nat×Nat)}{sv:Value}(h:Eh w Xf Xs F M G en per T N S sv)(f:Fr B w w')(hB:B<F/\B<M/\B<G/\B<Xf):Eh w' Xf Xs F M G en per T N S sv:=by
 obtain⟨lF,lM,lG⟩:=h.fd.lt;obtain⟨D,q,hM,_⟩:=h.fd.map;obtain⟨es,hG,_⟩:=h.fd.Tq;obtain⟨es',clock,Sn,_⟩:=hM;have hl:=h.lt;refine⟨h.f.fr f (by omega) (by decide),h.fd.kept (fun j hj=>?_),h.st.kept (fun j hj=>?_),h.lt,h.ne⟩
 ·rcases hj with rfl|rfl|rfl
  ·exact f.kept (by omega) h.fd.box (by decide)
  ·exact QR f (by omega) lM (fun cs fr e=>by rw[Sn]at e;simp at e)
  ·exact f.kept (by omega) hG (by decide)
 ·rcases hj with rfl|hj
  ·exact f.kept (by omega) h.st.box (by decide)
  ·rcases h.st.own.2 with⟨rfl,_⟩|⟨g,cap,cur,rfl,hg,hblk,_⟩
   ·cases hj
   ·simp only[Value.ownBlock,abH]at hj;subst hj;exact f.kept (by omega) hblk (by decide)
theorem Eh.below {w w':World}{Xf Xs F M G en per N:Nat}{T:ByteArray}{S:List (Nat×Nat)}{sv:Value}(h:Eh w Xf Xs F M G en per T N S sv)(k:Below w.heap.size w w'):Eh w' Xf Xs F M G en per T N S sv :=
 ⟨h.f.below k,h.fd.below k,h.st.below k,h.lt,h.ne⟩
structure Lv (T:ByteArray) (level B:Nat) (kf:Nat) (aN:Array Value) (J:World->Nat->Prop) (R:World->Nat->Nat->Value->Prop) (per:Nat):Prop where
 call:∀args w,(callFunc kf args).run Tryz.prog w=.ok (.enter kf args) w
 split:∀w p q W,J w p->aB w B W->p<=q->q<=p+65535->q<=T.size->q=min (p+65535) T.size->Calls Tryz.prog kf (#[.int .i64 (p:Nat),.int .i64 (q:Nat)]++aN) w fun e w'=>∃sv,e=.returned sv/\R w' p q sv/\aB w' B W/\Below B w w'
 Kt:∀w p q sv W last,R w p q sv->aB w B W->W.length<=80000000->p<=q->q<=p+65535->q<=T.size->Calls Tryz.prog 138 #[.pointer (some ⟨B,0,none⟩),.string (T.extract p q),sv,.bool last,.int .i64 (level:Nat)] w fun e w'=>∃v,e=.returned v/\∃C,o7 w w' v B W T.data.toList p q last level C/\(1<=level->Rf.Gc T.data.toList per->per<=32768->C<=Oq per q p+7)
 next:∀w w' p q sv,R w p q sv->Fr B w w'->J w' q
 below:∀w w' p q sv,R w p q sv->Below w.heap.size w w'->R w' p q sv
 drew:∀w p,J w p->J w.drew p
theorem M7 (T:ByteArray)(B:Nat):Lv T 0 B 177 #[] (fun _ _=>True) (fun _ _ _ sv=>sv=.slice none 0 0) 0 where
 call:=QP
 split:=fun w p q W _ hw _ _ _ _=>(M5 p q w).mono fun e w' ⟨h1,h2⟩=>⟨_,h1,rfl,h2▸hw,h2▸aak _ _⟩
 Kt:=fun w p q sv W last hr hw hW hpq hq hT=>by
  subst hr;exact (PE B last (T.extract p q) _ W w hw T.data.toList p q (AA T p q) hpq (by rw[aaN];exact hT) (by omega) hW 0).mono fun e w' ⟨v,h1,h2⟩=>⟨v,h1,0,h2,fun h=>absurd h (by decide)⟩
 next:=fun _ _ _ _ _ _ _=>trivial
 below:=fun _ _ _ _ _ h _=>h
 drew:=fun _ _ _=>trivial
theorem M8 (T:ByteArray)(level B Xf Xs F M G en per:Nat)(hl:level=1\/level=2)(hT:T.size<=4500000)(gz:0<T.size->1<=per)(I3:pF T per)(hB:B<F/\B<M/\B<G/\B<Xf): Lv T level B 179 #[.pointer (some ⟨Xs,0,none⟩),.pointer (some ⟨Xf,0,none⟩)] (fun w p=>∃S sv,Eh w Xf Xs F M G en per T p S sv) (fun w p q sv=>∃S,Eh w Xf Xs F M G en per T q S sv/\Rf.Fits T.data.toList p S q/\Rf.Au T.data.toList per q p S) per where
 call:=QO
 split:=fun w p q W ⟨S,sv,hs⟩ hw hpq hq Wh hqe=>(M4 Xf Xs F M G en per p q T S sv w hs hpq hq Wh hqe hT gz I3.1).mono fun e w' ⟨S',FY,h1,h2,h3,h4⟩=>by
  obtain⟨D,qq,hM,_⟩:=hs.fd.map;obtain⟨es,hG,_⟩:=hs.fd.Tq;obtain⟨es',clock,Sn,_⟩:=hM;have hlt:=hs.lt;refine⟨FY,h1,⟨S',h2,h3.1,by have:=h3.2;rwa [<-hqe]at this⟩,hw.kp h4 (fun j cs t fr hj ht hq=>?_),h4.below (aaI hw.lt) (fun k _ hk=>?_)⟩
  ·rcases hq with rfl|rfl|rfl|hq
   ·rw[Sn]at hj;simp at hj
   ·rw[show w.heap[j]?=_ from hG]at hj;simp at hj;rcases ht with ht|ht
    ·rw[ht]at hj;exact absurd hj.2.1 (by decide)
    ·rw[ht]at hj;exact absurd hj.2.1 (by decide)
   ·rw[show w.heap[j]?=_ from hs.st.box]at hj;simp at hj;rcases ht with ht|ht
    ·rw[ht]at hj;exact absurd hj.2.1 (by decide)
    ·rw[ht]at hj;exact absurd hj.2.1 (by decide)
   ·rcases hs.st.own.2 with⟨rfl,_⟩|⟨g,cap,cur,rfl,hg,hblk,_⟩
    ·cases hq
    ·simp only[Value.ownBlock,abH]at hq;subst hq;rw[hblk]at hj;simp at hj;rcases ht with ht|ht
     ·rw[ht]at hj;exact absurd hj.2.1 (by decide)
     ·rw[ht]at hj;exact absurd hj.2.1 (by decide)
  ·rcases hk with rfl|rfl|rfl|hk
   ·omega
   ·omega
   ·omega
   ·have:=(hs.st.lt k hk).1;omega
 Kt:=fun w p q sv W last ⟨S,hs,hf,hbg⟩ hw hW hpq hq Wh=>by
  obtain⟨ao,cap,rfl⟩:=aU hs.st.own;have hlt:=hs.lt
  refine (M6 level hl B last (T.extract p q) ao cap S W w hw T.data.toList p q ⟨AA T p q,hpq,by rw[aaN];exact Wh,by omega,hf⟩ (hs.st.steps (by omega)) (fun SB cap' e=>by
   simp only[abd,abG]at e
   exact (hs.st.lt SB (by rw[e.1];rfl)).2) hW).mono fun e w' ⟨v,h1,h2⟩=>⟨v,h1,_,h2,fun _ hP hp=>Eg _ _ per q hP hp (by rw[aaN];exact Wh) S 0 p hf hbg⟩
 next:=fun w w' p q sv ⟨S,hs,hf,_⟩ f=>⟨S,sv,hs.fr f hB⟩
 below:=fun w w' p q sv ⟨S,hs,hf,hg⟩ k=>⟨S,hs.below k,hf,hg⟩
 drew:=fun w p ⟨S,sv,hs⟩=>⟨S,sv,hs.below (aak _ _).drew⟩
theorem Ku (T:ByteArray)(level:Nat)(hl:level<=2)(hT:T.size<=4500000)(B:Nat)(u:World)(hB:B<u.heap.size): Calls Tryz.prog 137 #[.string T,.int .i64 level] u fun e w'=>∃kf aN J R per,e=.returned (.func (.func kf) #[] aN)/\Lv T level B kf aN J R per/\(1<=level->pF T per)/\J w' 0/\Below u.heap.size u w':=by
 by_cases h0:level=0
 ·subst h0;exact (Az T u).mono fun e w' ⟨h1,h2⟩=>⟨_,_,_,_,_,h1,M7 T B,fun h=>absurd h (by decide),trivial,h2▸aak _ _⟩
 ·refine (Cy T level u hT h0).mono fun e w' ⟨Xf,Xs,F,M,G,en,per,h1,h2,h3,h4,h5,h6,h7,_,h8,h9⟩=>?_;exact⟨_,_,_,_,_,h1,M8 T level B Xf Xs F M G en per (by omega) hT h3 h4 ⟨by omega,by omega,by omega,by omega⟩,fun _=>h4,⟨[],_,h2⟩,h5⟩
end Go.Proofs.YtmfijackgekioaaGreatDoor
