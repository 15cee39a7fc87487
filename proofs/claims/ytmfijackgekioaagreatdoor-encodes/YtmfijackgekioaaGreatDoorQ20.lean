import Derived.Test.YtmfijackgekioaaGreatDoorQ18
set_option maxHeartbeats 4000000
set_option maxRecDepth 100000
namespace Go.Proofs.YtmfijackgekioaaGreatDoor
open Go.RowKit
theorem L9 (n:Nat)(h:n<=65535):bits .xor .i64 (-1) (n:Int)=-(n:Int)-1:=by
 have e:(BitVec.ofInt 64 (n:Int)).toNat=n:=ofInt_u64 n (by omega);have e1:BitVec.ofInt 64 (-1)=BitVec.allOnes 64:=by decide
 show IntKind.i64.wrap ((BitVec.ofInt 64 (-1)^^^BitVec.ofInt 64 (n:Int)).toNat:Int)=_;rw[e1,BitVec.allOnes_xor,BitVec.toNat_not,e,IntKind.wrap_i64];omega
def uN (last:Bool)(k:Nat):List Int:=Rf.nb (if last then 1 else 0) 1++Rf.nb k 2
theorem ko (last:Bool)(k:Nat):(uN last k).length=3:=by simp[uN,Rf.aF]
theorem mh (last:Bool)(k:Nat)(B:Nat)(W:List Int)(w:World)(h:aB w B W)(hW:W.length<=800000000): Calls Tryz.prog 207 #[.pointer (some ⟨B,0,none⟩),.bool last,.int .i64 k] w fun e w'=>e=.returned (.tuple #[])/\aB w' B (W++uN last k)/\Fr B w w':=by
 cases last
 ·go_enter Tryz.func207,Tryz.ntmps207
  go_wp2_with fail;refine (dX (0:Nat) 1 B W w h (by omega) (by omega)).mono ?_;rintro e w1 ⟨rfl,h1,f1⟩;go_wp2_with fail;refine (dX k 2 B _ w1 h1 (by omega) (by rw[aac,dW];omega)).mono ?_;rintro e w2 ⟨rfl,h2,f2⟩;go_wp2
  go_end0
  refine⟨rfl,?_,f1.trans f2⟩;rw[aaq,fj,fj]at h2;exact h2
 ·go_enter Tryz.func207,Tryz.ntmps207
  go_wp2_with fail;refine (dX (1:Nat) 1 B W w h (by omega) (by omega)).mono ?_;rintro e w1 ⟨rfl,h1,f1⟩;go_wp2_with fail;refine (dX k 2 B _ w1 h1 (by omega) (by rw[aac,dW];omega)).mono ?_;rintro e w2 ⟨rfl,h2,f2⟩;go_wp2
  go_end0
  refine⟨rfl,?_,f1.trans f2⟩;rw[aaq,fj,fj]at h2;exact h2
def Ro (at_:Nat)(s:ByteArray):List Int:=List.replicate ((at_+7)/8*8-at_) 0++(Rf.nb s.size 16++(Rf.nb (65535-s.size) 16++Rf.bb s.data.toList))
theorem BF (at_:Nat)(s:ByteArray):(Ro at_ s).length=(at_+7)/8*8-at_+32+8*s.size:=by
 simp only[Ro,aac,Rf.aF,Rf.m8,abh,aaN];have:s.data.size=s.size:=rfl;omega
theorem bM.fr {w w':World}{B X:Nat}{v:Value}{t:TypeId}(h:bM w X v t)(f:Fr B w w')(hX:X≠B)(ht:t≠5):bM w' X v t:=(f.kept hX h ht).trans h
theorem IJ (X0 X1 X2 B:Nat)(last:Bool)(s:ByteArray)(W:List Int)(w:World)(h:aB w B W)(b0:bM w X0 (.pointer (some ⟨B,0,none⟩)) 179)(b1:bM w X1 (.bool last) 4)(b2:bM w X2 (.string s) 9)(n0:X0≠B)(n2:X2≠B)(hs:s.size<=65535)(hW:W.length<=800000000): Calls Tryz.prog 206 #[.pointer (some ⟨X0,0,none⟩),.pointer (some ⟨X1,0,none⟩),.pointer (some ⟨X2,0,none⟩)] w fun e w'=>e=.returned (.tuple #[])/\aB w' B (W++(uN last 0++Ro (W.length+3) s))/\Fr B w w':=by
 have c0:=b0.cell;have c1:=b1.cell;have c2:=b2.cell
 go_enter Tryz.func206,Tryz.ntmps206
 go_wp2_with fail;refine (mh last 0 B W w h hW).mono ?_;rintro e w1 ⟨rfl,h1,f1⟩;have p0:=b0.fr f1 n0 (by decide);have p2:=b2.fr f1 n2 (by decide);clear c0 c1 c2 b0 b2;have c0:=p0.cell;have e1:(W++uN last 0).length=W.length+3:=by rw[aac,ko]
 go_wp2_with fail;refine (OJ B _ w1 h1 (by omega)).mono ?_;rintro e w2 ⟨rfl,h2,f2⟩;have q0:=p0.fr f2 n0 (by decide);have q2:=p2.fr f2 n2 (by decide);clear c0 p0 p2;have c0:=q0.cell;have c2:=q2.cell;rw[e1]at h2;obtain⟨R,hR⟩:∃R,R=List.replicate ((W.length+3+7)/8*8-(W.length+3)) (0:Int):=⟨_,rfl⟩
 have hRl:R.length=(W.length+3+7)/8*8-(W.length+3):=by rw[hR,abh]
 have e2:(W++uN last 0++R).length=(W.length+3+7)/8*8:=by rw[aac,e1,hRl];omega
 rw[<-hR]at h2;go_wp2_with fail;refine (dX s.size 16 B _ w2 h2 (by omega) (by omega)).mono ?_;rintro e w3 ⟨rfl,h3,f3⟩;have p0:=q0.fr f3 n0 (by decide);have p2:=q2.fr f3 n2 (by decide);clear c0 c2 q0 q2;have c0:=p0.cell;have c2:=p2.cell;go_wp2_with fail;rw[L9 _ hs];refine (dX (-(s.size:Int)-1) 16 B _ w3 h3 (by omega) (by rw[aac,dW];omega)).mono ?_;rintro e w4 ⟨rfl,h4,f4⟩;have q0:=p0.fr f4 n0 (by decide);have q2:=p2.fr f4 n2 (by decide);clear c0 c2 p0 p2;have c0:=q0.cell;have c2:=q2.cell;go_wp2_with fail;refine (Lr s B _ w4 h4 (by rw[aac,dW,aac,dW];omega) (by rw[aac,dW,aac,dW];omega) (by omega)).mono ?_;rintro e w5 ⟨rfl,h5,f5⟩;go_wp2
 go_end0
 refine⟨rfl,?_,(((f1.trans f2).trans f3).trans f4).trans f5⟩;rw[fj,Lp _ hs]at h5;unfold Ro;rw[<-hR];simpa only[aaq]using h5
def Kq (u w:World):Prop:=∀(k:Nat) (cs:Array Value) (t:TypeId) (fr:Nat×Nat),u.heap[k]?=some (.cells cs t fr)->t≠188->w.heap[k]?=u.heap[k]?
theorem Kq.trans {a b c:World}(h:Kq a b)(k:Kq b c):Kq a c:=fun i cs t fr hi ht=>by
 have e:=h i cs t fr hi ht;exact (k i cs t fr (e.trans hi) ht).trans e
theorem Kq.aJ {a b:World}(h:Below a.heap.size a b):Kq a b:=fun i _ _ _ hi _=>h.block i (aab hi)
theorem bM.kq {w w':World}{X:Nat}{v:Value}{t:TypeId}(h:bM w X v t)(k:Kq w w')(ht:t≠188):bM w' X v t:=(k _ _ _ _ h ht).trans h
theorem aR.kq {w w':World}{g:Nat}{zs:List Int}(h:aR w g zs)(k:Kq w w'):aR w' g zs:=(k _ _ _ _ h (by decide)).trans h
theorem Steps.kq {w w':World}{sv:Value}{steps:List (Nat×Nat)}{B:Nat}(h:Steps w sv steps B)(k:Kq w w'):Steps w' sv steps B :=
 ⟨h.1,fun hn=>by
  obtain⟨SB,cap,h1,h2,h3⟩:=h.2 hn;obtain⟨cs,c1,c2⟩:=h3
  exact⟨SB,cap,h1,h2,cs,(k _ _ _ _ c1 (by decide)).trans c1,c2⟩⟩
theorem iK.kq {w w':World}{G1 G2 G3 N1 N2:Nat}{ls ds nl:List Int}(h:iK w G1 G2 G3 N1 N2 ls ds nl)(k:Kq w w'):iK w' G1 G2 G3 N1 N2 ls ds nl :=
 ⟨h.s.kq k,h.d.kq k,h.n.kq k,h.l1,h.l2,h.l3,h.g1,h.g2,h.r1,h.r2,h.r3,h.full⟩
structure iM (u:World) (B:Nat) (W:List Int) (T:List UInt8) (p q:Nat) (last:Bool) (km E:Nat) (f:Nat) (aN:Array Value):Prop where
 call:∀args w,(callFunc f args).run Tryz.prog w=.ok (.enter f args) w
 does:∀w',Kq u w'->aB w' B W->Calls Tryz.prog f aN w' fun e w''=>e=.returned (.tuple #[])/\∃k Bk,k<=km/\aB w'' B (W++(uN last k++Bk))/\W.length+3+Bk.length=E/\Rf.jq T T.length (W.length+3) p q k Bk/\Fr B w' w''
theorem iM.weak {u:World}{B:Nat}{W:List Int}{T:List UInt8}{p q:Nat}{last:Bool}{km E f:Nat}{aN:Array Value}(h:iM u B W T p q last km E f aN){ZY:Nat}(hk:km<=ZY):iM u B W T p q last ZY E f aN :=
 ⟨h.call,fun w' hb hw=>(h.does w' hb hw).mono fun e w'' ⟨h1,k,Bk,h2,h3⟩=>⟨h1,k,Bk,by omega,h3⟩⟩
theorem iM.kq {u u':World}{B:Nat}{W:List Int}{T:List UInt8}{p q:Nat}{last:Bool}{km E f:Nat}{aN:Array Value}(h:iM u B W T p q last km E f aN)(k:Kq u u'):iM u' B W T p q last km E f aN :=
 ⟨h.call,fun w' hb hw=>h.does w' (k.trans hb) hw⟩
theorem iM.below {u u':World}{B:Nat}{W:List Int}{T:List UInt8}{p q:Nat}{last:Bool}{km E f:Nat}{aN:Array Value}(h:iM u B W T p q last km E f aN)(k:Below u.heap.size u u'):iM u' B W T p q last km E f aN:=h.kq (Kq.aJ k)
theorem Py (args:Array Value)(w:World):(callFunc 206 args).run Tryz.prog w=.ok (.enter 206 args) w:=by kernel_rfl
theorem zy {u:World}{B:Nat}{W:List Int}{T:List UInt8}{p q:Nat}{last:Bool}{s:ByteArray}{X0 X1 X2:Nat}(hs:s.data.toList=(T.take q).drop p)(hpq:p<=q)(hq:q<=T.length)(h6:q-p<=65535)(hW:W.length<=800000000)(b0:bM u X0 (.pointer (some ⟨B,0,none⟩)) 179)(b1:bM u X1 (.bool last) 4)(b2:bM u X2 (.string s) 9)(n0:X0≠B)(n2:X2≠B): iM u B W T p q last 0 ((W.length+10)/8*8+32+8*(q-p)) 206 #[.pointer (some ⟨X0,0,none⟩),.pointer (some ⟨X1,0,none⟩),.pointer (some ⟨X2,0,none⟩)]:=by
 have hsz:s.size=q-p:=by
  have:=abq List.length hs;rw[abv,aaQ,aaN]at this;have e:s.data.size=s.size:=rfl;omega
 refine⟨Py,fun w' hb hw=>(IJ X0 X1 X2 B last s W w' hw (b0.kq hb (by decide)) (b1.kq hb (by decide)) (b2.kq hb (by decide)) n0 n2 (by omega) hW).mono ?_⟩;rintro e w'' ⟨rfl,h1,h2⟩;refine⟨rfl,0,Ro (W.length+3) s,aad _,h1,?_,?_,h2⟩
 ·rw[BF,hsz];omega
 ·have:=Rf.wT (T:=T) (limit:=T.length) (at_:=W.length+3) (p:=p) (q:=q) (List.replicate ((W.length+3+7)/8*8-(W.length+3)) 0) (by rw[abh];omega) hpq hq h6 (abj _);unfold Ro;rw[hs,hsz];exact this
theorem kt (B:Nat)(last:Bool)(s:ByteArray)(W:List Int)(w:World)(h:aB w B W)(T:List UInt8)(p q:Nat)(hs:s.data.toList=(T.take q).drop p)(hpq:p<=q)(hq:q<=T.length)(h6:q-p<=65535)(hW:W.length<=800000000): Calls Tryz.prog 182 #[.pointer (some ⟨B,0,none⟩),.string s,.bool last] w fun e w'=>∃aN,e=.returned (.agg #[.int .i64 (((W.length+10)/8*8+32+8*(q-p):Nat):Int),.func (.func 206) #[] aN])/\Below w.heap.size w w'/\iM w' B W T p q last 0 ((W.length+10)/8*8+32+8*(q-p)) 206 aN:=by
 have hsz:s.size=q-p:=by
  have:=abq List.length hs;rw[abv,aaQ,aaN]at this;have e:s.data.size=s.size:=rfl;omega
 have hlt:=h.lt;have cB:w.cell? ⟨B,1,none⟩=some (.int .i64 W.length):=by obtain⟨pv,Pk,hw⟩:=h;exact hw.cells.2.1
 have HP:Hid (∀u X0 X1 X2,bM u X0 (.pointer (some ⟨B,0,none⟩)) 179->bM u X1 (.bool last) 4->bM u X2 (.string s) 9->X0≠B->X2≠B->iM u B W T p q last 0 ((W.length+10)/8*8+32+8*(q-p)) 206 #[.pointer (some ⟨X0,0,none⟩),.pointer (some ⟨X1,0,none⟩),.pointer (some ⟨X2,0,none⟩)]) :=
  fun u X0 X1 X2 b0 b1 b2 n0 n2=>zy hs hpq hq h6 hW b0 b1 b2 n0 n2
 clear hs h;generalize W.length=PL at *
 go_enter Tryz.func182,Tryz.ntmps182
 go_wp2_with fail;obtain⟨k0,q0,q1,q2,q3⟩:=sf w (.cells #[.pointer (some ⟨B,0,none⟩)] 179) (.cells #[.string s] 9) (.cells #[.bool last] 4) (.cells #[.int .i64 0,.nilFunc] 188);have cB1:=(k0.cell hlt).trans cB;generalize Pz:(((w.alloc (.cells #[.pointer (some ⟨B,0,none⟩)] 179)).alloc (.cells #[.string s] 9)).alloc (.cells #[.bool last] 4)).alloc (.cells #[.int .i64 0,.nilFunc] 188)=wa at *;have kd:Below w.heap.size w wa.drew:=k0.drew;have hS:wa.drew.cell? ⟨w.heap.size,0,none⟩=some (.pointer (some ⟨B,0,none⟩))/\wa.drew.cell? ⟨B,1,none⟩=some (.int .i64 PL)/\wa.drew.cell? ⟨w.heap.size+1,0,none⟩=some (.string s):=⟨(one_cell q0).1,cB1,(one_cell q1).1⟩
 have HQ:Hid (wa.drew.heap[w.heap.size]?=some (.cells #[.pointer (some ⟨B,0,none⟩)] 179 (0,0))/\wa.drew.heap[w.heap.size+1]?=some (.cells #[.string s] 9 (0,0))/\wa.drew.heap[w.heap.size+1+1]?=some (.cells #[.bool last] 4 (0,0))):=⟨q0,q1,q2⟩
 obtain⟨r0,r1,fz,hl3⟩:wa.drew.cell? ⟨w.heap.size+1+1+1,0,none⟩=some (.int .i64 0)/\wa.drew.cell? ⟨w.heap.size+1+1+1,1,none⟩=some .nilFunc/\(∀j,wa.drew.frozen? ⟨w.heap.size+1+1+1,j,none⟩=false)/\w.heap.size+1+1+1<wa.drew.heap.size:=aQ q3;clear q0 q1 q2 q3 k0 cB cB1 Pz;refine aE (fun w'=>w'.cell? ⟨w.heap.size,0,none⟩=some (.pointer (some ⟨B,0,none⟩))/\w'.cell? ⟨B,1,none⟩=some (.int .i64 PL)/\w'.cell? ⟨w.heap.size+1,0,none⟩=some (.string s)) 15 ?_;generalize wa.drew=wd at *;refine am [0,1,2,3,4,5,6,7,8,9,10,11,12,13,14] ?_
 iterate 15 (refine ay hS ?_;try simp only[Act.put])
 refine aj ?_;refine ai 15 fun K hK=>?_;go_simp;refine hK _ _ (fun h=>absurd rfl h) ?_;clear hK K;refine ar ?_;go_wp2;have e1:IntKind.i64.wrap ((PL:Int)+3)=(PL:Int)+3:=aah _ (by omega);have e2:IntKind.i64.wrap ((PL:Int)+3+7)=(PL:Int)+10:=(aah _ (by omega)).trans (by omega);have e3:IntKind.i64.wrap (((PL:Int)+10).tdiv 8)=((PL:Int)+10)/8:=by rw[Int.tdiv_eq_ediv_of_nonneg (by omega)];exact aah _ (by omega)
 have e4:IntKind.i64.wrap (((PL:Int)+10)/8*8)=((PL:Int)+10)/8*8:=aah _ (by omega);have e5:IntKind.i64.wrap (((PL:Int)+10)/8*8+32)=((PL:Int)+10)/8*8+32:=aah _ (by omega);have e6:IntKind.i64.wrap (8*((q-p:Nat):Int))=8*((q-p:Nat):Int):=aah _ (by omega);have e7:IntKind.i64.wrap (((PL:Int)+10)/8*8+32+8*((q-p:Nat):Int))=(((PL+10)/8*8+32+8*(q-p):Nat):Int):=(aah _ (by omega)).trans (by omega);rw[e1,e2,e3,e4,e5,e6,e7];obtain⟨b0,b1,b2⟩:=HQ.out;generalize (PL+10)/8*8+32+8*(q-p)=E at *;refine aal (v:=.agg #[.int .i64 (E:Int),.func (.func 206) #[] #[.pointer (some ⟨w.heap.size,0,none⟩),.pointer (some ⟨w.heap.size+1+1,0,none⟩),.pointer (some ⟨w.heap.size+1,0,none⟩)]]) ?_ rfl ⟨_,rfl,?_,HP.out _ _ _ _ ?_ ?_ ?_ (by omega) (by omega)⟩
 ·simp[results,Tryz.results182,go_sem,r0,r1]
 ·exact (kd.setCell (p:=⟨w.heap.size+1+1+1,0,none⟩) (by dsimp only;omega) _).setCell (p:=⟨w.heap.size+1+1+1,1,none⟩) (by dsimp only;omega) _
 ·exact (aag _ ⟨w.heap.size+1+1+1,1,none⟩ _ _ (by dsimp only;omega)).trans ((aag _ ⟨w.heap.size+1+1+1,0,none⟩ _ _ (by dsimp only;omega)).trans b0)
 ·exact (aag _ ⟨w.heap.size+1+1+1,1,none⟩ _ _ (by dsimp only;omega)).trans ((aag _ ⟨w.heap.size+1+1+1,0,none⟩ _ _ (by dsimp only;omega)).trans b2)
 ·exact (aag _ ⟨w.heap.size+1+1+1,1,none⟩ _ _ (by dsimp only;omega)).trans ((aag _ ⟨w.heap.size+1+1+1,0,none⟩ _ _ (by dsimp only;omega)).trans b1)
theorem xB (N:Nat)(b:Bool)(ls:List Int):∀k,k<=N->dot (eF N b []) ls k=0
 | 0,_=>rfl
 | k+1,h=>by
  rw[dot,xB N b ls k (by omega),iH N b [] k (by omega)];simp
theorem sZ (N:Nat)(b:Bool)(t:Tok)(ts:List Tok)(ls:List Int):∀k,k<=N->dot (eF N b (t::ts)) ls k=dot (eF N b ts) ls k+if t.1=b/\t.2.1<k then ls.getD t.2.1 0 else 0
 | 0,_=>by simp[dot]
 | k+1,h=>by
  rw[dot,dot,sZ N b t ts ls k (by omega),iH N b (t::ts) k (by omega),iH N b ts k (by omega),List.countP_cons];generalize (ts.countP fun u=>decide (u.1=b/\u.2.1=k))=c;by_cases hk:t.1=b/\t.2.1=k
  ·rw[aae (show ¬(t.1=b/\t.2.1<k) by omega),aaf (show decide (t.1=b/\t.2.1=k)=true from aaw hk),aaf (show t.1=b/\t.2.1<k+1 from ⟨hk.1,by omega⟩),hk.2];generalize ls.getD k 0=x;have:((c+1:Nat):Int)*x=(c:Int)*x+x:=by rw[Int.natCast_add,Int.add_mul];simp
   rw[this];omega
  ·rw[aae (show ¬(decide (t.1=b/\t.2.1=k)=true) by rw[decide_eq_true_iff];exact hk),abQ];by_cases hq:t.1=b/\t.2.1<k
   ·rw[aaf hq,aaf (show t.1=b/\t.2.1<k+1 from ⟨hq.1,by omega⟩)];omega
   ·rw[aae hq,aae (show ¬(t.1=b/\t.2.1<k+1) from fun q=>by
     have:t.2.1≠k:=fun e=>hk ⟨q.1,e⟩
     exact hq ⟨q.1,by omega⟩)]
    omega
theorem mj (ls ds:List Int)(hl:∀j,0<=ls.getD j 0)(hd:∀j,0<=ds.getD j 0):∀ts:List Tok,(∀t∈ts,lY t) -> ((aA ls ds ts).length:Int)=(aV ts:Nat)+dot (eF 286 false ts) ls 286+dot (eF 30 true ts) ds 30
 | [],_=>by rw[xB _ _ _ _ (aad _),xB _ _ _ _ (aad _)];simp[aA,aV]
 | t::r,h=>by
  have ih:=mj ls ds hl hd r (fun u hu=>h u (abN _ hu));have ht:=(h t (abJ ..)).1;have e1:aA ls ds (t::r)=(Rf.a8 (if t.1 then ds else ls) t.2.1++Rf.nb t.2.2.1 t.2.2.2)++aA ls ds r:=by simp[aA]
  have e2:aV (t::r)=t.2.2.2+aV r:=by simp[aV]
  rw[e1,e2,sZ _ _ _ _ _ _ (aad _),sZ _ _ _ _ _ _ (aad _),aac,aac,Rf.bV,Rf.aF];have h1:=hl t.2.1;have h2:=hd t.2.1;cases hb:t.1 with
  | false =>
   rw[hb]at ht;have ht:t.2.1<=285:=ht;rw[aae (show ¬(false=true) by decide),aaf (show false=false/\t.2.1<286 from ⟨rfl,by omega⟩),aae (show ¬(false=true/\t.2.1<30) from fun q=>Bool.noConfusion q.1)];omega
  | true =>
   rw[hb]at ht;have ht:t.2.1<=29:=ht;rw[aaf (show true=true from rfl),aae (show ¬(true=false/\t.2.1<286) from fun q=>Bool.noConfusion q.1),aaf (show true=true/\t.2.1<30 from ⟨rfl,by omega⟩)];omega
theorem vM (U:List UInt8)(n:Nat):∀(p:Nat) (steps:List (Nat×Nat)),c8 n p steps->∀t∈ax U p steps,lY t
 | p,[],_,t,ht=>by
  have e:t=(false,256,0,0):=by simpa[ax]using ht
  subst e;exact⟨by show 256<=285;omega,by show 0<2^0;omega,by show 0<=13;omega⟩
 | p,s::r,h,t,ht=>by
  rw[ax,aa8]at ht;rcases ht with ht|ht
  ·unfold cZ at ht;by_cases h0:s.2=0
   ·rw[aaf h0]at ht;have e:t=(false,(U.getD p 0).toNat,0,0):=by simpa using ht
    subst e;have:=(U.getD p 0).toNat_lt;exact⟨by show (U.getD p 0).toNat<=285;omega,by show 0<2^0;omega,by show 0<=13;omega⟩
   ·rw[aae h0]at ht;rcases h.1 with⟨q,_⟩|⟨a,b,c,d,_⟩
    ·exact absurd q h0
    ·have l1:=Rf.rZ s.1 a b;have d1:=Rf.sx s.2 c d;have e:t=(false,257+Rf.fG s.1,s.1-Rf.dj (Rf.fG s.1),Rf.lb (Rf.fG s.1))\/t=(true,Rf.gJ s.2,s.2-Rf.cR (Rf.gJ s.2),Rf.db (Rf.gJ s.2)):=by simpa using ht
     rcases e with e|e
     ·subst e;exact⟨by show 257+Rf.fG s.1<=285;omega,l1.2.2,by have:=Bh _ l1.1;show Rf.lb (Rf.fG s.1)<=13;omega⟩
     ·subst e;exact⟨d1.1,d1.2.2,Bi _ d1.1⟩
  ·exact vM U n (p+s.1) r h.2 t ht
theorem td (ls:List Int)(m n b:Nat):∀i,i<=m->Rf.pP (ls.take m) n b i=Rf.pP ls n b i
 | 0,_=>rfl
 | i+1,h=>by rw[Rf.pP,Rf.pP,td ls m n b i (by omega),getD_take,aaf (show i<m by omega)]
theorem zA (ls:List Int)(n b m:Nat):∀k,m<=k->(∀j,m<=j->j<k->ls.getD j 0=0)->Rf.pP ls (n+1) b k=Rf.pP ls (n+1) b m
 | 0,h,_=>by rw[show m=0 by omega]
 | k+1,h,hz=>by
  by_cases e:m=k+1
  ·rw[e]
  ·rw[Rf.pP,zA ls n b m k (by omega) (fun j h1 h2=>hz j h1 (by omega)),hz k (by omega) (by omega),aae (by omega)];rfl
theorem zB (ls:List Int)(m:Nat)(hm:m<=ls.length)(hz:∀j,m<=j->j<ls.length->ls.getD j 0=0):∀n,Rf.kP (ls.take m) n=Rf.kP ls n
 | 0=>rfl
 | n+1=>by
  rw[Rf.kP,Rf.kP,zB ls m hm hz n,aaQ,Nat.min_eq_left hm,td ls m _ _ m (aad _),zA ls n _ m ls.length hm hz]
theorem tg (ls:List Int)(m:Nat)(hm:m<=ls.length)(hz:∀j,m<=j->j<ls.length->ls.getD j 0=0):Rf.a8 (ls.take m)=Rf.a8 ls:=by
 funext j
 unfold Rf.a8;by_cases h:j<m
 ·rw[getD_take,aaf h];unfold Rf.nx;rw[td ls m _ _ j (by omega),zB ls m hm hz]
 ·have e:ls.getD j 0=0:=by
   rcases aaL j ls.length with q|q
   ·exact hz j (by omega) q
   ·rw[aaa,aas q];rfl
  rw[getD_take,aae h,e];rfl
theorem ox (sb fb:Nat->List Int)(T:List UInt8):∀(S:List (Nat×Nat)) (p:Nat),(∀i,Rf.sC T p S i->1<=(sb i).length)->S.length<=(Rf.dl sb fb T p S).length
 | [],_,_=>aaj _
 | s::r,p,h=>by
  have ih:=ox sb fb T r (p+s.1) (fun i hi=>h i (.inr hi))
  have h1:1<=(Rf.jG sb fb T p s).length:=by
   unfold Rf.jG;by_cases h0:s.2=0
   ·rw[aaf h0];exact h _ (.inl (by rw[aaf h0]))
   ·rw[aae h0,aac];have:=h (257+Rf.fG s.1) (.inl (by rw[aae h0]));omega
  rw[Rf.dl,aac,aao];omega
theorem vN (T U:List UInt8)(o n:Nat)(hU:∀j,j<n->U.getD j 0=T.getD (o+j) 0):∀(p:Nat) (S:List (Nat×Nat)),c8 n p S->∀i,Rf.sC T (o+p) S i->∃x k,(false,i,x,k)∈ax U p S
 | p,[],_,i,h=>⟨0,0,by rw[show i=256 from h];simp[ax]⟩
 | p,s::r,hok,i,h=>by
  rw[ax];rcases h with h|h
  ·unfold cZ;by_cases h0:s.2=0
   ·rw[aaf h0]at h ⊢
    have hp:p<n:=by
     rcases hok.1 with⟨_,_,q⟩|⟨_,_,q,_⟩
     ·exact q
     ·omega
    exact⟨0,0,by rw[h,<-hU p hp];simp⟩
   ·rw[aae h0]at h ⊢;exact⟨s.1-Rf.dj (Rf.fG s.1),Rf.lb (Rf.fG s.1),by rw[h];simp⟩
  ·rw[abI]at h;obtain⟨x,k,hx⟩:=vN T U o n hU (p+s.1) r hok.2 i h;exact⟨x,k,List.mem_append_right _ hx⟩
theorem ti (U:List UInt8):∀(p:Nat) (S:List (Nat×Nat)) (j:Nat),Rf.pS S j->∃x k,(true,j,x,k)∈ax U p S
 | p,s::r,j,h=>by
  rw[ax];rcases h with⟨h0,h⟩|h
  ·unfold cZ;rw[aae h0];exact⟨s.2-Rf.cR (Rf.gJ s.2),Rf.db (Rf.gJ s.2),by rw[h];simp⟩
  ·obtain⟨x,k,hx⟩:=ti U (p+s.1) r j h;exact⟨x,k,List.mem_append_right _ hx⟩
theorem Dp (U:List UInt8):∀(p:Nat) (S:List (Nat×Nat)),(false,256,0,0)∈ax U p S
 | _,[]=>by simp[ax]
 | p,s::r=>by rw[ax];exact List.mem_append_right _ (Dp U (p+s.1) r)
theorem xC (N:Nat)(b:Bool)(ts:List Tok)(t:Tok)(h:t∈ts)(hb:t.1=b)(hN:t.2.1<N):0<(eF N b ts).getD t.2.1 0:=by
 rw[iH N b ts t.2.1 hN];have:0<ts.countP (fun u=>decide (u.1=b/\u.2.1=t.2.1)):=List.countP_pos_iff.2 ⟨t,h,by simp[hb]⟩;omega
theorem tj:∀(out:List Int) (ts:List (Nat×Nat)),Rf.gX out ts->∀t∈ts,t.1<=18
 | _,[],_,t,h=>by simp at h
 | out,u::r,hk,t,h=>by
  rcases ab0.1 h with e|h
  ·rw[e];exact hk.1
  ·exact tj _ r hk.2.2.2 t h
theorem IK (l:List Int)(j:Nat)(h:∀i,l.getD i 0=if i=j then 1 else 0):∀k,Rf.fs l k=if j<k then 16384 else 0
 | 0=>by simp[Rf.fs]
 | k+1=>by
  rw[Rf.fs,IK l j h k,h k];by_cases e:k=j
  ·subst e;simp
  ·rw[aae e];by_cases e2:j<k
   ·have e3:j<k+1:=by omega
    simp[e2,e3]
   ·have e3:¬j<k+1:=by omega
    simp only[aae e2,aae e3];simp
theorem Dq (l:List Int)(h:∀i,l.getD i 0=0):∀k,Rf.fs l k=0
 | 0=>rfl
 | k+1=>by rw[Rf.fs,Dq l h k,h k];simp
theorem dr.fs {ws lens:List Int}{N L:Nat}(h:dr ws N L lens):Rf.fs lens N<=32768:=by
 rcases aaL (heavy ws N).length 2 with hlt|hge
 ·rcases aaL (heavy ws N).length 1 with h0|h1
  ·have e0:heavy ws N=[]:=aau (by omega);rw[Dq lens (fun i=>h.non i (by rw[e0];simp))];omega
  ·obtain⟨j,ej⟩:=List.length_eq_one_iff.1 (show (heavy ws N).length=1 by omega);have hj:lens.getD j 0=1:=h.one (by omega) j (by rw[ej];simp)
   rw[IK lens j (fun i=>by
    by_cases e:i=j
    ·rw[aaf e,e,hj]
    ·rw[aae e]
     exact h.non i (by rw[ej];simpa using e))]
   split<;>omega
 ·rw[h.full hge];exact aad _
structure Part (T:List UInt8) (p q:Nat) (s:ByteArray) (steps:List (Nat×Nat)):Prop where
 txt:s.data.toList=(T.take q).drop p
 le:p<=q
 qt:q<=T.length
 small:q-p<=65535
 fit:Rf.Fits T p steps q
theorem Part.size {T:List UInt8}{p q:Nat}{s:ByteArray}{steps:List (Nat×Nat)}(h:Part T p q s steps):s.size=q-p:=by
 have:=abq List.length h.txt;rw[abv,aaQ,aaN]at this;have e:s.data.size=s.size:=rfl;have:=h.le;have:=h.qt;omega
theorem Part.get {T:List UInt8}{p q:Nat}{s:ByteArray}{steps:List (Nat×Nat)}(h:Part T p q s steps):∀j,j<q-p->s.data.toList.getD j 0=T.getD (p+j) 0:=fun j hj=>by
 rw[h.txt,aaa,aaa,List.getElem?_drop,abx,aaf (by omega)]
theorem Part.ok {T:List UInt8}{p q:Nat}{s:ByteArray}{steps:List (Nat×Nat)}(h:Part T p q s steps):c8 s.size 0 steps:=by
 rw[h.size];refine sY T p (q-p) (p:=0) ?_;have:=h.le;rw[abQ,show p+(q-p)=q by omega];exact h.fit
theorem Part.bits {T:List UInt8}{p q:Nat}{s:ByteArray}{steps:List (Nat×Nat)}(h:Part T p q s steps)(ls ds:List Int):aA ls ds (ax s.data.toList 0 steps)=Rf.dl (Rf.a8 ls) (Rf.a8 ds) T p steps:=by
 have:=h.ok;rw[h.size]at this;exact Dl ls ds T s.data.toList p (q-p) h.get 0 steps this
theorem Part.toks {T:List UInt8}{p q:Nat}{s:ByteArray}{steps:List (Nat×Nat)}(h:Part T p q s steps):∀t∈ax s.data.toList 0 steps,lY t:=vM _ s.size 0 steps h.ok
theorem Part.sym {T:List UInt8}{p q:Nat}{s:ByteArray}{steps:List (Nat×Nat)}(h:Part T p q s steps)(i:Nat)(hi:Rf.sC T p steps i):i<=285/\0<(eF 286 false (ax s.data.toList 0 steps)).getD i 0:=by
 have ok:=h.ok;rw[h.size]at ok;obtain⟨x,k,hx⟩:=vN T s.data.toList p (q-p) h.get 0 steps ok i hi;have h1:i<=285:=(h.toks _ hx).1;exact⟨h1,xC 286 false _ _ hx rfl (by show i<286;omega)⟩
theorem Part.dist {T:List UInt8}{p q:Nat}{s:ByteArray}{steps:List (Nat×Nat)}(h:Part T p q s steps)(j:Nat)(hj:Rf.pS steps j):j<=29/\0<(eF 30 true (ax s.data.toList 0 steps)).getD j 0:=by
 obtain⟨x,k,hx⟩:=ti s.data.toList 0 steps j hj;have h1:j<=29:=(h.toks _ hx).1;exact⟨h1,xC 30 true _ _ hx rfl (by show j<30;omega)⟩
theorem nY (ls ds ds':List Int)(h:∀j,j<=29->Rf.a8 ds j=Rf.a8 ds' j):∀ts:List Tok,(∀t∈ts,lY t)->aA ls ds ts=aA ls ds' ts
 | [],_=>rfl
 | t::r,hk=>by
  have ih:=nY ls ds ds' h r (fun u hu=>hk u (abN _ hu));have e:∀d,aA ls d (t::r)=(Rf.a8 (if t.1 then d else ls) t.2.1++Rf.nb t.2.2.1 t.2.2.2)++aA ls d r:=fun d=>by simp[aA]
  rw[e,e,ih];have ht:=(hk t (abJ ..)).1;cases hb:t.1 with
  | false=>simp
  | true =>
   rw[hb]at ht;have ht:t.2.1<=29:=ht;simp[h _ ht]
theorem Fl:∀j,j<=29->Rf.a8 dF j=Rf.a8 Rf.jl j:=by decide +kernel
theorem Ma:∀j,j<288->1<=Rf.bE.getD j 0:=by decide +kernel
theorem Part.fixed {T:List UInt8}{p q:Nat}{s:ByteArray}{steps:List (Nat×Nat)}(h:Part T p q s steps)(at_:Nat):Rf.jq T T.length at_ p q 1 (aA Rf.bE dF (ax s.data.toList 0 steps)):=by
 rw[nY Rf.bE dF Rf.jl Fl _ h.toks,h.bits];refine Rf.wW (abj _) h.fit (Rf.yU h.fit) (ox _ _ _ _ _ (fun i hi=>?_));have h1:=(h.sym i hi).1;have:=Ma i (by omega);rw[Rf.bV];omega
theorem Dr {ws lens:List Int}{N L:Nat}(h:dr ws N L lens)(m:Nat)(hm:m<=N)(hz:∀j,m<=j->j<N->lens.getD j 0=0):Rf.fs (lens.take m) (lens.take m).length<=32768:=by
 rw[aaQ,h.len,Nat.min_eq_left hm,xv lens m m (aad _),<-xx lens m N hm hz];exact h.fs
theorem Part.own {T:List UInt8}{p q:Nat}{s:ByteArray}{steps:List (Nat×Nat)}(h:Part T p q s steps)(at_:Nat){ls ds nl:List Int}(hm:Made (eF 286 false (ax s.data.toList 0 steps)) (eF 30 true (ax s.data.toList 0 steps)) ls ds nl): Rf.jq T T.length at_ p q 2 (Rf.dJ (trimF ls 257 286-257) (trimF ds 1 30-1) (trimF (cJ nl 19) 4 19) nl (E (cC ls ds 286 30))++aA ls ds (ax s.data.toList 0 steps)):=by
 obtain⟨ws,hw1,hw2,hw3⟩:=hm.s;obtain⟨wn,hn1,hn2,Rp⟩:=hm.n;have a0:=bj ls 257 286;have a1:=gP ls 257 286 (by omega);have az:=gj ls 257 286;have b0:=bj ds 1 30;have b1:=gP ds 1 30 (by omega);have bz:=gj ds 1 30;have e1:Rf.a8 (ls.take (trimF ls 257 286))=Rf.a8 ls:=tg ls _ (by rw[hw3.len];exact a0) (by rw[hw3.len];exact az);have e2:Rf.a8 (ds.take (trimF ds 1 30))=Rf.a8 ds:=tg ds _ (by rw[hm.d.len];exact b0) (by rw[hm.d.len];exact bz)
 have hsy:∀i,Rf.sC T p steps i->1<=(ls.take (trimF ls 257 286)).getD i 0:=fun i hi=>by
  obtain⟨h1,h2⟩:=h.sym i hi;have h3:=hw3.pos i ((gi ws 286 i).2 ⟨by omega,hw1.keep i h2⟩)
  have h4:i<trimF ls 257 286:=by
   rcases aaL i (trimF ls 257 286) with q|q
   ·exact q
   ·have:=az i q (by omega);omega
  rw[getD_take,aaf h4];omega
 have hdi:∀j,Rf.pS steps j->1<=(ds.take (trimF ds 1 30)).getD j 0:=fun i hi=>by
  obtain⟨h1,h2⟩:=h.dist i hi;have h3:=hm.d.pos i ((gi _ 30 i).2 ⟨by omega,h2⟩)
  have h4:i<trimF ds 1 30:=by
   rcases aaL i (trimF ds 1 30) with q|q
   ·exact q
   ·have:=bz i q (by omega);omega
  rw[getD_take,aaf h4];omega
 have hte:=mg ls ds 286 30 (fun j=>(hw3.uH j).2) (fun j=>(hm.d.uH j).2);have htk:=Rf.j7 (cC ls ds 286 30).length (cC ls ds 286 30) [] (aad _) hte;have hti:=kn ls ds 286 30 (fun j=>(hw3.uH j).1) (fun j=>(hm.d.uH j).1)
 have Nz:∀j,(ls.take (trimF ls 257 286)).getD j 0<=15:=fun j=>by
  rw[getD_take];split
  ·exact (hw3.uH j).2
  ·omega
 have v15:∀j,(ds.take (trimF ds 1 30)).getD j 0<=15:=fun j=>by
  rw[getD_take];split
  ·exact (hm.d.uH j).2
  ·omega
 have Pr:0<(eF 286 false (ax s.data.toList 0 steps)).getD 256 0:=by
  have:=xC 286 false _ (false,256,0,0) (Dp s.data.toList 0 steps) rfl (show 256<286 by omega);exact this
 rw[h.bits,<-e1,<-e2]
 refine Rf.A9 (abj _) (by omega) (by omega) (gP _ 4 19 (by omega)) (bj _ 4 19) Rp.len Rp.uH (fun i h1 h2=>?_) ?_ htk.2 (fun t ht=>?_) ?_ (by rw[aaQ,hw3.len];omega) (by rw[aaQ,hm.d.len];omega) (BB hm Pr) h.fit
  (Rf.sD Nz (Dr hw3 _ a0 az) v15 (Dr hm.d _ b0 bz) steps p hsy hdi) (ox _ _ _ _ _ (fun i hi=>by rw[Rf.bV];have:=hsy i hi;omega))
 ·have:=gj (cJ nl 19) 4 19 i h1 h2;rw[By nl 19 i h2]at this;exact this
 ·unfold Rf.full;rw[Rp.len];exact aaw (Rp.full hn2)
 ·have h18:=tj _ _ htk.2 t ht;have:=Rp.pos t.1 ((gi wn 19 t.1).2 ⟨by omega,hn1.keep t.1 (ID _ t ht h18)⟩);omega
 ·rw[<-hti];exact htk.1.trans (abg _)
theorem aR.fr {w w':World}{B g:Nat}{zs W:List Int}(h:aR w g zs)(f:Fr B w w')(hw:aB w B W):aR w' g zs:=by
 have hne:g≠B:=fun e=>by
  subst e;obtain⟨cs,hcs⟩:=hw.box (by rw[show w.heap[g]?=_ from h];simp);rw[show w.heap[g]?=_ from h]at hcs;simp at hcs
 exact (f.kept hne h (by decide)).trans h
theorem bM.ne {w:World}{B X:Nat}{v:Value}{t:TypeId}{W:List Int}(h:bM w X v t)(hw:aB w B W)(ht:t≠181):X≠B:=fun e=>by
 subst e;obtain⟨cs,hcs⟩:=hw.box (by rw[show w.heap[X]?=_ from h];simp);rw[show w.heap[X]?=_ from h]at hcs;simp at hcs;exact ht hcs.2
theorem rC:Rf.bE.length=288/\(∀j,0<=Rf.bE.getD j 0/\Rf.bE.getD j 0<=15)/\Rf.fs Rf.bE Rf.bE.length<=32768:=by
 have a:∀j,j<288->0<=Rf.bE.getD j 0/\Rf.bE.getD j 0<=15:=by decide +kernel
 have l:Rf.bE.length=288:=by decide +kernel
 refine⟨l,fun j=>?_,by decide +kernel⟩;rcases aaL j 288 with h|h
 ·exact a j h
 ·rw[aaa,aas (by omega)];decide
theorem rD:dF.length=30/\(∀j,0<=dF.getD j 0/\dF.getD j 0<=15)/\Rf.fs dF dF.length<=32768:=by
 have a:∀j,j<30->0<=dF.getD j 0/\dF.getD j 0<=15:=by decide +kernel
 have l:dF.length=30:=by decide +kernel
 refine⟨l,fun j=>?_,by decide +kernel⟩;rcases aaL j 30 with h|h
 ·exact a j h
 ·rw[aaa,aas (by omega)];decide
theorem Mc (X0 X1 X2 X3 X4 X5 S1 S2 B:Nat)(last:Bool)(s:ByteArray)(ao:Option Addr)(cap:Nat)(steps:List (Nat×Nat))(ls ds:List Int)(W:List Int)(w:World)(h:aB w B W)(b0:bM w X0 (.pointer (some ⟨B,0,none⟩)) 179)(b1:bM w X1 (.bool last) 4)(b2:bM w X2 (.string s) 9)(b3:bM w X3 (.slice ao steps.length cap) 186)(b4:bM w X4 (.slice (some ⟨S1,0,none⟩) 288 288) 24)(b5:bM w X5 (.slice (some ⟨S2,0,none⟩) 30 30) 24)(l1:aR w S1 ls)(l2:aR w S2 ds)(hst:Steps w (.slice ao steps.length cap) steps B)(hl:ls.length=288/\(∀j,0<=ls.getD j 0/\ls.getD j 0<=15)/\Rf.fs ls ls.length<=32768)(hd:ds.length=30/\(∀j,0<=ds.getD j 0/\ds.getD j 0<=15)/\Rf.fs ds ds.length<=32768)(hs:s.size<=65535)(hok:c8 s.size 0 steps)(hW:W.length<=80000000): Calls Tryz.prog 215 #[.pointer (some ⟨X0,0,none⟩),.pointer (some ⟨X1,0,none⟩),.pointer (some ⟨X2,0,none⟩),.pointer (some ⟨X3,0,none⟩),.pointer (some ⟨X4,0,none⟩),.pointer (some ⟨X5,0,none⟩)] w fun e w'=>e=.returned (.tuple #[])/\aB w' B (W++(uN last 1++aA ls ds (ax s.data.toList 0 steps)))/\Fr B w w':=by
 have c0:=b0.cell;have c1:=b1.cell
 go_enter Tryz.func215,Tryz.ntmps215
 go_wp2_with fail;refine (mh last 1 B W w h (by omega)).mono ?_;rintro e w1 ⟨rfl,h1,f1⟩;have p0:=b0.fr f1 (b0.ne h (by decide)) (by decide);have p2:=b2.fr f1 (b2.ne h (by decide)) (by decide);have p3:=b3.fr f1 (b3.ne h (by decide)) (by decide);have p4:=b4.fr f1 (b4.ne h (by decide)) (by decide);have p5:=b5.fr f1 (b5.ne h (by decide)) (by decide);have q1:=l1.fr f1 h;have q2:=l2.fr f1 h;have st1:=hst.fr f1;have e1:(W++uN last 1).length=W.length+3:=by rw[aac,ko]
 have hW1:Hid ((W++uN last 1).length<=100000000):=by show _<=_;omega
 have kd:Below w1.heap.size w1 w1.drew:=(aak _ _).drew;have r0:=p0.below kd;have r2:=p2.below kd;have r3:=p3.below kd;have r4:=p4.below kd;have r5:=p5.below kd;have t1:=q1.keep kd;have t2:=q2.keep kd;have st2:=st1.below kd;have hw2:=h1.below kd;have F2:Fr B w w1.drew:=f1.drew;clear c0 c1 b0 b1 b2 b3 b4 b5 p0 p2 p3 p4 p5 q1 q2 l1 l2 hst st1 h1 f1 kd e1;have hS:w1.drew.cell? ⟨X2,0,none⟩=some (.string s)/\w1.drew.cell? ⟨X3,0,none⟩=some (.slice ao steps.length cap)/\w1.drew.cell? ⟨X0,0,none⟩=some (.pointer (some ⟨B,0,none⟩))/\w1.drew.cell? ⟨X4,0,none⟩=some (.slice (some ⟨S1,0,none⟩) 288 288)/\w1.drew.cell? ⟨X5,0,none⟩=some (.slice (some ⟨S2,0,none⟩) 30 30):=⟨r2.cell,r3.cell,r0.cell,r4.cell,r5.cell⟩
 have eW:∀u,Below w1.drew.heap.size w1.drew u->u.cell? ⟨X2,0,none⟩=some (.string s)/\u.cell? ⟨X3,0,none⟩=some (.slice ao steps.length cap)/\u.cell? ⟨X0,0,none⟩=some (.pointer (some ⟨B,0,none⟩))/\u.cell? ⟨X4,0,none⟩=some (.slice (some ⟨S1,0,none⟩) 288 288)/\u.cell? ⟨X5,0,none⟩=some (.slice (some ⟨S2,0,none⟩) 30 30):=fun u k=>⟨(r2.below k).cell,(r3.below k).cell,(r0.below k).cell,(r4.below k).cell,(r5.below k).cell⟩
 have IL:∀u u',Below w1.drew.heap.size w1.drew u->Fr B u u'->u'.cell? ⟨X2,0,none⟩=some (.string s)/\u'.cell? ⟨X3,0,none⟩=some (.slice ao steps.length cap)/\u'.cell? ⟨X0,0,none⟩=some (.pointer (some ⟨B,0,none⟩))/\u'.cell? ⟨X4,0,none⟩=some (.slice (some ⟨S1,0,none⟩) 288 288)/\u'.cell? ⟨X5,0,none⟩=some (.slice (some ⟨S2,0,none⟩) 30 30):=fun u u' k f =>
  ⟨((r2.below k).fr f (r2.ne hw2 (by decide)) (by decide)).cell,((r3.below k).fr f (r3.ne hw2 (by decide)) (by decide)).cell,((r0.below k).fr f (r0.ne hw2 (by decide)) (by decide)).cell,((r4.below k).fr f (r4.ne hw2 (by decide)) (by decide)).cell,((r5.below k).fr f (r5.ne hw2 (by decide)) (by decide)).cell⟩
 clear r0 r2 r3 r4 r5;go_wp2_with fail;refine aE (fun u=>u.cell? ⟨X2,0,none⟩=some (.string s)/\u.cell? ⟨X3,0,none⟩=some (.slice ao steps.length cap)/\u.cell? ⟨X0,0,none⟩=some (.pointer (some ⟨B,0,none⟩))/\u.cell? ⟨X4,0,none⟩=some (.slice (some ⟨S1,0,none⟩) 288 288)/\u.cell? ⟨X5,0,none⟩=some (.slice (some ⟨S2,0,none⟩) 30 30)) 999 ?_;generalize w1.drew=wd at *;refine am [0,1,2,3,4] ?_
 iterate 5 (refine ay hS ?_;try simp only[Act.put])
 refine aj ?_;refine ai 5 fun K hK=>?_;go_simp;refine (zk B ls ds (some ⟨S1,0,none⟩) (some ⟨S2,0,none⟩) 288 30 288 30 wd hl.1 hd.1 (by omega) (by omega) t1.ints t2.ints (fun a e _=>by cases e;exact aab t1) (fun a e _=>by cases e;exact aab t2) hl.2.1 hd.2.1 hl.2.2 hd.2.2 hw2.lt).mono ?_;rintro e w3 ⟨uE,uF,rfl,Re,OW,hb3⟩;refine hK _ _ (fun _=>eW _ hb3) ?_;clear hK K;refine ai 6 fun K hK=>?_;go_simp;refine (kV B (W++uN last 1) ls ds uE uF ao cap s steps w3 hW1.out (by omega) (by omega) (hw2.below hb3) (Re.weak (aaj _)) (OW.weak (aaj _)) (st2.below hb3) hs hok).mono ?_;rintro e w4 ⟨rfl,h4,f4⟩;refine hK _ _ (fun _=>IL _ _ hb3 f4) ?_;clear hK K;refine ar ?_;go_wp2
 go_end0
 refine⟨rfl,?_,(F2.trans (iL hw2.lt hb3)).trans f4⟩;rw[aaq]at h4;exact h4
theorem oy (ls ds:List Int)(hl:∀j,0<=ls.getD j 0/\ls.getD j 0<=15)(hd:∀j,0<=ds.getD j 0/\ds.getD j 0<=15):∀ts:List Tok,(∀t∈ts,lY t)->(aA ls ds ts).length<=28*ts.length
 | [],_=>aad _
 | t::r,h=>by
  have ih:=oy ls ds hl hd r (fun u hu=>h u (abN _ hu));have ht:=(h t (abJ ..)).2.2;have e1:aA ls ds (t::r)=(Rf.a8 (if t.1 then ds else ls) t.2.1++Rf.nb t.2.2.1 t.2.2.2)++aA ls ds r:=by simp[aA]
  rw[e1,aac,aac,Rf.bV,Rf.aF,aao]
  have b:(((if t.1 then ds else ls):List Int).getD t.2.1 0).toNat<=15:=by
   split
   ·have:=(hd t.2.1).2;omega
   ·have:=(hl t.2.1).2;omega
  omega
theorem tk:∀ts:List Tok,(∀t∈ts,lY t)->aV ts<=13*ts.length
 | [],_=>aad _
 | t::r,h=>by
  have ih:=tk r (fun u hu=>h u (abN _ hu));have ht:=(h t (abJ ..)).2.2;have e2:aV (t::r)=t.2.2.2+aV r:=by simp[aV]
  rw[e2,aao];omega
theorem Part.len {T:List UInt8}{p q:Nat}{s:ByteArray}{steps:List (Nat×Nat)}(h:Part T p q s steps):(ax s.data.toList 0 steps).length<=131071:=by
 have a:=jt s.data.toList steps 0;have b:=h.ok.length;have c:=h.size;have d:=h.small;omega
theorem tl (ls ds:List Int)(N1 G1 G2 Sy Di:Nat)(ts:List Tok)(v:World)(hts:∀t∈ts,lY t)(hl:ts.length<=131071)(a1:aR v Sy (eF 286 false ts))(a2:aR v Di (eF 30 true ts))(a3:aR v G1 ls)(a4:aR v G2 ds)(l1:ls.length=N1)(hN:286<=N1)(l2:ds.length=30)(r1:∀j,0<=ls.getD j 0/\ls.getD j 0<=15)(r2:∀j,0<=ds.getD j 0/\ds.getD j 0<=15): Calls Tryz.prog 214 #[om Sy Di (aV ts),.slice (some ⟨G1,0,none⟩) N1 N1,.slice (some ⟨G2,0,none⟩) 30 30] v fun e w'=>e=.returned (.int .i64 (((aA ls ds ts).length:Nat):Int))/\Below v.heap.size v w':=by
 have hx:=tk ts hts;rw[mj ls ds (fun j=>(r1 j).1) (fun j=>(r2 j).1) ts hts];refine O3 (eF 286 false ts) (eF 30 true ts) ls ds Sy Di (aV ts) N1 30 N1 30 v _ _ a1 a2 a3.ints a4.ints (fun a e _=>by cases e;exact aab a3) (fun a e _=>by cases e;exact aab a4) (dZ _ _ _) (dZ _ _ _) l1 l2 hN (aad _) (by omega) 131071 (by omega) (fun j=>?_) (fun j=>?_) r1 r2
 ·have:=fZ 286 false ts j;omega
 ·have:=fZ 30 true ts j;omega
theorem PA (args:Array Value)(w:World):(callFunc 215 args).run Tryz.prog w=.ok (.enter 215 args) w:=by kernel_rfl
theorem BG {u:World}{B:Nat}{W:List Int}{T:List UInt8}{p q:Nat}{last:Bool}{s:ByteArray}{steps:List (Nat×Nat)}{ao:Option Addr}{cap X0 X1 X2 X3 X4 X5 S1 S2:Nat}(hp:Part T p q s steps)(hW:W.length<=80000000)(b0:bM u X0 (.pointer (some ⟨B,0,none⟩)) 179)(b1:bM u X1 (.bool last) 4)(b2:bM u X2 (.string s) 9)(b3:bM u X3 (.slice ao steps.length cap) 186)(b4:bM u X4 (.slice (some ⟨S1,0,none⟩) 288 288) 24)(b5:bM u X5 (.slice (some ⟨S2,0,none⟩) 30 30) 24)(l1:aR u S1 Rf.bE)(l2:aR u S2 dF)(hst:Steps u (.slice ao steps.length cap) steps B): iM u B W T p q last 1 (W.length+3+(aA Rf.bE dF (ax s.data.toList 0 steps)).length) 215 #[.pointer (some ⟨X0,0,none⟩),.pointer (some ⟨X1,0,none⟩),.pointer (some ⟨X2,0,none⟩),.pointer (some ⟨X3,0,none⟩),.pointer (some ⟨X4,0,none⟩),.pointer (some ⟨X5,0,none⟩)]:=by
 have hz:=hp.size;have hm:=hp.small;refine⟨PA,fun w' hb hw=>(Mc X0 X1 X2 X3 X4 X5 S1 S2 B last s ao cap steps Rf.bE dF W w' hw (b0.kq hb (by decide)) (b1.kq hb (by decide)) (b2.kq hb (by decide)) (b3.kq hb (by decide)) (b4.kq hb (by decide)) (b5.kq hb (by decide)) (l1.kq hb) (l2.kq hb) (hst.kq hb) rC rD (by omega) hp.ok hW).mono ?_⟩;rintro e w'' ⟨rfl,h1,h2⟩;exact⟨rfl,1,_,aad _,h1,rfl,hp.fixed _,h2⟩
theorem qM (B:Nat)(last:Bool)(s:ByteArray)(ao:Option Addr)(cap:Nat)(steps:List (Nat×Nat))(W:List Int)(w:World)(h:aB w B W)(T:List UInt8)(p q Sy Di:Nat)(hp:Part T p q s steps)(hst:Steps w (.slice ao steps.length cap) steps B)(a1:aR w Sy (eF 286 false (ax s.data.toList 0 steps)))(a2:aR w Di (eF 30 true (ax s.data.toList 0 steps)))(hW:W.length<=80000000): Calls Tryz.prog 184 #[.pointer (some ⟨B,0,none⟩),.string s,.slice ao steps.length cap,om Sy Di (aV (ax s.data.toList 0 steps)),.bool last] w fun e w'=>∃(E:Nat) (aN:Array Value),e=.returned (.agg #[.int .i64 (E:Int),.func (.func 215) #[] aN])/\Below w.heap.size w w'/\iM w' B W T p q last 1 E 215 aN/\E<=90000000/\E=W.length+3+(aA Rf.bE dF (ax s.data.toList 0 steps)).length:=by
 have hlt:=h.lt;have cB:w.cell? ⟨B,1,none⟩=some (.int .i64 W.length):=by obtain⟨pv,Pk,hw⟩:=h;exact hw.cells.2.1
 have hle:=oy Rf.bE dF rC.2.1 rD.2.1 _ hp.toks;have hln:=hp.len;have HB:=fun (v:World) (S1 S2:Nat) (y1:aR v Sy (eF 286 false (ax s.data.toList 0 steps))) (y2:aR v Di (eF 30 true (ax s.data.toList 0 steps))) (y3:aR v S1 Rf.bE) (y4:aR v S2 dF)=>tl Rf.bE dF 288 S1 S2 Sy Di _ v hp.toks hp.len y1 y2 y3 y4 rC.1 (by omega) rD.1 rC.2.1 rD.2.1
 have HP:Hid (∀u X0 X1 X2 X3 X4 X5 S1 S2,bM u X0 (.pointer (some ⟨B,0,none⟩)) 179->bM u X1 (.bool last) 4->bM u X2 (.string s) 9->bM u X3 (.slice ao steps.length cap) 186->bM u X4 (.slice (some ⟨S1,0,none⟩) 288 288) 24->bM u X5 (.slice (some ⟨S2,0,none⟩) 30 30) 24->aR u S1 Rf.bE->aR u S2 dF->Steps u (.slice ao steps.length cap) steps B ->
   iM u B W T p q last 1 (W.length+3+(aA Rf.bE dF (ax s.data.toList 0 steps)).length) 215 #[.pointer (some ⟨X0,0,none⟩),.pointer (some ⟨X1,0,none⟩),.pointer (some ⟨X2,0,none⟩),.pointer (some ⟨X3,0,none⟩),.pointer (some ⟨X4,0,none⟩),.pointer (some ⟨X5,0,none⟩)]) :=
  fun u X0 X1 X2 X3 X4 X5 S1 S2 b0 b1 b2 b3 b4 b5 l1 l2 st=>BG hp hW b0 b1 b2 b3 b4 b5 l1 l2 st
 clear hp h;generalize (aA Rf.bE dF (ax s.data.toList 0 steps)).length=EB at *;generalize eF 286 false (ax s.data.toList 0 steps)=sw at *;generalize eF 30 true (ax s.data.toList 0 steps)=dw at *;generalize aV (ax s.data.toList 0 steps)=ex at *;have hE:EB<=4000000:=by omega
 clear hle hln;generalize W.length=PL at *
 go_enter Tryz.func184,Tryz.ntmps184
 go_wp2_with fail;obtain⟨k0,q0,q1,q2,q3,q4,q5⟩:=vh w (.cells #[.pointer (some ⟨B,0,none⟩)] 179) (.cells #[.string s] 9) (.cells #[.slice ao steps.length cap] 186) (.cells #[.slice (some ⟨Sy,0,none⟩) 286 286,.slice (some ⟨Di,0,none⟩) 30 30,.int .i64 ex] 220) (.cells #[.bool last] 4) (.cells #[.int .i64 0,.nilFunc] 188);generalize Pz:((((((w.alloc (.cells #[.pointer (some ⟨B,0,none⟩)] 179)).alloc (.cells #[.string s] 9)).alloc (.cells #[.slice ao steps.length cap] 186)).alloc (.cells #[.slice (some ⟨Sy,0,none⟩) 286 286,.slice (some ⟨Di,0,none⟩) 30 30,.int .i64 ex] 220)).alloc (.cells #[.bool last] 4)).alloc (.cells #[.int .i64 0,.nilFunc] 188))=wa at *;refine (OO wa).mono ?_;rintro e u1 ⟨rfl,m1,hb1⟩;go_wp2_with fail;refine (OP u1).mono ?_;rintro e u2 ⟨rfl,m2,hb2⟩;have k2:Below wa.heap.size wa u2:=hb1.trans (hb2.mono hb1.size);have Xw:=m1.keep hb2;have B0:Below w.heap.size w u2:=k0.trans (k2.mono k0.size);generalize hS1:wa.heap.size=S1 at m1 Xw ⊢;generalize hS2:u1.heap.size=S2 at m2 ⊢;go_wp2_with fail;obtain⟨k3,x4,x5⟩:=bO u2 (.cells #[.slice (some ⟨S1,0,none⟩) 288 288] 24) (.cells #[.slice (some ⟨S2,0,none⟩) 30 30] 24);generalize hu3:(u2.alloc (.cells #[.slice (some ⟨S1,0,none⟩) 288 288] 24)).alloc (.cells #[.slice (some ⟨S2,0,none⟩) 30 30] 24)=u3 at *;have B3:Below w.heap.size w u3.drew:=(B0.trans (k3.mono B0.size)).drew;have K3:Below wa.heap.size wa u3.drew:=(k2.trans (k3.mono k2.size)).drew;have K4:Below u2.heap.size u2 u3.drew:=k3.drew;have Q0:bM u3.drew _ _ _:=(K3.block _ (aab q0)).trans q0;have Q1:bM u3.drew _ _ _:=(K3.block _ (aab q1)).trans q1;have Q2:bM u3.drew _ _ _:=(K3.block _ (aab q2)).trans q2;have Q3:=(K3.block _ (aab q3)).trans q3;have Q4:bM u3.drew _ _ _:=(K3.block _ (aab q4)).trans q4;have Q5:=(K3.block _ (aab q5)).trans q5;have Q6:bM u3.drew _ _ _:=x4;have Q7:bM u3.drew _ _ _:=x5;have L1:=Xw.keep K4;have L2:=m2.keep K4;have A1:=a1.keep B3;have A2:=a2.keep B3;have CB:=(B3.cell hlt).trans cB;have Tf:=HB u3.drew S1 S2 A1 A2 L1 L2;clear q0 q1 q2 q3 q4 q5 x4 x5 m1 Xw m2 hb1 hb2 k0 k2 k3 B0 K3 K4 Pz hu3 cB a1 a2 HB A1 A2;refine aE (fun u=>u.cell? ⟨w.heap.size,0,none⟩=some (.pointer (some ⟨B,0,none⟩))/\u.cell? ⟨B,1,none⟩=some (.int .i64 PL)/\u.cell? ⟨w.heap.size+1+1+1,0,none⟩=some (.slice (some ⟨Sy,0,none⟩) 286 286)/\u.cell? ⟨w.heap.size+1+1+1,1,none⟩=some (.slice (some ⟨Di,0,none⟩) 30 30)/\u.cell? ⟨w.heap.size+1+1+1,2,none⟩=some (.int .i64 ex)/\u.cell? ⟨u2.heap.size,0,none⟩=some (.slice (some ⟨S1,0,none⟩) 288 288)/\u.cell? ⟨u2.heap.size+1,0,none⟩=some (.slice (some ⟨S2,0,none⟩) 30 30)) 12 ?_;generalize u3.drew=v at *;have hlB:=B3.size;obtain⟨y0,y1,y2,NP,NQ⟩:=cells3 Q3;have hS:v.cell? ⟨w.heap.size,0,none⟩=some (.pointer (some ⟨B,0,none⟩))/\v.cell? ⟨B,1,none⟩=some (.int .i64 PL)/\v.cell? ⟨w.heap.size+1+1+1,0,none⟩=some (.slice (some ⟨Sy,0,none⟩) 286 286)/\v.cell? ⟨w.heap.size+1+1+1,1,none⟩=some (.slice (some ⟨Di,0,none⟩) 30 30)/\v.cell? ⟨w.heap.size+1+1+1,2,none⟩=some (.int .i64 ex)/\v.cell? ⟨u2.heap.size,0,none⟩=some (.slice (some ⟨S1,0,none⟩) 288 288)/\v.cell? ⟨u2.heap.size+1,0,none⟩=some (.slice (some ⟨S2,0,none⟩) 30 30):=⟨Q0.cell,CB,y0,y1,y2,Q6.cell,Q7.cell⟩
 refine am [0,1,2,3,4,5,6,7] ?_
 iterate 8 (refine ay hS ?_;try simp only[Act.put])
 refine aj ?_;refine am [10] ?_
 iterate 1 (refine ay hS ?_;try simp only[Act.put])
 refine aj ?_;refine ai 8 fun K hK=>?_;go_simp;refine Tf.mono ?_;rintro e v4 ⟨rfl,hb4⟩;have R0:=Q0.below hb4;have R1:=Q1.below hb4;have R2:=Q2.below hb4;have R3:=(hb4.block _ (aab Q3)).trans Q3;have R4:=Q4.below hb4;have R5:=(hb4.block _ (aab Q5)).trans Q5;have R6:=Q6.below hb4;have R7:=Q7.below hb4;have Xx:=L1.keep hb4;have Xy:=L2.keep hb4;have B4:Below w.heap.size w v4:=B3.trans (hb4.mono hlB);have CB4:=(hb4.cell (by show B<_;omega)).trans CB;obtain⟨ZZ,Z4,Z5,Xz,XA⟩:=cells3 R3;have PB:v4.cell? ⟨w.heap.size,0,none⟩=some (.pointer (some ⟨B,0,none⟩))/\v4.cell? ⟨B,1,none⟩=some (.int .i64 PL)/\v4.cell? ⟨w.heap.size+1+1+1,0,none⟩=some (.slice (some ⟨Sy,0,none⟩) 286 286)/\v4.cell? ⟨w.heap.size+1+1+1,1,none⟩=some (.slice (some ⟨Di,0,none⟩) 30 30)/\v4.cell? ⟨w.heap.size+1+1+1,2,none⟩=some (.int .i64 ex)/\v4.cell? ⟨u2.heap.size,0,none⟩=some (.slice (some ⟨S1,0,none⟩) 288 288)/\v4.cell? ⟨u2.heap.size+1,0,none⟩=some (.slice (some ⟨S2,0,none⟩) 30 30):=⟨R0.cell,CB4,ZZ,Z4,Z5,R6.cell,R7.cell⟩
 refine hK _ _ (fun _=>PB) ?_;clear hK K Tf Q0 Q1 Q2 Q3 Q4 Q5 Q6 Q7 L1 L2 hS CB B3 y0 y1 y2 NP NQ ZZ Z4 Z5 Xz XA;refine am [9] ?_
 iterate 1 (refine ay PB ?_;try simp only[Act.put])
 refine aj ?_;refine am [11] ?_
 iterate 1 (refine ay PB ?_;try simp only[Act.put])
 refine aj ?_;obtain⟨r0,r1,fz,hl5⟩:=aQ R5;refine ai 12 fun K hK=>?_;go_simp;refine hK _ _ (fun h=>absurd rfl h) ?_;clear hK K;refine ar ?_;go_wp2;have e1:IntKind.i64.wrap ((PL:Int)+3)=(PL:Int)+3:=aah _ (by omega);have e2:IntKind.i64.wrap ((PL:Int)+3+(EB:Int))=((PL+3+EB:Nat):Int):=(aah _ (by omega)).trans (by omega);rw[e1,e2];have XB:PL+3+EB<=90000000:=by omega
 generalize PL+3+EB=E at *;have kp:∀(v1 v2:Value) (g:Nat),g≠w.heap.size+1+1+1+1+1->((v4.setCell ⟨w.heap.size+1+1+1+1+1,0,none⟩ v1).setCell ⟨w.heap.size+1+1+1+1+1,1,none⟩ v2).heap[g]?=v4.heap[g]?:=fun v1 v2 g hg=>(aag _ ⟨w.heap.size+1+1+1+1+1,1,none⟩ _ _ hg).trans (aag _ ⟨w.heap.size+1+1+1+1+1,0,none⟩ _ _ hg);refine aal (v:=.agg #[.int .i64 (E:Int),.func (.func 215) #[] #[.pointer (some ⟨w.heap.size,0,none⟩),.pointer (some ⟨w.heap.size+1+1+1+1,0,none⟩),.pointer (some ⟨w.heap.size+1,0,none⟩),.pointer (some ⟨w.heap.size+1+1,0,none⟩),.pointer (some ⟨u2.heap.size,0,none⟩),.pointer (some ⟨u2.heap.size+1,0,none⟩)]]) ?_ rfl ⟨E,_,rfl,?_,HP.out _ _ _ _ _ _ _ S1 S2 ?_ ?_ ?_ ?_ ?_ ?_ ?_ ?_ ?_,XB,rfl⟩
 ·simp[results,Tryz.results184,go_sem,r0,r1]
 ·exact (B4.setCell (p:=⟨w.heap.size+1+1+1+1+1,0,none⟩) (by dsimp only;omega) _).setCell (p:=⟨w.heap.size+1+1+1+1+1,1,none⟩) (by dsimp only;omega) _
 ·exact (kp _ _ _ (by omega)).trans R0
 ·exact (kp _ _ _ (by omega)).trans R4
 ·exact (kp _ _ _ (by omega)).trans R1
 ·exact (kp _ _ _ (by omega)).trans R2
 ·exact (kp _ _ _ (fun e=>by rw[e]at R6;rw[show v4.heap[_]?=_ from R6]at R5;simp at R5)).trans R6
 ·exact (kp _ _ _ (fun e=>by rw[e]at R7;rw[show v4.heap[_]?=_ from R7]at R5;simp at R5)).trans R7
 ·exact (kp _ _ _ (fun e=>by rw[e]at Xx;rw[show v4.heap[_]?=_ from Xx]at R5;simp at R5)).trans Xx
 ·exact (kp _ _ _ (fun e=>by rw[e]at Xy;rw[show v4.heap[_]?=_ from Xy]at R5;simp at R5)).trans Xy
 ·exact hst.below ((B4.setCell (p:=⟨w.heap.size+1+1+1+1+1,0,none⟩) (by dsimp only;omega) _).setCell (p:=⟨w.heap.size+1+1+1+1+1,1,none⟩) (by dsimp only;omega) _)
end Go.Proofs.YtmfijackgekioaaGreatDoor
