import Derived.Test.YtmfijackgekioaaGreatDoorQ22
set_option maxHeartbeats 2000000
set_option maxRecDepth 100000
namespace Go.Proofs.YtmfijackgekioaaGreatDoor
open Go.RowKit
theorem NC (n:Nat)(h:n<=65535):bits .xor .i64 (-1) (n:Int)=-(n:Int)-1:=by
 have e:(BitVec.ofInt 64 (n:Int)).toNat=n:=ofInt_u64 n (by omega);have e1:BitVec.ofInt 64 (-1)=BitVec.allOnes 64:=by decide
 show IntKind.i64.wrap ((BitVec.ofInt 64 (-1)^^^BitVec.ofInt 64 (n:Int)).toNat:Int)=_;rw[e1,BitVec.allOnes_xor,BitVec.toNat_not,e,IntKind.wrap_i64];omega
def sr (last:Bool)(k:Nat):List Int:=Rf.nb (if last then 1 else 0) 1++Rf.nb k 2
theorem kX (last:Bool)(k:Nat):(sr last k).length=3:=by simp[sr,Rf.aC]
theorem mV (last:Bool)(k:Nat)(B:Nat)(W:List Int)(w:World)(h:aB w B W)(hW:W.length<=800000000): Calls Tryz.prog 207 #[.pointer (some ⟨B,0,none⟩),.bool last,.int .i64 k] w fun e w'=>e=.returned (.tuple #[])/\aB w' B (W++sr last k)/\Fr B w w':=by
 cases last
 ·go_enter Tryz.func207,Tryz.ntmps207
  go_wp2_with fail;refine (eD (0:Nat) 1 B W w h (by omega) (by omega)).mono ?_;rintro e w1 ⟨rfl,h1,f1⟩;go_wp2_with fail;refine (eD k 2 B _ w1 h1 (by omega) (by rw[List.length_append,ey];omega)).mono ?_;rintro e w2 ⟨rfl,h2,f2⟩;go_wp2
  go_end0
  refine⟨rfl,?_,f1.trans f2⟩;rw[List.append_assoc,fC,fC]at h2;exact h2
 ·go_enter Tryz.func207,Tryz.ntmps207
  go_wp2_with fail;refine (eD (1:Nat) 1 B W w h (by omega) (by omega)).mono ?_;rintro e w1 ⟨rfl,h1,f1⟩;go_wp2_with fail;refine (eD k 2 B _ w1 h1 (by omega) (by rw[List.length_append,ey];omega)).mono ?_;rintro e w2 ⟨rfl,h2,f2⟩;go_wp2
  go_end0
  refine⟨rfl,?_,f1.trans f2⟩;rw[List.append_assoc,fC,fC]at h2;exact h2
def TU (at_:Nat)(s:ByteArray):List Int:=List.replicate ((at_+7)/8*8-at_) 0++(Rf.nb s.size 16++(Rf.nb (65535-s.size) 16++Rf.bb s.data.toList))
theorem CN (at_:Nat)(s:ByteArray):(TU at_ s).length=(at_+7)/8*8-at_+32+8*s.size:=by
 simp only[TU,List.length_append,Rf.aC,Rf.nG,List.length_replicate,Array.length_toList];have:s.data.size=s.size:=rfl;omega
theorem bu.fr {w w':World}{B X:Nat}{v:Value}{t:TypeId}(h:bu w X v t)(f:Fr B w w')(hX:X≠B)(ht:t≠5):bu w' X v t:=(f.kept hX h ht).trans h
theorem J1 (X0 X1 X2 B:Nat)(last:Bool)(s:ByteArray)(W:List Int)(w:World)(h:aB w B W)(b0:bu w X0 (.pointer (some ⟨B,0,none⟩)) 179)(b1:bu w X1 (.bool last) 4)(b2:bu w X2 (.string s) 9)(n0:X0≠B)(n2:X2≠B)(hs:s.size<=65535)(hW:W.length<=800000000): Calls Tryz.prog 206 #[.pointer (some ⟨X0,0,none⟩),.pointer (some ⟨X1,0,none⟩),.pointer (some ⟨X2,0,none⟩)] w fun e w'=>e=.returned (.tuple #[])/\aB w' B (W++(sr last 0++TU (W.length+3) s))/\Fr B w w':=by
 have c0:=b0.cell;have c1:=b1.cell;have c2:=b2.cell
 go_enter Tryz.func206,Tryz.ntmps206
 go_wp2_with fail;refine (mV last 0 B W w h hW).mono ?_;rintro e w1 ⟨rfl,h1,f1⟩;have p0:=b0.fr f1 n0 (by decide);have p2:=b2.fr f1 n2 (by decide);clear c0 c1 c2 b0 b2;have c0:=p0.cell;have e1:(W++sr last 0).length=W.length+3:=by rw[List.length_append,kX]
 go_wp2_with fail;refine (Ra B _ w1 h1 (by omega)).mono ?_;rintro e w2 ⟨rfl,h2,f2⟩;have q0:=p0.fr f2 n0 (by decide);have q2:=p2.fr f2 n2 (by decide);clear c0 p0 p2;have c0:=q0.cell;have c2:=q2.cell;rw[e1]at h2;obtain⟨R,hR⟩:∃R,R=List.replicate ((W.length+3+7)/8*8-(W.length+3)) (0:Int):=⟨_,rfl⟩
 have hRl:R.length=(W.length+3+7)/8*8-(W.length+3):=by rw[hR,List.length_replicate]
 have e2:(W++sr last 0++R).length=(W.length+3+7)/8*8:=by rw[List.length_append,e1,hRl];omega
 rw[<-hR]at h2;go_wp2_with fail;refine (eD s.size 16 B _ w2 h2 (by omega) (by omega)).mono ?_;rintro e w3 ⟨rfl,h3,f3⟩;have p0:=q0.fr f3 n0 (by decide);have p2:=q2.fr f3 n2 (by decide);clear c0 c2 q0 q2;have c0:=p0.cell;have c2:=p2.cell;go_wp2_with fail;rw[NC _ hs];refine (eD (-(s.size:Int)-1) 16 B _ w3 h3 (by omega) (by rw[List.length_append,ey];omega)).mono ?_;rintro e w4 ⟨rfl,h4,f4⟩;have q0:=p0.fr f4 n0 (by decide);have q2:=p2.fr f4 n2 (by decide);clear c0 c2 p0 p2;have c0:=q0.cell;have c2:=q2.cell;go_wp2_with fail;refine (M0 s B _ w4 h4 (by rw[List.length_append,ey,List.length_append,ey];omega) (by rw[List.length_append,ey,List.length_append,ey];omega) (by omega)).mono ?_;rintro e w5 ⟨rfl,h5,f5⟩;go_wp2
 go_end0
 refine⟨rfl,?_,(((f1.trans f2).trans f3).trans f4).trans f5⟩;rw[fC,MY _ hs]at h5;unfold TU;rw[<-hR];simpa only[List.append_assoc]using h5
def Kq (u w:World):Prop:=∀(k:Nat) (cs:Array Value) (t:TypeId) (fr:Nat×Nat),u.heap[k]?=some (.cells cs t fr)->t≠188->w.heap[k]?=u.heap[k]?
theorem Kq.trans {a b c:World}(h:Kq a b)(k:Kq b c):Kq a c:=fun i cs t fr hi ht=>by
 have e:=h i cs t fr hi ht;exact (k i cs t fr (e.trans hi) ht).trans e
theorem Kq.aG {a b:World}(h:Below a.heap.size a b):Kq a b:=fun i _ _ _ hi _=>h.block i (lt_of_block hi)
theorem bu.kq {w w':World}{X:Nat}{v:Value}{t:TypeId}(h:bu w X v t)(k:Kq w w')(ht:t≠188):bu w' X v t:=(k _ _ _ _ h ht).trans h
theorem aP.kq {w w':World}{g:Nat}{zs:List Int}(h:aP w g zs)(k:Kq w w'):aP w' g zs:=(k _ _ _ _ h (by decide)).trans h
theorem Steps.kq {w w':World}{sv:Value}{steps:List (Nat×Nat)}{B:Nat}(h:Steps w sv steps B)(k:Kq w w'):Steps w' sv steps B :=
 ⟨h.1,fun hn=>by
  obtain⟨SB,cap,h1,h2,h3⟩:=h.2 hn;obtain⟨cs,c1,c2⟩:=h3
  exact⟨SB,cap,h1,h2,cs,(k _ _ _ _ c1 (by decide)).trans c1,c2⟩⟩
theorem jd.kq {w w':World}{G1 G2 G3 N1 N2:Nat}{ls ds nl:List Int}(h:jd w G1 G2 G3 N1 N2 ls ds nl)(k:Kq w w'):jd w' G1 G2 G3 N1 N2 ls ds nl :=
 ⟨h.s.kq k,h.d.kq k,h.n.kq k,h.l1,h.l2,h.l3,h.g1,h.g2,h.r1,h.r2,h.r3,h.full⟩
structure jf (u:World) (B:Nat) (W:List Int) (T:List UInt8) (p q:Nat) (last:Bool) (km E:Nat) (f:Nat) (aN:Array Value):Prop where
 call:∀args w,(callFunc f args).run Tryz.prog w=.ok (.enter f args) w
 does:∀w',Kq u w'->aB w' B W->Calls Tryz.prog f aN w' fun e w''=>e=.returned (.tuple #[])/\∃k Bk,k<=km/\aB w'' B (W++(sr last k++Bk))/\W.length+3+Bk.length=E/\Rf.jI T T.length (W.length+3) p q k Bk/\Fr B w' w''
theorem jf.weak {u:World}{B:Nat}{W:List Int}{T:List UInt8}{p q:Nat}{last:Bool}{km E f:Nat}{aN:Array Value}(h:jf u B W T p q last km E f aN){km':Nat}(hk:km<=km'):jf u B W T p q last km' E f aN :=
 ⟨h.call,fun w' hb hw=>(h.does w' hb hw).mono fun e w'' ⟨h1,k,Bk,h2,h3⟩=>⟨h1,k,Bk,by omega,h3⟩⟩
theorem jf.kq {u u':World}{B:Nat}{W:List Int}{T:List UInt8}{p q:Nat}{last:Bool}{km E f:Nat}{aN:Array Value}(h:jf u B W T p q last km E f aN)(k:Kq u u'):jf u' B W T p q last km E f aN :=
 ⟨h.call,fun w' hb hw=>h.does w' (k.trans hb) hw⟩
theorem jf.below {u u':World}{B:Nat}{W:List Int}{T:List UInt8}{p q:Nat}{last:Bool}{km E f:Nat}{aN:Array Value}(h:jf u B W T p q last km E f aN)(k:Below u.heap.size u u'):jf u' B W T p q last km E f aN:=h.kq (Kq.aG k)
theorem RL (args:Array Value)(w:World):(callFunc 206 args).run Tryz.prog w=.ok (.enter 206 args) w:=by kernel_rfl
theorem Ag {u:World}{B:Nat}{W:List Int}{T:List UInt8}{p q:Nat}{last:Bool}{s:ByteArray}{X0 X1 X2:Nat}(hs:s.data.toList=(T.take q).drop p)(hpq:p<=q)(hq:q<=T.length)(h6:q-p<=65535)(hW:W.length<=800000000)(b0:bu u X0 (.pointer (some ⟨B,0,none⟩)) 179)(b1:bu u X1 (.bool last) 4)(b2:bu u X2 (.string s) 9)(n0:X0≠B)(n2:X2≠B): jf u B W T p q last 0 ((W.length+10)/8*8+32+8*(q-p)) 206 #[.pointer (some ⟨X0,0,none⟩),.pointer (some ⟨X1,0,none⟩),.pointer (some ⟨X2,0,none⟩)]:=by
 have hsz:s.size=q-p:=by
  have:=congrArg List.length hs;rw[List.length_drop,List.length_take,Array.length_toList]at this;have e:s.data.size=s.size:=rfl;omega
 refine⟨RL,fun w' hb hw=>(J1 X0 X1 X2 B last s W w' hw (b0.kq hb (by decide)) (b1.kq hb (by decide)) (b2.kq hb (by decide)) n0 n2 (by omega) hW).mono ?_⟩;rintro e w'' ⟨rfl,h1,h2⟩;refine⟨rfl,0,TU (W.length+3) s,Nat.le_refl _,h1,?_,?_,h2⟩
 ·rw[CN,hsz];omega
 ·have:=Rf.xA (T:=T) (limit:=T.length) (at_:=W.length+3) (p:=p) (q:=q) (List.replicate ((W.length+3+7)/8*8-(W.length+3)) 0) (by rw[List.length_replicate];omega) hpq hq h6 (Int.le_refl _);unfold TU;rw[hs,hsz];exact this
theorem kY (B:Nat)(last:Bool)(s:ByteArray)(W:List Int)(w:World)(h:aB w B W)(T:List UInt8)(p q:Nat)(hs:s.data.toList=(T.take q).drop p)(hpq:p<=q)(hq:q<=T.length)(h6:q-p<=65535)(hW:W.length<=800000000): Calls Tryz.prog 182 #[.pointer (some ⟨B,0,none⟩),.string s,.bool last] w fun e w'=>∃aN,e=.returned (.agg #[.int .i64 (((W.length+10)/8*8+32+8*(q-p):Nat):Int),.func (.func 206) #[] aN])/\Below w.heap.size w w'/\jf w' B W T p q last 0 ((W.length+10)/8*8+32+8*(q-p)) 206 aN:=by
 have hsz:s.size=q-p:=by
  have:=congrArg List.length hs;rw[List.length_drop,List.length_take,Array.length_toList]at this;have e:s.data.size=s.size:=rfl;omega
 have hlt:=h.lt;have cB:w.cell? ⟨B,1,none⟩=some (.int .i64 W.length):=by obtain⟨pv,Pk,hw⟩:=h;exact hw.cells.2.1
 have HP:Hid (∀u X0 X1 X2,bu u X0 (.pointer (some ⟨B,0,none⟩)) 179->bu u X1 (.bool last) 4->bu u X2 (.string s) 9->X0≠B->X2≠B->jf u B W T p q last 0 ((W.length+10)/8*8+32+8*(q-p)) 206 #[.pointer (some ⟨X0,0,none⟩),.pointer (some ⟨X1,0,none⟩),.pointer (some ⟨X2,0,none⟩)]) :=
  fun u X0 X1 X2 b0 b1 b2 n0 n2=>Ag hs hpq hq h6 hW b0 b1 b2 n0 n2
 clear hs h;generalize W.length=PL at *
 go_enter Tryz.func182,Tryz.ntmps182
 go_wp2_with fail;obtain⟨k0,q0,q1,q2,q3⟩:=oo w (.cells #[.pointer (some ⟨B,0,none⟩)] 179) (.cells #[.string s] 9) (.cells #[.bool last] 4) (.cells #[.int .i64 0,.nilFunc] 188);have cB1:=(k0.cell hlt).trans cB;generalize RM:(((w.alloc (.cells #[.pointer (some ⟨B,0,none⟩)] 179)).alloc (.cells #[.string s] 9)).alloc (.cells #[.bool last] 4)).alloc (.cells #[.int .i64 0,.nilFunc] 188)=wa at *;have kd:Below w.heap.size w wa.drew:=k0.drew;have hS:wa.drew.cell? ⟨w.heap.size,0,none⟩=some (.pointer (some ⟨B,0,none⟩))/\wa.drew.cell? ⟨B,1,none⟩=some (.int .i64 PL)/\wa.drew.cell? ⟨w.heap.size+1,0,none⟩=some (.string s):=⟨(one_cell q0).1,cB1,(one_cell q1).1⟩
 have HQ:Hid (wa.drew.heap[w.heap.size]?=some (.cells #[.pointer (some ⟨B,0,none⟩)] 179 (0,0))/\wa.drew.heap[w.heap.size+1]?=some (.cells #[.string s] 9 (0,0))/\wa.drew.heap[w.heap.size+1+1]?=some (.cells #[.bool last] 4 (0,0))):=⟨q0,q1,q2⟩
 obtain⟨r0,r1,fz,hl3⟩:wa.drew.cell? ⟨w.heap.size+1+1+1,0,none⟩=some (.int .i64 0)/\wa.drew.cell? ⟨w.heap.size+1+1+1,1,none⟩=some .nilFunc/\(∀j,wa.drew.frozen? ⟨w.heap.size+1+1+1,j,none⟩=false)/\w.heap.size+1+1+1<wa.drew.heap.size:=aL q3;clear q0 q1 q2 q3 k0 cB cB1 RM;refine ax (by kernel_rfl) (fun w'=>w'.cell? ⟨w.heap.size,0,none⟩=some (.pointer (some ⟨B,0,none⟩))/\w'.cell? ⟨B,1,none⟩=some (.int .i64 PL)/\w'.cell? ⟨w.heap.size+1,0,none⟩=some (.string s)) 15 ?_;generalize wa.drew=wd at *;refine ap [0,1,2,3,4,5,6,7,8,9,10,11,12,13,14] ?_
 iterate 15 (refine ar (v:=?_) rfl (by kernel_rfl) (fun _ _ _ h=>h) ?_ hS ?_;rotate_left;(·intro w hSw;(try dsimp only at hSw);go_simp;try with_reducible rfl);try simp only[Act.put])
 refine ai ?_;refine af (i:=15) (by kernel_rfl) rfl (fun K hK=>?_);go_simp;refine hK _ _ (fun h=>absurd rfl h) ?_;clear hK K;refine ak (by kernel_rfl) ?_ _;go_wp2;have e1:IntKind.i64.wrap ((PL:Int)+3)=(PL:Int)+3:=IntWalk.i64_in _ (by omega);have e2:IntKind.i64.wrap ((PL:Int)+3+7)=(PL:Int)+10:=(IntWalk.i64_in _ (by omega)).trans (by omega);have e3:IntKind.i64.wrap (((PL:Int)+10).tdiv 8)=((PL:Int)+10)/8:=by rw[Int.tdiv_eq_ediv_of_nonneg (by omega)];exact IntWalk.i64_in _ (by omega)
 have e4:IntKind.i64.wrap (((PL:Int)+10)/8*8)=((PL:Int)+10)/8*8:=IntWalk.i64_in _ (by omega);have e5:IntKind.i64.wrap (((PL:Int)+10)/8*8+32)=((PL:Int)+10)/8*8+32:=IntWalk.i64_in _ (by omega);have e6:IntKind.i64.wrap (8*((q-p:Nat):Int))=8*((q-p:Nat):Int):=IntWalk.i64_in _ (by omega);have e7:IntKind.i64.wrap (((PL:Int)+10)/8*8+32+8*((q-p:Nat):Int))=(((PL+10)/8*8+32+8*(q-p):Nat):Int):=(IntWalk.i64_in _ (by omega)).trans (by omega);rw[e1,e2,e3,e4,e5,e6,e7];obtain⟨b0,b1,b2⟩:=HQ.out;generalize (PL+10)/8*8+32+8*(q-p)=E at *;refine bodyPost_ret (v:=.agg #[.int .i64 (E:Int),.func (.func 206) #[] #[.pointer (some ⟨w.heap.size,0,none⟩),.pointer (some ⟨w.heap.size+1+1,0,none⟩),.pointer (some ⟨w.heap.size+1,0,none⟩)]]) ?_ rfl ⟨_,rfl,?_,HP.out _ _ _ _ ?_ ?_ ?_ (by omega) (by omega)⟩
 ·simp[results,Tryz.results182,go_sem,r0,r1]
 ·exact (kd.setCell (p:=⟨w.heap.size+1+1+1,0,none⟩) (by dsimp only;omega) _).setCell (p:=⟨w.heap.size+1+1+1,1,none⟩) (by dsimp only;omega) _
 ·exact (Below.heap_setCell _ ⟨w.heap.size+1+1+1,1,none⟩ _ _ (by dsimp only;omega)).trans ((Below.heap_setCell _ ⟨w.heap.size+1+1+1,0,none⟩ _ _ (by dsimp only;omega)).trans b0)
 ·exact (Below.heap_setCell _ ⟨w.heap.size+1+1+1,1,none⟩ _ _ (by dsimp only;omega)).trans ((Below.heap_setCell _ ⟨w.heap.size+1+1+1,0,none⟩ _ _ (by dsimp only;omega)).trans b2)
 ·exact (Below.heap_setCell _ ⟨w.heap.size+1+1+1,1,none⟩ _ _ (by dsimp only;omega)).trans ((Below.heap_setCell _ ⟨w.heap.size+1+1+1,0,none⟩ _ _ (by dsimp only;omega)).trans b1)
theorem xV (N:Nat)(b:Bool)(ls:List Int):∀k,k<=N->dot (eW N b []) ls k=0
 | 0,_=>rfl
 | k+1,h=>by
  rw[dot,xV N b ls k (by omega),ja N b [] k (by omega)];simp
theorem tR (N:Nat)(b:Bool)(t:Tok)(ts:List Tok)(ls:List Int):∀k,k<=N->dot (eW N b (t::ts)) ls k=dot (eW N b ts) ls k+if t.1=b/\t.2.1<k then ls.getD t.2.1 0 else 0
 | 0,_=>by simp[dot]
 | k+1,h=>by
  rw[dot,dot,tR N b t ts ls k (by omega),ja N b (t::ts) k (by omega),ja N b ts k (by omega),List.countP_cons];generalize (ts.countP fun u=>decide (u.1=b/\u.2.1=k))=c;by_cases hk:t.1=b/\t.2.1=k
  ·rw[if_neg (show ¬(t.1=b/\t.2.1<k) by omega),if_pos (show decide (t.1=b/\t.2.1=k)=true from decide_eq_true hk),if_pos (show t.1=b/\t.2.1<k+1 from ⟨hk.1,by omega⟩),hk.2];generalize ls.getD k 0=x;have:((c+1:Nat):Int)*x=(c:Int)*x+x:=by rw[Int.natCast_add,Int.add_mul];simp
   rw[this];omega
  ·rw[if_neg (show ¬(decide (t.1=b/\t.2.1=k)=true) by rw[decide_eq_true_iff];exact hk),Nat.add_zero];by_cases hq:t.1=b/\t.2.1<k
   ·rw[if_pos hq,if_pos (show t.1=b/\t.2.1<k+1 from ⟨hq.1,by omega⟩)];omega
   ·rw[if_neg hq,if_neg (show ¬(t.1=b/\t.2.1<k+1) from fun q=>by
     have:t.2.1≠k:=fun e=>hk ⟨q.1,e⟩
     exact hq ⟨q.1,by omega⟩)]
    omega
theorem mW (ls ds:List Int)(hl:∀j,0<=ls.getD j 0)(hd:∀j,0<=ds.getD j 0):∀ts:List Tok,(∀t∈ts,mM t) -> ((aA ls ds ts).length:Int)=(aU ts:Nat)+dot (eW 286 false ts) ls 286+dot (eW 30 true ts) ds 30
 | [],_=>by rw[xV _ _ _ _ (Nat.le_refl _),xV _ _ _ _ (Nat.le_refl _)];simp[aA,aU]
 | t::r,h=>by
  have ih:=mW ls ds hl hd r (fun u hu=>h u (List.mem_cons_of_mem _ hu));have ht:=(h t (List.mem_cons_self ..)).1;have e1:aA ls ds (t::r)=(Rf.bd (if t.1 then ds else ls) t.2.1++Rf.nb t.2.2.1 t.2.2.2)++aA ls ds r:=by simp[aA]
  have e2:aU (t::r)=t.2.2.2+aU r:=by simp[aU]
  rw[e1,e2,tR _ _ _ _ _ _ (Nat.le_refl _),tR _ _ _ _ _ _ (Nat.le_refl _),List.length_append,List.length_append,Rf.cu,Rf.aC];have h1:=hl t.2.1;have h2:=hd t.2.1;cases hb:t.1 with
  | false =>
   rw[hb]at ht;have ht:t.2.1<=285:=ht;rw[if_neg (show ¬(false=true) by decide),if_pos (show false=false/\t.2.1<286 from ⟨rfl,by omega⟩),if_neg (show ¬(false=true/\t.2.1<30) from fun q=>Bool.noConfusion q.1)];omega
  | true =>
   rw[hb]at ht;have ht:t.2.1<=29:=ht;rw[if_pos (show true=true from rfl),if_neg (show ¬(true=false/\t.2.1<286) from fun q=>Bool.noConfusion q.1),if_pos (show true=true/\t.2.1<30 from ⟨rfl,by omega⟩)];omega
theorem wj (U:List UInt8)(n:Nat):∀(p:Nat) (steps:List (Nat×Nat)),dm n p steps->∀t∈aq U p steps,mM t
 | p,[],_,t,ht=>by
  have e:t=(false,256,0,0):=by simpa[aq]using ht
  subst e;exact⟨by show 256<=285;omega,by show 0<2^0;omega,by show 0<=13;omega⟩
 | p,s::r,h,t,ht=>by
  rw[aq,List.mem_append]at ht;rcases ht with ht|ht
  ·unfold dk at ht;by_cases h0:s.2=0
   ·rw[if_pos h0]at ht;have e:t=(false,(U.getD p 0).toNat,0,0):=by simpa using ht
    subst e;have:=(U.getD p 0).toNat_lt;exact⟨by show (U.getD p 0).toNat<=285;omega,by show 0<2^0;omega,by show 0<=13;omega⟩
   ·rw[if_neg h0]at ht;rcases h.1 with⟨q,_⟩|⟨a,b,c,d,_⟩
    ·exact absurd q h0
    ·have l1:=Rf.s8 s.1 a b;have d1:=Rf.tj s.2 c d;have e:t=(false,257+Rf.fX s.1,s.1-Rf.dy (Rf.fX s.1),Rf.lb (Rf.fX s.1))\/t=(true,Rf.ic s.2,s.2-Rf.cY (Rf.ic s.2),Rf.db (Rf.ic s.2)):=by simpa using ht
     rcases e with e|e
     ·subst e;exact⟨by show 257+Rf.fX s.1<=285;omega,l1.2.2,by have:=Co _ l1.1;show Rf.lb (Rf.fX s.1)<=13;omega⟩
     ·subst e;exact⟨d1.1,d1.2.2,Cp _ d1.1⟩
  ·exact wj U n (p+s.1) r h.2 t ht
theorem tS (ls:List Int)(m n b:Nat):∀i,i<=m->Rf.pj (ls.take m) n b i=Rf.pj ls n b i
 | 0,_=>rfl
 | i+1,h=>by rw[Rf.pj,Rf.pj,tS ls m n b i (by omega),getD_take,if_pos (show i<m by omega)]
theorem Ah (ls:List Int)(n b m:Nat):∀k,m<=k->(∀j,m<=j->j<k->ls.getD j 0=0)->Rf.pj ls (n+1) b k=Rf.pj ls (n+1) b m
 | 0,h,_=>by rw[show m=0 by omega]
 | k+1,h,hz=>by
  by_cases e:m=k+1
  ·rw[e]
  ·rw[Rf.pj,Ah ls n b m k (by omega) (fun j h1 h2=>hz j h1 (by omega)),hz k (by omega) (by omega),if_neg (by omega)];rfl
theorem Ai (ls:List Int)(m:Nat)(hm:m<=ls.length)(hz:∀j,m<=j->j<ls.length->ls.getD j 0=0):∀n,Rf.jS (ls.take m) n=Rf.jS ls n
 | 0=>rfl
 | n+1=>by
  rw[Rf.jS,Rf.jS,Ai ls m hm hz n,List.length_take,Nat.min_eq_left hm,tS ls m _ _ m (Nat.le_refl _),Ah ls n _ m ls.length hm hz]
theorem tT (ls:List Int)(m:Nat)(hm:m<=ls.length)(hz:∀j,m<=j->j<ls.length->ls.getD j 0=0):Rf.bd (ls.take m)=Rf.bd ls:=by
 funext j
 unfold Rf.bd;by_cases h:j<m
 ·rw[getD_take,if_pos h];unfold Rf.nx;rw[tS ls m _ _ j (by omega),Ai ls m hm hz]
 ·have e:ls.getD j 0=0:=by
   rcases Nat.lt_or_ge j ls.length with q|q
   ·exact hz j (by omega) q
   ·rw[List.getD_eq_getElem?_getD,List.getElem?_eq_none q];rfl
  rw[getD_take,if_neg h,e];rfl
theorem oJ (sb fb:Nat->List Int)(T:List UInt8):∀(S:List (Nat×Nat)) (p:Nat),(∀i,Rf.tm T p S i->1<=(sb i).length)->S.length<=(Rf.dB sb fb T p S).length
 | [],_,_=>Nat.zero_le _
 | s::r,p,h=>by
  have ih:=oJ sb fb T r (p+s.1) (fun i hi=>h i (.inr hi))
  have h1:1<=(Rf.jX sb fb T p s).length:=by
   unfold Rf.jX;by_cases h0:s.2=0
   ·rw[if_pos h0];exact h _ (.inl (by rw[if_pos h0]))
   ·rw[if_neg h0,List.length_append];have:=h (257+Rf.fX s.1) (.inl (by rw[if_neg h0]));omega
  rw[Rf.dB,List.length_append,List.length_cons];omega
theorem wl (T U:List UInt8)(o n:Nat)(hU:∀j,j<n->U.getD j 0=T.getD (o+j) 0):∀(p:Nat) (S:List (Nat×Nat)),dm n p S->∀i,Rf.tm T (o+p) S i->∃x k,(false,i,x,k)∈aq U p S
 | p,[],_,i,h=>⟨0,0,by rw[show i=256 from h];simp[aq]⟩
 | p,s::r,hok,i,h=>by
  rw[aq];rcases h with h|h
  ·unfold dk;by_cases h0:s.2=0
   ·rw[if_pos h0]at h ⊢
    have hp:p<n:=by
     rcases hok.1 with⟨_,_,q⟩|⟨_,_,q,_⟩
     ·exact q
     ·omega
    exact⟨0,0,by rw[h,<-hU p hp];simp⟩
   ·rw[if_neg h0]at h ⊢;exact⟨s.1-Rf.dy (Rf.fX s.1),Rf.lb (Rf.fX s.1),by rw[h];simp⟩
  ·rw[Nat.add_assoc]at h;obtain⟨x,k,hx⟩:=wl T U o n hU (p+s.1) r hok.2 i h;exact⟨x,k,List.mem_append_right _ hx⟩
theorem tU (U:List UInt8):∀(p:Nat) (S:List (Nat×Nat)) (j:Nat),Rf.qs S j->∃x k,(true,j,x,k)∈aq U p S
 | p,s::r,j,h=>by
  rw[aq];rcases h with⟨h0,h⟩|h
  ·unfold dk;rw[if_neg h0];exact⟨s.2-Rf.cY (Rf.ic s.2),Rf.db (Rf.ic s.2),by rw[h];simp⟩
  ·obtain⟨x,k,hx⟩:=tU U (p+s.1) r j h;exact⟨x,k,List.mem_append_right _ hx⟩
theorem Er (U:List UInt8):∀(p:Nat) (S:List (Nat×Nat)),(false,256,0,0)∈aq U p S
 | _,[]=>by simp[aq]
 | p,s::r=>by rw[aq];exact List.mem_append_right _ (Er U (p+s.1) r)
theorem xW (N:Nat)(b:Bool)(ts:List Tok)(t:Tok)(h:t∈ts)(hb:t.1=b)(hN:t.2.1<N):0<(eW N b ts).getD t.2.1 0:=by
 rw[ja N b ts t.2.1 hN];have:0<ts.countP (fun u=>decide (u.1=b/\u.2.1=t.2.1)):=List.countP_pos_iff.2 ⟨t,h,by simp[hb]⟩;omega
theorem tV:∀(out:List Int) (ts:List (Nat×Nat)),Rf.iB out ts->∀t∈ts,t.1<=18
 | _,[],_,t,h=>by simp at h
 | out,u::r,hk,t,h=>by
  rcases List.mem_cons.1 h with e|h
  ·rw[e];exact hk.1
  ·exact tV _ r hk.2.2.2 t h
theorem J2 (l:List Int)(j:Nat)(h:∀i,l.getD i 0=if i=j then 1 else 0):∀k,Rf.fs l k=if j<k then 16384 else 0
 | 0=>by simp[Rf.fs]
 | k+1=>by
  rw[Rf.fs,J2 l j h k,h k];by_cases e:k=j
  ·subst e;simp
  ·rw[if_neg e];by_cases e2:j<k
   ·have e3:j<k+1:=by omega
    simp[e2,e3]
   ·have e3:¬j<k+1:=by omega
    simp only[if_neg e2,if_neg e3];simp
theorem Es (l:List Int)(h:∀i,l.getD i 0=0):∀k,Rf.fs l k=0
 | 0=>rfl
 | k+1=>by rw[Rf.fs,Es l h k,h k];simp
theorem dK.fs {ws lens:List Int}{N L:Nat}(h:dK ws N L lens):Rf.fs lens N<=32768:=by
 rcases Nat.lt_or_ge (heavy ws N).length 2 with hlt|hge
 ·rcases Nat.lt_or_ge (heavy ws N).length 1 with h0|h1
  ·have e0:heavy ws N=[]:=List.eq_nil_of_length_eq_zero (by omega);rw[Es lens (fun i=>h.non i (by rw[e0];simp))];omega
  ·obtain⟨j,ej⟩:=List.length_eq_one_iff.1 (show (heavy ws N).length=1 by omega);have hj:lens.getD j 0=1:=h.one (by omega) j (by rw[ej];simp)
   rw[J2 lens j (fun i=>by
    by_cases e:i=j
    ·rw[if_pos e,e,hj]
    ·rw[if_neg e]
     exact h.non i (by rw[ej];simpa using e))]
   split<;>omega
 ·rw[h.full hge];exact Nat.le_refl _
structure Part (T:List UInt8) (p q:Nat) (s:ByteArray) (steps:List (Nat×Nat)):Prop where
 txt:s.data.toList=(T.take q).drop p
 le:p<=q
 qt:q<=T.length
 small:q-p<=65535
 fit:Rf.Fits T p steps q
theorem Part.size {T:List UInt8}{p q:Nat}{s:ByteArray}{steps:List (Nat×Nat)}(h:Part T p q s steps):s.size=q-p:=by
 have:=congrArg List.length h.txt;rw[List.length_drop,List.length_take,Array.length_toList]at this;have e:s.data.size=s.size:=rfl;have:=h.le;have:=h.qt;omega
theorem Part.get {T:List UInt8}{p q:Nat}{s:ByteArray}{steps:List (Nat×Nat)}(h:Part T p q s steps):∀j,j<q-p->s.data.toList.getD j 0=T.getD (p+j) 0:=fun j hj=>by
 rw[h.txt,List.getD_eq_getElem?_getD,List.getD_eq_getElem?_getD,List.getElem?_drop,List.getElem?_take,if_pos (by omega)]
theorem Part.ok {T:List UInt8}{p q:Nat}{s:ByteArray}{steps:List (Nat×Nat)}(h:Part T p q s steps):dm s.size 0 steps:=by
 rw[h.size];refine tP T p (q-p) (p:=0) ?_;have:=h.le;rw[Nat.add_zero,show p+(q-p)=q by omega];exact h.fit
theorem Part.bits {T:List UInt8}{p q:Nat}{s:ByteArray}{steps:List (Nat×Nat)}(h:Part T p q s steps)(ls ds:List Int):aA ls ds (aq s.data.toList 0 steps)=Rf.dB (Rf.bd ls) (Rf.bd ds) T p steps:=by
 have:=h.ok;rw[h.size]at this;exact En ls ds T s.data.toList p (q-p) h.get 0 steps this
theorem Part.toks {T:List UInt8}{p q:Nat}{s:ByteArray}{steps:List (Nat×Nat)}(h:Part T p q s steps):∀t∈aq s.data.toList 0 steps,mM t:=wj _ s.size 0 steps h.ok
theorem Part.sym {T:List UInt8}{p q:Nat}{s:ByteArray}{steps:List (Nat×Nat)}(h:Part T p q s steps)(i:Nat)(hi:Rf.tm T p steps i):i<=285/\0<(eW 286 false (aq s.data.toList 0 steps)).getD i 0:=by
 have ok:=h.ok;rw[h.size]at ok;obtain⟨x,k,hx⟩:=wl T s.data.toList p (q-p) h.get 0 steps ok i hi;have h1:i<=285:=(h.toks _ hx).1;exact⟨h1,xW 286 false _ _ hx rfl (by show i<286;omega)⟩
theorem Part.dist {T:List UInt8}{p q:Nat}{s:ByteArray}{steps:List (Nat×Nat)}(h:Part T p q s steps)(j:Nat)(hj:Rf.qs steps j):j<=29/\0<(eW 30 true (aq s.data.toList 0 steps)).getD j 0:=by
 obtain⟨x,k,hx⟩:=tU s.data.toList 0 steps j hj;have h1:j<=29:=(h.toks _ hx).1;exact⟨h1,xW 30 true _ _ hx rfl (by show j<30;omega)⟩
theorem n8 (ls ds ds':List Int)(h:∀j,j<=29->Rf.bd ds j=Rf.bd ds' j):∀ts:List Tok,(∀t∈ts,mM t)->aA ls ds ts=aA ls ds' ts
 | [],_=>rfl
 | t::r,hk=>by
  have ih:=n8 ls ds ds' h r (fun u hu=>hk u (List.mem_cons_of_mem _ hu));have e:∀d,aA ls d (t::r)=(Rf.bd (if t.1 then d else ls) t.2.1++Rf.nb t.2.2.1 t.2.2.2)++aA ls d r:=fun d=>by simp[aA]
  rw[e,e,ih];have ht:=(hk t (List.mem_cons_self ..)).1;cases hb:t.1 with
  | false=>simp
  | true =>
   rw[hb]at ht;have ht:t.2.1<=29:=ht;simp[h _ ht]
theorem Gv:∀j,j<=29->Rf.bd aZ j=Rf.bd Rf.fV j:=by decide +kernel
theorem ND:∀j,j<288->1<=Rf.bH.getD j 0:=by decide +kernel
theorem Part.fixed {T:List UInt8}{p q:Nat}{s:ByteArray}{steps:List (Nat×Nat)}(h:Part T p q s steps)(at_:Nat):Rf.jI T T.length at_ p q 1 (aA Rf.bH aZ (aq s.data.toList 0 steps)):=by
 rw[n8 Rf.bH aZ Rf.fV Gv _ h.toks,h.bits];refine Rf.xB (Int.le_refl _) h.fit (Rf.zI h.fit) (oJ _ _ _ _ _ (fun i hi=>?_));have h1:=(h.sym i hi).1;have:=ND i (by omega);rw[Rf.cu];omega
theorem Et {ws lens:List Int}{N L:Nat}(h:dK ws N L lens)(m:Nat)(hm:m<=N)(hz:∀j,m<=j->j<N->lens.getD j 0=0):Rf.fs (lens.take m) (lens.take m).length<=32768:=by
 rw[List.length_take,h.len,Nat.min_eq_left hm,xQ lens m m (Nat.le_refl _),<-xR lens m N hm hz];exact h.fs
theorem Part.own {T:List UInt8}{p q:Nat}{s:ByteArray}{steps:List (Nat×Nat)}(h:Part T p q s steps)(at_:Nat){ls ds nl:List Int}(hm:Made (eW 286 false (aq s.data.toList 0 steps)) (eW 30 true (aq s.data.toList 0 steps)) ls ds nl): Rf.jI T T.length at_ p q 2 (Rf.dX (trimF ls 257 286-257) (trimF ds 1 30-1) (trimF (cP nl 19) 4 19) nl (E (cI ls ds 286 30))++aA ls ds (aq s.data.toList 0 steps)):=by
 obtain⟨ws,hw1,hw2,hw3⟩:=hm.s;obtain⟨wn,hn1,hn2,TV⟩:=hm.n;have a0:=bE ls 257 286;have a1:=ik ls 257 286 (by omega);have az:=gL ls 257 286;have b0:=bE ds 1 30;have b1:=ik ds 1 30 (by omega);have bz:=gL ds 1 30;have e1:Rf.bd (ls.take (trimF ls 257 286))=Rf.bd ls:=tT ls _ (by rw[hw3.len];exact a0) (by rw[hw3.len];exact az);have e2:Rf.bd (ds.take (trimF ds 1 30))=Rf.bd ds:=tT ds _ (by rw[hm.d.len];exact b0) (by rw[hm.d.len];exact bz)
 have hsy:∀i,Rf.tm T p steps i->1<=(ls.take (trimF ls 257 286)).getD i 0:=fun i hi=>by
  obtain⟨h1,h2⟩:=h.sym i hi;have h3:=hw3.pos i ((gK ws 286 i).2 ⟨by omega,hw1.keep i h2⟩)
  have h4:i<trimF ls 257 286:=by
   rcases Nat.lt_or_ge i (trimF ls 257 286) with q|q
   ·exact q
   ·have:=az i q (by omega);omega
  rw[getD_take,if_pos h4];omega
 have hdi:∀j,Rf.qs steps j->1<=(ds.take (trimF ds 1 30)).getD j 0:=fun i hi=>by
  obtain⟨h1,h2⟩:=h.dist i hi;have h3:=hm.d.pos i ((gK _ 30 i).2 ⟨by omega,h2⟩)
  have h4:i<trimF ds 1 30:=by
   rcases Nat.lt_or_ge i (trimF ds 1 30) with q|q
   ·exact q
   ·have:=bz i q (by omega);omega
  rw[getD_take,if_pos h4];omega
 have hte:=mU ls ds 286 30 (fun j=>(hw3.ve j).2) (fun j=>(hm.d.ve j).2);have htk:=Rf.kM (cI ls ds 286 30).length (cI ls ds 286 30) [] (Nat.le_refl _) hte;have hti:=kW ls ds 286 30 (fun j=>(hw3.ve j).1) (fun j=>(hm.d.ve j).1)
 have Pq:∀j,(ls.take (trimF ls 257 286)).getD j 0<=15:=fun j=>by
  rw[getD_take];split
  ·exact (hw3.ve j).2
  ·omega
 have v15:∀j,(ds.take (trimF ds 1 30)).getD j 0<=15:=fun j=>by
  rw[getD_take];split
  ·exact (hm.d.ve j).2
  ·omega
 have RF:0<(eW 286 false (aq s.data.toList 0 steps)).getD 256 0:=by
  have:=xW 286 false _ (false,256,0,0) (Er s.data.toList 0 steps) rfl (show 256<286 by omega);exact this
 rw[h.bits,<-e1,<-e2]
 refine Rf.Ci (Int.le_refl _) (by omega) (by omega) (ik _ 4 19 (by omega)) (bE _ 4 19) TV.len TV.ve (fun i h1 h2=>?_) ?_ htk.2 (fun t ht=>?_) ?_ (by rw[List.length_take,hw3.len];omega) (by rw[List.length_take,hm.d.len];omega) (CM hm RF) h.fit
  (Rf.tq Pq (Et hw3 _ a0 az) v15 (Et hm.d _ b0 bz) steps p hsy hdi) (oJ _ _ _ _ _ (fun i hi=>by rw[Rf.cu];have:=hsy i hi;omega))
 ·have:=gL (cP nl 19) 4 19 i h1 h2;rw[CJ nl 19 i h2]at this;exact this
 ·unfold Rf.full;rw[TV.len];exact decide_eq_true (TV.full hn2)
 ·have h18:=tV _ _ htk.2 t ht;have:=TV.pos t.1 ((gK wn 19 t.1).2 ⟨by omega,hn1.keep t.1 (JX _ t ht h18)⟩);omega
 ·rw[<-hti];exact htk.1.trans (List.nil_append _)
end Go.Proofs.YtmfijackgekioaaGreatDoor
