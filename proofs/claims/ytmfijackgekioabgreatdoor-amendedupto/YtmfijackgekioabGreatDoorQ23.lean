import Derived.Test.YtmfijackgekioabGreatDoorQ21
set_option maxHeartbeats 4000000
set_option maxRecDepth 100000
namespace Go.Proofs.YtmfijackgekioabGreatDoor
open Go.RowKit
theorem N9 (n:Nat)(h:n<=65535):bits .xor .i64 (-1) (n:Int)=-(n:Int)-1:=by
 have e:(BitVec.ofInt 64 (n:Int)).toNat=n:=ofInt_u64 n (by omega);have e1:BitVec.ofInt 64 (-1)=BitVec.allOnes 64:=by decide
 show IntKind.i64.wrap ((BitVec.ofInt 64 (-1)^^^BitVec.ofInt 64 (n:Int)).toNat:Int)=_;rw[e1,BitVec.allOnes_xor,BitVec.toNat_not,e,acX];omega
def sJ (last:Bool)(k:Nat):List Int:=Rf.nb (if last then 1 else 0) 1++Rf.nb k 2
theorem lu (last:Bool)(k:Nat):(sJ last k).length=3:=by simp[sJ,Rf.aC]
theorem nh (last:Bool)(k:Nat)(B:Nat)(W:List Int)(w:World)(h:aA w B W)(hW:W.length<=800000000): Calls Tryz.prog 162 #[.pointer (some ⟨B,0,none⟩),.bool last,.int .i64 k] w fun e w'=>e=.returned (.tuple #[])/\aA w' B (W++sJ last k)/\Fr B w w':=by
 cases last
 ·go_enter Tryz.func162,Tryz.ntmps162
  go_wp2_with fail;refine (eL (0:Nat) 1 B W w h (by omega) (by omega)).mono ?_;rintro e w1 ⟨rfl,h1,f1⟩;go_wp2_with fail;refine (eL k 2 B _ w1 h1 (by omega) (by rw[aac,eK];omega)).mono ?_;rintro e w2 ⟨rfl,h2,f2⟩;go_wp2
  go_end0
  refine⟨rfl,?_,f1.trans f2⟩;rw[aaw,fH,fH]at h2;exact h2
 ·go_enter Tryz.func162,Tryz.ntmps162
  go_wp2_with fail;refine (eL (1:Nat) 1 B W w h (by omega) (by omega)).mono ?_;rintro e w1 ⟨rfl,h1,f1⟩;go_wp2_with fail;refine (eL k 2 B _ w1 h1 (by omega) (by rw[aac,eK];omega)).mono ?_;rintro e w2 ⟨rfl,h2,f2⟩;go_wp2
  go_end0
  refine⟨rfl,?_,f1.trans f2⟩;rw[aaw,fH,fH]at h2;exact h2
def Uu (at_:Nat)(s:ByteArray):List Int:=List.replicate ((at_+7)/8*8-at_) 0++(Rf.nb s.size 16++(Rf.nb (65535-s.size) 16++Rf.bb s.data.toList))
theorem Dm (at_:Nat)(s:ByteArray):(Uu at_ s).length=(at_+7)/8*8-at_+32+8*s.size:=by
 simp only[Uu,aac,Rf.aC,Rf.nN,aaE,abm];have:s.data.size=s.size:=rfl;omega
theorem bG.fr {w w':World}{B X:Nat}{v:Value}{t:TypeId}(h:bG w X v t)(f:Fr B w w')(hX:X≠B)(ht:t≠5):bG w' X v t:=(f.kept hX h ht).trans h
theorem Kz (X0 X1 X2 B:Nat)(last:Bool)(s:ByteArray)(W:List Int)(w:World)(h:aA w B W)(b0:bG w X0 (.pointer (some ⟨B,0,none⟩)) 154)(b1:bG w X1 (.bool last) 4)(b2:bG w X2 (.string s) 9)(n0:X0≠B)(n2:X2≠B)(hs:s.size<=65535)(hW:W.length<=800000000): Calls Tryz.prog 161 #[.pointer (some ⟨X0,0,none⟩),.pointer (some ⟨X1,0,none⟩),.pointer (some ⟨X2,0,none⟩)] w fun e w'=>e=.returned (.tuple #[])/\aA w' B (W++(sJ last 0++Uu (W.length+3) s))/\Fr B w w':=by
 have c0:=b0.cell;have c1:=b1.cell;have c2:=b2.cell
 go_enter Tryz.func161,Tryz.ntmps161
 go_wp2_with fail;refine (nh last 0 B W w h hW).mono ?_;rintro e w1 ⟨rfl,h1,f1⟩;have p0:=b0.fr f1 n0 (by decide);have p2:=b2.fr f1 n2 (by decide);clear c0 c1 c2 b0 b2;have c0:=p0.cell;have e1:(W++sJ last 0).length=W.length+3:=by rw[aac,lu]
 go_wp2_with fail;refine (RD B _ w1 h1 (by omega)).mono ?_;rintro e w2 ⟨rfl,h2,f2⟩;have q0:=p0.fr f2 n0 (by decide);have q2:=p2.fr f2 n2 (by decide);clear c0 p0 p2;have c0:=q0.cell;have c2:=q2.cell;rw[e1]at h2;obtain⟨R,hR⟩:∃R,R=List.replicate ((W.length+3+7)/8*8-(W.length+3)) (0:Int):=⟨_,rfl⟩
 have hRl:R.length=(W.length+3+7)/8*8-(W.length+3):=by rw[hR,aaE]
 have e2:(W++sJ last 0++R).length=(W.length+3+7)/8*8:=by rw[aac,e1,hRl];omega
 rw[<-hR]at h2;go_wp2_with fail;refine (eL s.size 16 B _ w2 h2 (by omega) (by omega)).mono ?_;rintro e w3 ⟨rfl,h3,f3⟩;have p0:=q0.fr f3 n0 (by decide);have p2:=q2.fr f3 n2 (by decide);clear c0 c2 q0 q2;have c0:=p0.cell;have c2:=p2.cell;go_wp2_with fail;rw[N9 _ hs];refine (eL (-(s.size:Int)-1) 16 B _ w3 h3 (by omega) (by rw[aac,eK];omega)).mono ?_;rintro e w4 ⟨rfl,h4,f4⟩;have q0:=p0.fr f4 n0 (by decide);have q2:=p2.fr f4 n2 (by decide);clear c0 c2 p0 p2;have c0:=q0.cell;have c2:=q2.cell;go_wp2_with fail;refine (Nw s B _ w4 h4 (by rw[aac,eK,aac,eK];omega) (by rw[aac,eK,aac,eK];omega) (by omega)).mono ?_;rintro e w5 ⟨rfl,h5,f5⟩;go_wp2
 go_end0
 refine⟨rfl,?_,(((f1.trans f2).trans f3).trans f4).trans f5⟩;rw[fH,Nu _ hs]at h5;unfold Uu;rw[<-hR];simpa only[aaw]using h5
def Kq (u w:World):Prop:=∀(k:Nat) (cs:Array Value) (t:TypeId) (fr:Nat×Nat),u.heap[k]?=some (.cells cs t fr)->t≠163->w.heap[k]?=u.heap[k]?
theorem Kq.trans {a b c:World}(h:Kq a b)(k:Kq b c):Kq a c:=fun i cs t fr hi ht=>by
 have e:=h i cs t fr hi ht;exact (k i cs t fr (e.trans hi) ht).trans e
theorem Kq.aF {a b:World}(h:Below a.heap.size a b):Kq a b:=fun i _ _ _ hi _=>h.block i (aaa hi)
theorem bG.kq {w w':World}{X:Nat}{v:Value}{t:TypeId}(h:bG w X v t)(k:Kq w w')(ht:t≠163):bG w' X v t:=(k _ _ _ _ h ht).trans h
theorem aQ.kq {w w':World}{g:Nat}{zs:List Int}(h:aQ w g zs)(k:Kq w w'):aQ w' g zs:=(k _ _ _ _ h (by decide)).trans h
theorem Steps.kq {w w':World}{sv:Value}{steps:List (Nat×Nat)}{B:Nat}(h:Steps w sv steps B)(k:Kq w w'):Steps w' sv steps B :=
 ⟨h.1,fun hn=>by
  obtain⟨SB,cap,h1,h2,h3⟩:=h.2 hn;obtain⟨cs,c1,c2⟩:=h3
  exact⟨SB,cap,h1,h2,cs,(k _ _ _ _ c1 (by decide)).trans c1,c2⟩⟩
theorem jl.kq {w w':World}{G1 G2 G3 N1 N2:Nat}{ls ds nl:List Int}(h:jl w G1 G2 G3 N1 N2 ls ds nl)(k:Kq w w'):jl w' G1 G2 G3 N1 N2 ls ds nl :=
 ⟨h.s.kq k,h.d.kq k,h.n.kq k,h.l1,h.l2,h.l3,h.g1,h.g2,h.r1,h.r2,h.r3,h.full⟩
structure jn (u:World) (B:Nat) (W:List Int) (T:List UInt8) (p q:Nat) (last:Bool) (km E:Nat) (f:Nat) (aO:Array Value):Prop where
 call:∀args w,(callFunc f args).run Tryz.prog w=.ok (.enter f args) w
 does:∀w',Kq u w'->aA w' B W->Calls Tryz.prog f aO w' fun e w''=>e=.returned (.tuple #[])/\∃k Bk,k<=km/\aA w'' B (W++(sJ last k++Bk))/\W.length+3+Bk.length=E/\Rf.jQ T T.length (W.length+3) p q k Bk/\Fr B w' w''
theorem jn.weak {u:World}{B:Nat}{W:List Int}{T:List UInt8}{p q:Nat}{last:Bool}{km E f:Nat}{aO:Array Value}(h:jn u B W T p q last km E f aO){km':Nat}(hk:km<=km'):jn u B W T p q last km' E f aO :=
 ⟨h.call,fun w' hb hw=>(h.does w' hb hw).mono fun e w'' ⟨h1,k,Bk,h2,h3⟩=>⟨h1,k,Bk,by omega,h3⟩⟩
theorem jn.kq {u u':World}{B:Nat}{W:List Int}{T:List UInt8}{p q:Nat}{last:Bool}{km E f:Nat}{aO:Array Value}(h:jn u B W T p q last km E f aO)(k:Kq u u'):jn u' B W T p q last km E f aO :=
 ⟨h.call,fun w' hb hw=>h.does w' (k.trans hb) hw⟩
theorem jn.below {u u':World}{B:Nat}{W:List Int}{T:List UInt8}{p q:Nat}{last:Bool}{km E f:Nat}{aO:Array Value}(h:jn u B W T p q last km E f aO)(k:Below u.heap.size u u'):jn u' B W T p q last km E f aO:=h.kq (Kq.aF k)
theorem Sp (args:Array Value)(w:World):(callFunc 161 args).run Tryz.prog w=.ok (.enter 161 args) w:=by kernel_rfl
theorem AK {u:World}{B:Nat}{W:List Int}{T:List UInt8}{p q:Nat}{last:Bool}{s:ByteArray}{X0 X1 X2:Nat}(hs:s.data.toList=(T.take q).drop p)(hpq:p<=q)(hq:q<=T.length)(h6:q-p<=65535)(hW:W.length<=800000000)(b0:bG u X0 (.pointer (some ⟨B,0,none⟩)) 154)(b1:bG u X1 (.bool last) 4)(b2:bG u X2 (.string s) 9)(n0:X0≠B)(n2:X2≠B): jn u B W T p q last 0 ((W.length+10)/8*8+32+8*(q-p)) 161 #[.pointer (some ⟨X0,0,none⟩),.pointer (some ⟨X1,0,none⟩),.pointer (some ⟨X2,0,none⟩)]:=by
 have hsz:s.size=q-p:=by
  have:=abV List.length hs;rw[acb,aa7,abm]at this;have e:s.data.size=s.size:=rfl;omega
 refine⟨Sp,fun w' hb hw=>(Kz X0 X1 X2 B last s W w' hw (b0.kq hb (by decide)) (b1.kq hb (by decide)) (b2.kq hb (by decide)) n0 n2 (by omega) hW).mono ?_⟩;rintro e w'' ⟨rfl,h1,h2⟩;refine⟨rfl,0,Uu (W.length+3) s,aah _,h1,?_,?_,h2⟩
 ·rw[Dm,hsz];omega
 ·have:=Rf.xV (T:=T) (limit:=T.length) (at_:=W.length+3) (p:=p) (q:=q) (List.replicate ((W.length+3+7)/8*8-(W.length+3)) 0) (by rw[aaE];omega) hpq hq h6 (abU _);unfold Uu;rw[hs,hsz];exact this
theorem ly (B:Nat)(last:Bool)(s:ByteArray)(W:List Int)(w:World)(h:aA w B W)(T:List UInt8)(p q:Nat)(hs:s.data.toList=(T.take q).drop p)(hpq:p<=q)(hq:q<=T.length)(h6:q-p<=65535)(hW:W.length<=800000000): Calls Tryz.prog 147 #[.pointer (some ⟨B,0,none⟩),.string s,.bool last] w fun e w'=>∃aO,e=.returned (.agg #[.int .i64 (((W.length+10)/8*8+32+8*(q-p):Nat):Int),.func (.func 161) #[] aO])/\Below w.heap.size w w'/\jn w' B W T p q last 0 ((W.length+10)/8*8+32+8*(q-p)) 161 aO:=by
 have hsz:s.size=q-p:=by
  have:=abV List.length hs;rw[acb,aa7,abm]at this;have e:s.data.size=s.size:=rfl;omega
 have hlt:=h.lt;have cB:w.cell? ⟨B,1,none⟩=some (.int .i64 W.length):=by obtain⟨pv,Pk,hw⟩:=h;exact hw.cells.2.1
 have HP:Hid (∀u X0 X1 X2,bG u X0 (.pointer (some ⟨B,0,none⟩)) 154->bG u X1 (.bool last) 4->bG u X2 (.string s) 9->X0≠B->X2≠B->jn u B W T p q last 0 ((W.length+10)/8*8+32+8*(q-p)) 161 #[.pointer (some ⟨X0,0,none⟩),.pointer (some ⟨X1,0,none⟩),.pointer (some ⟨X2,0,none⟩)]) :=
  fun u X0 X1 X2 b0 b1 b2 n0 n2=>AK hs hpq hq h6 hW b0 b1 b2 n0 n2
 clear hs h;generalize W.length=PL at *
 go_enter Tryz.func147,Tryz.ntmps147
 go_wp2_with fail;obtain⟨k0,q0,q1,q2,q3⟩:=oG w (.cells #[.pointer (some ⟨B,0,none⟩)] 154) (.cells #[.string s] 9) (.cells #[.bool last] 4) (.cells #[.int .i64 0,.nilFunc] 163);have cB1:=(k0.cell hlt).trans cB;generalize Sq:(((w.alloc (.cells #[.pointer (some ⟨B,0,none⟩)] 154)).alloc (.cells #[.string s] 9)).alloc (.cells #[.bool last] 4)).alloc (.cells #[.int .i64 0,.nilFunc] 163)=wa at *;have kd:Below w.heap.size w wa.drew:=k0.drew;have hS:wa.drew.cell? ⟨w.heap.size,0,none⟩=some (.pointer (some ⟨B,0,none⟩))/\wa.drew.cell? ⟨B,1,none⟩=some (.int .i64 PL)/\wa.drew.cell? ⟨w.heap.size+1,0,none⟩=some (.string s):=⟨(one_cell q0).1,cB1,(one_cell q1).1⟩
 have HQ:Hid (wa.drew.heap[w.heap.size]?=some (.cells #[.pointer (some ⟨B,0,none⟩)] 154 (0,0))/\wa.drew.heap[w.heap.size+1]?=some (.cells #[.string s] 9 (0,0))/\wa.drew.heap[w.heap.size+1+1]?=some (.cells #[.bool last] 4 (0,0))):=⟨q0,q1,q2⟩
 obtain⟨r0,r1,fz,hl3⟩:wa.drew.cell? ⟨w.heap.size+1+1+1,0,none⟩=some (.int .i64 0)/\wa.drew.cell? ⟨w.heap.size+1+1+1,1,none⟩=some .nilFunc/\(∀j,wa.drew.frozen? ⟨w.heap.size+1+1+1,j,none⟩=false)/\w.heap.size+1+1+1<wa.drew.heap.size:=aN q3;clear q0 q1 q2 q3 k0 cB cB1 Sq;refine ax (fun w'=>w'.cell? ⟨w.heap.size,0,none⟩=some (.pointer (some ⟨B,0,none⟩))/\w'.cell? ⟨B,1,none⟩=some (.int .i64 PL)/\w'.cell? ⟨w.heap.size+1,0,none⟩=some (.string s)) 15 ?_;generalize wa.drew=wd at *;refine ap [0,1,2,3,4,5,6,7,8,9,10,11,12,13,14] ?_
 iterate 15 (refine au hS ?_;try simp only[Act.put])
 refine aj ?_;refine ag 15 fun K hK=>?_;go_simp;refine hK _ _ (fun h=>absurd rfl h) ?_;clear hK K;refine am ?_;go_wp2;have e1:IntKind.i64.wrap ((PL:Int)+3)=(PL:Int)+3:=aao _ (by omega);have e2:IntKind.i64.wrap ((PL:Int)+3+7)=(PL:Int)+10:=(aao _ (by omega)).trans (by omega);have e3:IntKind.i64.wrap (((PL:Int)+10).tdiv 8)=((PL:Int)+10)/8:=by rw[Int.tdiv_eq_ediv_of_nonneg (by omega)];exact aao _ (by omega)
 have e4:IntKind.i64.wrap (((PL:Int)+10)/8*8)=((PL:Int)+10)/8*8:=aao _ (by omega);have e5:IntKind.i64.wrap (((PL:Int)+10)/8*8+32)=((PL:Int)+10)/8*8+32:=aao _ (by omega);have e6:IntKind.i64.wrap (8*((q-p:Nat):Int))=8*((q-p:Nat):Int):=aao _ (by omega);have e7:IntKind.i64.wrap (((PL:Int)+10)/8*8+32+8*((q-p:Nat):Int))=(((PL+10)/8*8+32+8*(q-p):Nat):Int):=(aao _ (by omega)).trans (by omega);rw[e1,e2,e3,e4,e5,e6,e7];obtain⟨b0,b1,b2⟩:=HQ.out;generalize (PL+10)/8*8+32+8*(q-p)=E at *;refine aaF (v:=.agg #[.int .i64 (E:Int),.func (.func 161) #[] #[.pointer (some ⟨w.heap.size,0,none⟩),.pointer (some ⟨w.heap.size+1+1,0,none⟩),.pointer (some ⟨w.heap.size+1,0,none⟩)]]) ?_ rfl ⟨_,rfl,?_,HP.out _ _ _ _ ?_ ?_ ?_ (by omega) (by omega)⟩
 ·simp[results,Tryz.results147,go_sem,r0,r1]
 ·exact (kd.setCell (p:=⟨w.heap.size+1+1+1,0,none⟩) (by dsimp only;omega) _).setCell (p:=⟨w.heap.size+1+1+1,1,none⟩) (by dsimp only;omega) _
 ·exact (aak _ ⟨w.heap.size+1+1+1,1,none⟩ _ _ (by dsimp only;omega)).trans ((aak _ ⟨w.heap.size+1+1+1,0,none⟩ _ _ (by dsimp only;omega)).trans b0)
 ·exact (aak _ ⟨w.heap.size+1+1+1,1,none⟩ _ _ (by dsimp only;omega)).trans ((aak _ ⟨w.heap.size+1+1+1,0,none⟩ _ _ (by dsimp only;omega)).trans b2)
 ·exact (aak _ ⟨w.heap.size+1+1+1,1,none⟩ _ _ (by dsimp only;omega)).trans ((aak _ ⟨w.heap.size+1+1+1,0,none⟩ _ _ (by dsimp only;omega)).trans b1)
theorem yv (N:Nat)(b:Bool)(ls:List Int):∀k,k<=N->dot (fg N b []) ls k=0
 | 0,_=>rfl
 | k+1,h=>by
  rw[dot,yv N b ls k (by omega),ji N b [] k (by omega)];simp
theorem t7 (N:Nat)(b:Bool)(t:Tok)(ts:List Tok)(ls:List Int):∀k,k<=N->dot (fg N b (t::ts)) ls k=dot (fg N b ts) ls k+if t.1=b/\t.2.1<k then ls.getD t.2.1 0 else 0
 | 0,_=>by simp[dot]
 | k+1,h=>by
  rw[dot,dot,t7 N b t ts ls k (by omega),ji N b (t::ts) k (by omega),ji N b ts k (by omega),List.countP_cons];generalize (ts.countP fun u=>decide (u.1=b/\u.2.1=k))=c;by_cases hk:t.1=b/\t.2.1=k
  ·rw[aai (show ¬(t.1=b/\t.2.1<k) by omega),aaj (show decide (t.1=b/\t.2.1=k)=true from abj hk),aaj (show t.1=b/\t.2.1<k+1 from ⟨hk.1,by omega⟩),hk.2];generalize ls.getD k 0=x;have:((c+1:Nat):Int)*x=(c:Int)*x+x:=by rw[Int.natCast_add,Int.add_mul];simp
   rw[this];omega
  ·rw[aai (show ¬(decide (t.1=b/\t.2.1=k)=true) by rw[decide_eq_true_iff];exact hk),acz];by_cases hq:t.1=b/\t.2.1<k
   ·rw[aaj hq,aaj (show t.1=b/\t.2.1<k+1 from ⟨hq.1,by omega⟩)];omega
   ·rw[aai hq,aai (show ¬(t.1=b/\t.2.1<k+1) from fun q=>by
     have:t.2.1≠k:=fun e=>hk ⟨q.1,e⟩
     exact hq ⟨q.1,by omega⟩)]
    omega
theorem nj (ls ds:List Int)(hl:∀j,0<=ls.getD j 0)(hd:∀j,0<=ds.getD j 0):∀ts:List Tok,(∀t∈ts,mU t) -> ((ay ls ds ts).length:Int)=(aW ts:Nat)+dot (fg 286 false ts) ls 286+dot (fg 30 true ts) ds 30
 | [],_=>by rw[yv _ _ _ _ (aah _),yv _ _ _ _ (aah _)];simp[ay,aW]
 | t::r,h=>by
  have ih:=nj ls ds hl hd r (fun u hu=>h u (acu _ hu));have ht:=(h t (abJ ..)).1;have e1:ay ls ds (t::r)=(Rf.bg (if t.1 then ds else ls) t.2.1++Rf.nb t.2.2.1 t.2.2.2)++ay ls ds r:=by simp[ay]
  have e2:aW (t::r)=t.2.2.2+aW r:=by simp[aW]
  rw[e1,e2,t7 _ _ _ _ _ _ (aah _),t7 _ _ _ _ _ _ (aah _),aac,aac,Rf.cM,Rf.aC];have h1:=hl t.2.1;have h2:=hd t.2.1;cases hb:t.1 with
  | false =>
   rw[hb]at ht;have ht:t.2.1<=285:=ht;rw[aai (show ¬(false=true) by decide),aaj (show false=false/\t.2.1<286 from ⟨rfl,by omega⟩),aai (show ¬(false=true/\t.2.1<30) from fun q=>Bool.noConfusion q.1)];omega
  | true =>
   rw[hb]at ht;have ht:t.2.1<=29:=ht;rw[aaj (show true=true from rfl),aai (show ¬(true=false/\t.2.1<286) from fun q=>Bool.noConfusion q.1),aaj (show true=true/\t.2.1<30 from ⟨rfl,by omega⟩)];omega
theorem wQ (U:List UInt8)(n:Nat):∀(p:Nat) (steps:List (Nat×Nat)),dG n p steps->∀t∈ar U p steps,mU t
 | p,[],_,t,ht=>by
  have e:t=(false,256,0,0):=by simpa[ar]using ht
  subst e;exact⟨by show 256<=285;omega,by show 0<2^0;omega,by show 0<=13;omega⟩
 | p,s::r,h,t,ht=>by
  rw[ar,abA]at ht;rcases ht with ht|ht
  ·unfold dF at ht;by_cases h0:s.2=0
   ·rw[aaj h0]at ht;have e:t=(false,(U.getD p 0).toNat,0,0):=by simpa using ht
    subst e;have:=(U.getD p 0).toNat_lt;exact⟨by show (U.getD p 0).toNat<=285;omega,by show 0<2^0;omega,by show 0<=13;omega⟩
   ·rw[aai h0]at ht;rcases h.1 with⟨q,_⟩|⟨a,b,c,d,_⟩
    ·exact absurd q h0
    ·have l1:=Rf.tv s.1 a b;have d1:=Rf.tB s.2 c d;have e:t=(false,257+Rf.gi s.1,s.1-Rf.dK (Rf.gi s.1),Rf.lb (Rf.gi s.1))\/t=(true,Rf.ip s.2,s.2-Rf.dy (Rf.ip s.2),Rf.db (Rf.ip s.2)):=by simpa using ht
     rcases e with e|e
     ·subst e;exact⟨by show 257+Rf.gi s.1<=285;omega,l1.2.2,by have:=CX _ l1.1;show Rf.lb (Rf.gi s.1)<=13;omega⟩
     ·subst e;exact⟨d1.1,d1.2.2,CY _ d1.1⟩
  ·exact wQ U n (p+s.1) r h.2 t ht
theorem t9 (ls:List Int)(m n b:Nat):∀i,i<=m->Rf.pC (ls.take m) n b i=Rf.pC ls n b i
 | 0,_=>rfl
 | i+1,h=>by rw[Rf.pC,Rf.pC,t9 ls m n b i (by omega),getD_take,aaj (show i<m by omega)]
theorem AL (ls:List Int)(n b m:Nat):∀k,m<=k->(∀j,m<=j->j<k->ls.getD j 0=0)->Rf.pC ls (n+1) b k=Rf.pC ls (n+1) b m
 | 0,h,_=>by rw[show m=0 by omega]
 | k+1,h,hz=>by
  by_cases e:m=k+1
  ·rw[e]
  ·rw[Rf.pC,AL ls n b m k (by omega) (fun j h1 h2=>hz j h1 (by omega)),hz k (by omega) (by omega),aai (by omega)];rfl
theorem AO (ls:List Int)(m:Nat)(hm:m<=ls.length)(hz:∀j,m<=j->j<ls.length->ls.getD j 0=0):∀n,Rf.jZ (ls.take m) n=Rf.jZ ls n
 | 0=>rfl
 | n+1=>by
  rw[Rf.jZ,Rf.jZ,AO ls m hm hz n,aa7,Nat.min_eq_left hm,t9 ls m _ _ m (aah _),AL ls n _ m ls.length hm hz]
theorem ua (ls:List Int)(m:Nat)(hm:m<=ls.length)(hz:∀j,m<=j->j<ls.length->ls.getD j 0=0):Rf.bg (ls.take m)=Rf.bg ls:=by
 funext j
 unfold Rf.bg;by_cases h:j<m
 ·rw[getD_take,aaj h];unfold Rf.nx;rw[t9 ls m _ _ j (by omega),AO ls m hm hz]
 ·have e:ls.getD j 0=0:=by
   rcases aba j ls.length with q|q
   ·exact hz j (by omega) q
   ·rw[aab,aaC q];rfl
  rw[getD_take,aai h,e];rfl
theorem oV (sb fb:Nat->List Int)(T:List UInt8):∀(S:List (Nat×Nat)) (p:Nat),(∀i,Rf.tD T p S i->1<=(sb i).length)->S.length<=(Rf.dN sb fb T p S).length
 | [],_,_=>aaq _
 | s::r,p,h=>by
  have ih:=oV sb fb T r (p+s.1) (fun i hi=>h i (.inr hi))
  have h1:1<=(Rf.j9 sb fb T p s).length:=by
   unfold Rf.j9;by_cases h0:s.2=0
   ·rw[aaj h0];exact h _ (.inl (by rw[aaj h0]))
   ·rw[aai h0,aac];have:=h (257+Rf.gi s.1) (.inl (by rw[aai h0]));omega
  rw[Rf.dN,aac,aaA];omega
theorem wR (T U:List UInt8)(o n:Nat)(hU:∀j,j<n->U.getD j 0=T.getD (o+j) 0):∀(p:Nat) (S:List (Nat×Nat)),dG n p S->∀i,Rf.tD T (o+p) S i->∃x k,(false,i,x,k)∈ar U p S
 | p,[],_,i,h=>⟨0,0,by rw[show i=256 from h];simp[ar]⟩
 | p,s::r,hok,i,h=>by
  rw[ar];rcases h with h|h
  ·unfold dF;by_cases h0:s.2=0
   ·rw[aaj h0]at h ⊢
    have hp:p<n:=by
     rcases hok.1 with⟨_,_,q⟩|⟨_,_,q,_⟩
     ·exact q
     ·omega
    exact⟨0,0,by rw[h,<-hU p hp];simp⟩
   ·rw[aai h0]at h ⊢;exact⟨s.1-Rf.dK (Rf.gi s.1),Rf.lb (Rf.gi s.1),by rw[h];simp⟩
  ·rw[acy]at h;obtain⟨x,k,hx⟩:=wR T U o n hU (p+s.1) r hok.2 i h;exact⟨x,k,List.mem_append_right _ hx⟩
theorem ub (U:List UInt8):∀(p:Nat) (S:List (Nat×Nat)) (j:Nat),Rf.qy S j->∃x k,(true,j,x,k)∈ar U p S
 | p,s::r,j,h=>by
  rw[ar];rcases h with⟨h0,h⟩|h
  ·unfold dF;rw[aai h0];exact⟨s.2-Rf.dy (Rf.ip s.2),Rf.db (Rf.ip s.2),by rw[h];simp⟩
  ·obtain⟨x,k,hx⟩:=ub U (p+s.1) r j h;exact⟨x,k,List.mem_append_right _ hx⟩
theorem EV (U:List UInt8):∀(p:Nat) (S:List (Nat×Nat)),(false,256,0,0)∈ar U p S
 | _,[]=>by simp[ar]
 | p,s::r=>by rw[ar];exact List.mem_append_right _ (EV U (p+s.1) r)
theorem yx (N:Nat)(b:Bool)(ts:List Tok)(t:Tok)(h:t∈ts)(hb:t.1=b)(hN:t.2.1<N):0<(fg N b ts).getD t.2.1 0:=by
 rw[ji N b ts t.2.1 hN];have:0<ts.countP (fun u=>decide (u.1=b/\u.2.1=t.2.1)):=List.countP_pos_iff.2 ⟨t,h,by simp[hb]⟩;omega
theorem uc:∀(out:List Int) (ts:List (Nat×Nat)),Rf.iH out ts->∀t∈ts,t.1<=18
 | _,[],_,t,h=>by simp at h
 | out,u::r,hk,t,h=>by
  rcases ab9.1 h with e|h
  ·rw[e];exact hk.1
  ·exact uc _ r hk.2.2.2 t h
theorem KA (l:List Int)(j:Nat)(h:∀i,l.getD i 0=if i=j then 1 else 0):∀k,Rf.fs l k=if j<k then 16384 else 0
 | 0=>by simp[Rf.fs]
 | k+1=>by
  rw[Rf.fs,KA l j h k,h k];by_cases e:k=j
  ·subst e;simp
  ·rw[aai e];by_cases e2:j<k
   ·have e3:j<k+1:=by omega
    simp[e2,e3]
   ·have e3:¬j<k+1:=by omega
    simp only[aai e2,aai e3];simp
theorem EW (l:List Int)(h:∀i,l.getD i 0=0):∀k,Rf.fs l k=0
 | 0=>rfl
 | k+1=>by rw[Rf.fs,EW l h k,h k];simp
theorem dU.fs {ws lens:List Int}{N L:Nat}(h:dU ws N L lens):Rf.fs lens N<=32768:=by
 rcases aba (heavy ws N).length 2 with hlt|hge
 ·rcases aba (heavy ws N).length 1 with h0|h1
  ·have e0:heavy ws N=[]:=aaG (by omega);rw[EW lens (fun i=>h.non i (by rw[e0];simp))];omega
  ·obtain⟨j,ej⟩:=List.length_eq_one_iff.1 (show (heavy ws N).length=1 by omega);have hj:lens.getD j 0=1:=h.one (by omega) j (by rw[ej];simp)
   rw[KA lens j (fun i=>by
    by_cases e:i=j
    ·rw[aaj e,e,hj]
    ·rw[aai e]
     exact h.non i (by rw[ej];simpa using e))]
   split<;>omega
 ·rw[h.full hge];exact aah _
structure Part (T:List UInt8) (p q:Nat) (s:ByteArray) (steps:List (Nat×Nat)):Prop where
 txt:s.data.toList=(T.take q).drop p
 le:p<=q
 qt:q<=T.length
 small:q-p<=65535
 fit:Rf.Fits T p steps q
theorem Part.size {T:List UInt8}{p q:Nat}{s:ByteArray}{steps:List (Nat×Nat)}(h:Part T p q s steps):s.size=q-p:=by
 have:=abV List.length h.txt;rw[acb,aa7,abm]at this;have e:s.data.size=s.size:=rfl;have:=h.le;have:=h.qt;omega
theorem Part.get {T:List UInt8}{p q:Nat}{s:ByteArray}{steps:List (Nat×Nat)}(h:Part T p q s steps):∀j,j<q-p->s.data.toList.getD j 0=T.getD (p+j) 0:=fun j hj=>by
 rw[h.txt,aab,aab,List.getElem?_drop,abZ,aaj (by omega)]
theorem Part.ok {T:List UInt8}{p q:Nat}{s:ByteArray}{steps:List (Nat×Nat)}(h:Part T p q s steps):dG s.size 0 steps:=by
 rw[h.size];refine tY T p (q-p) (p:=0) ?_;have:=h.le;rw[acz,show p+(q-p)=q by omega];exact h.fit
theorem Part.bits {T:List UInt8}{p q:Nat}{s:ByteArray}{steps:List (Nat×Nat)}(h:Part T p q s steps)(ls ds:List Int):ay ls ds (ar s.data.toList 0 steps)=Rf.dN (Rf.bg ls) (Rf.bg ds) T p steps:=by
 have:=h.ok;rw[h.size]at this;exact ES ls ds T s.data.toList p (q-p) h.get 0 steps this
theorem Part.toks {T:List UInt8}{p q:Nat}{s:ByteArray}{steps:List (Nat×Nat)}(h:Part T p q s steps):∀t∈ar s.data.toList 0 steps,mU t:=wQ _ s.size 0 steps h.ok
theorem Part.sym {T:List UInt8}{p q:Nat}{s:ByteArray}{steps:List (Nat×Nat)}(h:Part T p q s steps)(i:Nat)(hi:Rf.tD T p steps i):i<=285/\0<(fg 286 false (ar s.data.toList 0 steps)).getD i 0:=by
 have ok:=h.ok;rw[h.size]at ok;obtain⟨x,k,hx⟩:=wR T s.data.toList p (q-p) h.get 0 steps ok i hi;have h1:i<=285:=(h.toks _ hx).1;exact⟨h1,yx 286 false _ _ hx rfl (by show i<286;omega)⟩
theorem Part.dist {T:List UInt8}{p q:Nat}{s:ByteArray}{steps:List (Nat×Nat)}(h:Part T p q s steps)(j:Nat)(hj:Rf.qy steps j):j<=29/\0<(fg 30 true (ar s.data.toList 0 steps)).getD j 0:=by
 obtain⟨x,k,hx⟩:=ub s.data.toList 0 steps j hj;have h1:j<=29:=(h.toks _ hx).1;exact⟨h1,yx 30 true _ _ hx rfl (by show j<30;omega)⟩
theorem ou (ls ds ds':List Int)(h:∀j,j<=29->Rf.bg ds j=Rf.bg ds' j):∀ts:List Tok,(∀t∈ts,mU t)->ay ls ds ts=ay ls ds' ts
 | [],_=>rfl
 | t::r,hk=>by
  have ih:=ou ls ds ds' h r (fun u hu=>hk u (acu _ hu));have e:∀d,ay ls d (t::r)=(Rf.bg (if t.1 then d else ls) t.2.1++Rf.nb t.2.2.1 t.2.2.2)++ay ls d r:=fun d=>by simp[ay]
  rw[e,e,ih];have ht:=(hk t (abJ ..)).1;cases hb:t.1 with
  | false=>simp
  | true =>
   rw[hb]at ht;have ht:t.2.1<=29:=ht;simp[h _ ht]
theorem G0:∀j,j<=29->Rf.bg bd j=Rf.bg Rf.gd j:=by decide +kernel
theorem Oa:∀j,j<288->1<=Rf.bQ.getD j 0:=by decide +kernel
theorem Part.fixed {T:List UInt8}{p q:Nat}{s:ByteArray}{steps:List (Nat×Nat)}(h:Part T p q s steps)(at_:Nat):Rf.jQ T T.length at_ p q 1 (ay Rf.bQ bd (ar s.data.toList 0 steps)):=by
 rw[ou Rf.bQ bd Rf.gd G0 _ h.toks,h.bits];refine Rf.xW (abU _) h.fit (Rf.Ah h.fit) (oV _ _ _ _ _ (fun i hi=>?_));have h1:=(h.sym i hi).1;have:=Oa i (by omega);rw[Rf.cM];omega
theorem EX {ws lens:List Int}{N L:Nat}(h:dU ws N L lens)(m:Nat)(hm:m<=N)(hz:∀j,m<=j->j<N->lens.getD j 0=0):Rf.fs (lens.take m) (lens.take m).length<=32768:=by
 rw[aa7,h.len,Nat.min_eq_left hm,yp lens m m (aah _),<-yq lens m N hm hz];exact h.fs
theorem Part.own {T:List UInt8}{p q:Nat}{s:ByteArray}{steps:List (Nat×Nat)}(h:Part T p q s steps)(at_:Nat){ls ds nl:List Int}(hm:Made (fg 286 false (ar s.data.toList 0 steps)) (fg 30 true (ar s.data.toList 0 steps)) ls ds nl): Rf.jQ T T.length at_ p q 2 (Rf.ee (trimF ls 257 286-257) (trimF ds 1 30-1) (trimF (dj nl 19) 4 19) nl (E (cV ls ds 286 30))++ay ls ds (ar s.data.toList 0 steps)):=by
 obtain⟨ws,hw1,hw2,hw3⟩:=hm.s;obtain⟨wn,hn1,hn2,Uv⟩:=hm.n;have a0:=bK ls 257 286;have a1:=iA ls 257 286 (by omega);have az:=gT ls 257 286;have b0:=bK ds 1 30;have b1:=iA ds 1 30 (by omega);have bz:=gT ds 1 30;have e1:Rf.bg (ls.take (trimF ls 257 286))=Rf.bg ls:=ua ls _ (by rw[hw3.len];exact a0) (by rw[hw3.len];exact az);have e2:Rf.bg (ds.take (trimF ds 1 30))=Rf.bg ds:=ua ds _ (by rw[hm.d.len];exact b0) (by rw[hm.d.len];exact bz)
 have hsy:∀i,Rf.tD T p steps i->1<=(ls.take (trimF ls 257 286)).getD i 0:=fun i hi=>by
  obtain⟨h1,h2⟩:=h.sym i hi;have h3:=hw3.pos i ((gS ws 286 i).2 ⟨by omega,hw1.keep i h2⟩)
  have h4:i<trimF ls 257 286:=by
   rcases aba i (trimF ls 257 286) with q|q
   ·exact q
   ·have:=az i q (by omega);omega
  rw[getD_take,aaj h4];omega
 have hdi:∀j,Rf.qy steps j->1<=(ds.take (trimF ds 1 30)).getD j 0:=fun i hi=>by
  obtain⟨h1,h2⟩:=h.dist i hi;have h3:=hm.d.pos i ((gS _ 30 i).2 ⟨by omega,h2⟩)
  have h4:i<trimF ds 1 30:=by
   rcases aba i (trimF ds 1 30) with q|q
   ·exact q
   ·have:=bz i q (by omega);omega
  rw[getD_take,aaj h4];omega
 have hte:=ng ls ds 286 30 (fun j=>(hw3.vC j).2) (fun j=>(hm.d.vC j).2);have htk:=Rf.kZ (cV ls ds 286 30).length (cV ls ds 286 30) [] (aah _) hte;have hti:=lr ls ds 286 30 (fun j=>(hw3.vC j).1) (fun j=>(hm.d.vC j).1)
 have PV:∀j,(ls.take (trimF ls 257 286)).getD j 0<=15:=fun j=>by
  rw[getD_take];split
  ·exact (hw3.vC j).2
  ·omega
 have v15:∀j,(ds.take (trimF ds 1 30)).getD j 0<=15:=fun j=>by
  rw[getD_take];split
  ·exact (hm.d.vC j).2
  ·omega
 have Sh:0<(fg 286 false (ar s.data.toList 0 steps)).getD 256 0:=by
  have:=yx 286 false _ (false,256,0,0) (EV s.data.toList 0 steps) rfl (show 256<286 by omega);exact this
 rw[h.bits,<-e1,<-e2]
 refine Rf.CQ (abU _) (by omega) (by omega) (iA _ 4 19 (by omega)) (bK _ 4 19) Uv.len Uv.vC (fun i h1 h2=>?_) ?_ htk.2 (fun t ht=>?_) ?_ (by rw[aa7,hw3.len];omega) (by rw[aa7,hm.d.len];omega) (Dl hm Sh) h.fit
  (Rf.tE PV (EX hw3 _ a0 az) v15 (EX hm.d _ b0 bz) steps p hsy hdi) (oV _ _ _ _ _ (fun i hi=>by rw[Rf.cM];have:=hsy i hi;omega))
 ·have:=gT (dj nl 19) 4 19 i h1 h2;rw[Dh nl 19 i h2]at this;exact this
 ·unfold Rf.full;rw[Uv.len];exact abj (Uv.full hn2)
 ·have h18:=uc _ _ htk.2 t ht;have:=Uv.pos t.1 ((gS wn 19 t.1).2 ⟨by omega,hn1.keep t.1 (Kv _ t ht h18)⟩);omega
 ·rw[<-hti];exact htk.1.trans (abb _)
theorem aQ.fr {w w':World}{B g:Nat}{zs W:List Int}(h:aQ w g zs)(f:Fr B w w')(hw:aA w B W):aQ w' g zs:=by
 have hne:g≠B:=fun e=>by
  subst e;obtain⟨cs,hcs⟩:=hw.box (by rw[show w.heap[g]?=_ from h];simp);rw[show w.heap[g]?=_ from h]at hcs;simp at hcs
 exact (f.kept hne h (by decide)).trans h
theorem bG.ne {w:World}{B X:Nat}{v:Value}{t:TypeId}{W:List Int}(h:bG w X v t)(hw:aA w B W)(ht:t≠156):X≠B:=fun e=>by
 subst e;obtain⟨cs,hcs⟩:=hw.box (by rw[show w.heap[X]?=_ from h];simp);rw[show w.heap[X]?=_ from h]at hcs;simp at hcs;exact ht hcs.2
theorem sK:Rf.bQ.length=288/\(∀j,0<=Rf.bQ.getD j 0/\Rf.bQ.getD j 0<=15)/\Rf.fs Rf.bQ Rf.bQ.length<=32768:=by
 have a:∀j,j<288->0<=Rf.bQ.getD j 0/\Rf.bQ.getD j 0<=15:=by decide +kernel
 have l:Rf.bQ.length=288:=by decide +kernel
 refine⟨l,fun j=>?_,by decide +kernel⟩;rcases aba j 288 with h|h
 ·exact a j h
 ·rw[aab,aaC (by omega)];decide
theorem sL:bd.length=30/\(∀j,0<=bd.getD j 0/\bd.getD j 0<=15)/\Rf.fs bd bd.length<=32768:=by
 have a:∀j,j<30->0<=bd.getD j 0/\bd.getD j 0<=15:=by decide +kernel
 have l:bd.length=30:=by decide +kernel
 refine⟨l,fun j=>?_,by decide +kernel⟩;rcases aba j 30 with h|h
 ·exact a j h
 ·rw[aab,aaC (by omega)];decide
theorem Ob (X0 X1 X2 X3 X4 X5 S1 S2 B:Nat)(last:Bool)(s:ByteArray)(ao:Option Addr)(cap:Nat)(steps:List (Nat×Nat))(ls ds:List Int)(W:List Int)(w:World)(h:aA w B W)(b0:bG w X0 (.pointer (some ⟨B,0,none⟩)) 154)(b1:bG w X1 (.bool last) 4)(b2:bG w X2 (.string s) 9)(b3:bG w X3 (.slice ao steps.length cap) 161)(b4:bG w X4 (.slice (some ⟨S1,0,none⟩) 288 288) 22)(b5:bG w X5 (.slice (some ⟨S2,0,none⟩) 30 30) 22)(l1:aQ w S1 ls)(l2:aQ w S2 ds)(hst:Steps w (.slice ao steps.length cap) steps B)(hl:ls.length=288/\(∀j,0<=ls.getD j 0/\ls.getD j 0<=15)/\Rf.fs ls ls.length<=32768)(hd:ds.length=30/\(∀j,0<=ds.getD j 0/\ds.getD j 0<=15)/\Rf.fs ds ds.length<=32768)(hs:s.size<=65535)(hok:dG s.size 0 steps)(hW:W.length<=80000000): Calls Tryz.prog 170 #[.pointer (some ⟨X0,0,none⟩),.pointer (some ⟨X1,0,none⟩),.pointer (some ⟨X2,0,none⟩),.pointer (some ⟨X3,0,none⟩),.pointer (some ⟨X4,0,none⟩),.pointer (some ⟨X5,0,none⟩)] w fun e w'=>e=.returned (.tuple #[])/\aA w' B (W++(sJ last 1++ay ls ds (ar s.data.toList 0 steps)))/\Fr B w w':=by
 have c0:=b0.cell;have c1:=b1.cell
 go_enter Tryz.func170,Tryz.ntmps170
 go_wp2_with fail;refine (nh last 1 B W w h (by omega)).mono ?_;rintro e w1 ⟨rfl,h1,f1⟩;have p0:=b0.fr f1 (b0.ne h (by decide)) (by decide);have p2:=b2.fr f1 (b2.ne h (by decide)) (by decide);have p3:=b3.fr f1 (b3.ne h (by decide)) (by decide);have p4:=b4.fr f1 (b4.ne h (by decide)) (by decide);have p5:=b5.fr f1 (b5.ne h (by decide)) (by decide);have q1:=l1.fr f1 h;have q2:=l2.fr f1 h;have st1:=hst.fr f1;have e1:(W++sJ last 1).length=W.length+3:=by rw[aac,lu]
 have hW1:Hid ((W++sJ last 1).length<=100000000):=by show _<=_;omega
 have kd:Below w1.heap.size w1 w1.drew:=(aav _ _).drew;have r0:=p0.below kd;have r2:=p2.below kd;have r3:=p3.below kd;have r4:=p4.below kd;have r5:=p5.below kd;have t1:=q1.keep kd;have t2:=q2.keep kd;have st2:=st1.below kd;have hw2:=h1.below kd;have F2:Fr B w w1.drew:=f1.drew;clear c0 c1 b0 b1 b2 b3 b4 b5 p0 p2 p3 p4 p5 q1 q2 l1 l2 hst st1 h1 f1 kd e1;have hS:w1.drew.cell? ⟨X2,0,none⟩=some (.string s)/\w1.drew.cell? ⟨X3,0,none⟩=some (.slice ao steps.length cap)/\w1.drew.cell? ⟨X0,0,none⟩=some (.pointer (some ⟨B,0,none⟩))/\w1.drew.cell? ⟨X4,0,none⟩=some (.slice (some ⟨S1,0,none⟩) 288 288)/\w1.drew.cell? ⟨X5,0,none⟩=some (.slice (some ⟨S2,0,none⟩) 30 30):=⟨r2.cell,r3.cell,r0.cell,r4.cell,r5.cell⟩
 have fw:∀u,Below w1.drew.heap.size w1.drew u->u.cell? ⟨X2,0,none⟩=some (.string s)/\u.cell? ⟨X3,0,none⟩=some (.slice ao steps.length cap)/\u.cell? ⟨X0,0,none⟩=some (.pointer (some ⟨B,0,none⟩))/\u.cell? ⟨X4,0,none⟩=some (.slice (some ⟨S1,0,none⟩) 288 288)/\u.cell? ⟨X5,0,none⟩=some (.slice (some ⟨S2,0,none⟩) 30 30):=fun u k=>⟨(r2.below k).cell,(r3.below k).cell,(r0.below k).cell,(r4.below k).cell,(r5.below k).cell⟩
 have KC:∀u u',Below w1.drew.heap.size w1.drew u->Fr B u u'->u'.cell? ⟨X2,0,none⟩=some (.string s)/\u'.cell? ⟨X3,0,none⟩=some (.slice ao steps.length cap)/\u'.cell? ⟨X0,0,none⟩=some (.pointer (some ⟨B,0,none⟩))/\u'.cell? ⟨X4,0,none⟩=some (.slice (some ⟨S1,0,none⟩) 288 288)/\u'.cell? ⟨X5,0,none⟩=some (.slice (some ⟨S2,0,none⟩) 30 30):=fun u u' k f =>
  ⟨((r2.below k).fr f (r2.ne hw2 (by decide)) (by decide)).cell,((r3.below k).fr f (r3.ne hw2 (by decide)) (by decide)).cell,((r0.below k).fr f (r0.ne hw2 (by decide)) (by decide)).cell,((r4.below k).fr f (r4.ne hw2 (by decide)) (by decide)).cell,((r5.below k).fr f (r5.ne hw2 (by decide)) (by decide)).cell⟩
 clear r0 r2 r3 r4 r5;go_wp2_with fail;refine ax (fun u=>u.cell? ⟨X2,0,none⟩=some (.string s)/\u.cell? ⟨X3,0,none⟩=some (.slice ao steps.length cap)/\u.cell? ⟨X0,0,none⟩=some (.pointer (some ⟨B,0,none⟩))/\u.cell? ⟨X4,0,none⟩=some (.slice (some ⟨S1,0,none⟩) 288 288)/\u.cell? ⟨X5,0,none⟩=some (.slice (some ⟨S2,0,none⟩) 30 30)) 999 ?_;generalize w1.drew=wd at *;refine ap [0,1,2,3,4] ?_
 iterate 5 (refine au hS ?_;try simp only[Act.put])
 refine aj ?_;refine ag 5 fun K hK=>?_;go_simp;refine (Ax B ls ds (some ⟨S1,0,none⟩) (some ⟨S2,0,none⟩) 288 30 288 30 wd hl.1 hd.1 (by omega) (by omega) t1.ints t2.ints (fun a e _=>by cases e;exact aaa t1) (fun a e _=>by cases e;exact aaa t2) hl.2.1 hd.2.1 hl.2.2 hd.2.2 hw2.lt).mono ?_;rintro e w3 ⟨vy,vA,rfl,Uo,RJ,hb3⟩;refine hK _ _ (fun _=>fw _ hb3) ?_;clear hK K;refine ag 6 fun K hK=>?_;go_simp;refine (mj B (W++sJ last 1) ls ds vy vA ao cap s steps w3 hW1.out (by omega) (by omega) (hw2.below hb3) (Uo.weak (aaq _)) (RJ.weak (aaq _)) (st2.below hb3) hs hok).mono ?_;rintro e w4 ⟨rfl,h4,f4⟩;refine hK _ _ (fun _=>KC _ _ hb3 f4) ?_;clear hK K;refine am ?_;go_wp2
 go_end0
 refine⟨rfl,?_,(F2.trans (jm hw2.lt hb3)).trans f4⟩;rw[aaw]at h4;exact h4
theorem oW (ls ds:List Int)(hl:∀j,0<=ls.getD j 0/\ls.getD j 0<=15)(hd:∀j,0<=ds.getD j 0/\ds.getD j 0<=15):∀ts:List Tok,(∀t∈ts,mU t)->(ay ls ds ts).length<=28*ts.length
 | [],_=>aah _
 | t::r,h=>by
  have ih:=oW ls ds hl hd r (fun u hu=>h u (acu _ hu));have ht:=(h t (abJ ..)).2.2;have e1:ay ls ds (t::r)=(Rf.bg (if t.1 then ds else ls) t.2.1++Rf.nb t.2.2.1 t.2.2.2)++ay ls ds r:=by simp[ay]
  rw[e1,aac,aac,Rf.cM,Rf.aC,aaA]
  have b:(((if t.1 then ds else ls):List Int).getD t.2.1 0).toNat<=15:=by
   split
   ·have:=(hd t.2.1).2;omega
   ·have:=(hl t.2.1).2;omega
  omega
theorem ud:∀ts:List Tok,(∀t∈ts,mU t)->aW ts<=13*ts.length
 | [],_=>aah _
 | t::r,h=>by
  have ih:=ud r (fun u hu=>h u (acu _ hu));have ht:=(h t (abJ ..)).2.2;have e2:aW (t::r)=t.2.2.2+aW r:=by simp[aW]
  rw[e2,aaA];omega
theorem Part.len {T:List UInt8}{p q:Nat}{s:ByteArray}{steps:List (Nat×Nat)}(h:Part T p q s steps):(ar s.data.toList 0 steps).length<=131071:=by
 have a:=jT s.data.toList steps 0;have b:=h.ok.length;have c:=h.size;have d:=h.small;omega
theorem ue (ls ds:List Int)(N1 G1 G2 Sy Di:Nat)(ts:List Tok)(v:World)(hts:∀t∈ts,mU t)(hl:ts.length<=131071)(a1:aQ v Sy (fg 286 false ts))(a2:aQ v Di (fg 30 true ts))(a3:aQ v G1 ls)(a4:aQ v G2 ds)(l1:ls.length=N1)(hN:286<=N1)(l2:ds.length=30)(r1:∀j,0<=ls.getD j 0/\ls.getD j 0<=15)(r2:∀j,0<=ds.getD j 0/\ds.getD j 0<=15): Calls Tryz.prog 169 #[oQ Sy Di (aW ts),.slice (some ⟨G1,0,none⟩) N1 N1,.slice (some ⟨G2,0,none⟩) 30 30] v fun e w'=>e=.returned (.int .i64 (((ay ls ds ts).length:Nat):Int))/\Below v.heap.size v w':=by
 have hx:=ud ts hts;rw[nj ls ds (fun j=>(r1 j).1) (fun j=>(r2 j).1) ts hts];refine RP (fg 286 false ts) (fg 30 true ts) ls ds Sy Di (aW ts) N1 30 N1 30 v _ _ a1 a2 a3.ints a4.ints (fun a e _=>by cases e;exact aaa a3) (fun a e _=>by cases e;exact aaa a4) (eQ _ _ _) (eQ _ _ _) l1 l2 hN (aah _) (by omega) 131071 (by omega) (fun j=>?_) (fun j=>?_) r1 r2
 ·have:=gO 286 false ts j;omega
 ·have:=gO 30 true ts j;omega
theorem Sr (args:Array Value)(w:World):(callFunc 170 args).run Tryz.prog w=.ok (.enter 170 args) w:=by kernel_rfl
theorem Dn {u:World}{B:Nat}{W:List Int}{T:List UInt8}{p q:Nat}{last:Bool}{s:ByteArray}{steps:List (Nat×Nat)}{ao:Option Addr}{cap X0 X1 X2 X3 X4 X5 S1 S2:Nat}(hp:Part T p q s steps)(hW:W.length<=80000000)(b0:bG u X0 (.pointer (some ⟨B,0,none⟩)) 154)(b1:bG u X1 (.bool last) 4)(b2:bG u X2 (.string s) 9)(b3:bG u X3 (.slice ao steps.length cap) 161)(b4:bG u X4 (.slice (some ⟨S1,0,none⟩) 288 288) 22)(b5:bG u X5 (.slice (some ⟨S2,0,none⟩) 30 30) 22)(l1:aQ u S1 Rf.bQ)(l2:aQ u S2 bd)(hst:Steps u (.slice ao steps.length cap) steps B): jn u B W T p q last 1 (W.length+3+(ay Rf.bQ bd (ar s.data.toList 0 steps)).length) 170 #[.pointer (some ⟨X0,0,none⟩),.pointer (some ⟨X1,0,none⟩),.pointer (some ⟨X2,0,none⟩),.pointer (some ⟨X3,0,none⟩),.pointer (some ⟨X4,0,none⟩),.pointer (some ⟨X5,0,none⟩)]:=by
 have hz:=hp.size;have hm:=hp.small;refine⟨Sr,fun w' hb hw=>(Ob X0 X1 X2 X3 X4 X5 S1 S2 B last s ao cap steps Rf.bQ bd W w' hw (b0.kq hb (by decide)) (b1.kq hb (by decide)) (b2.kq hb (by decide)) (b3.kq hb (by decide)) (b4.kq hb (by decide)) (b5.kq hb (by decide)) (l1.kq hb) (l2.kq hb) (hst.kq hb) sK sL (by omega) hp.ok hW).mono ?_⟩;rintro e w'' ⟨rfl,h1,h2⟩;exact⟨rfl,1,_,aah _,h1,rfl,hp.fixed _,h2⟩
theorem rD (B:Nat)(last:Bool)(s:ByteArray)(ao:Option Addr)(cap:Nat)(steps:List (Nat×Nat))(W:List Int)(w:World)(h:aA w B W)(T:List UInt8)(p q Sy Di:Nat)(hp:Part T p q s steps)(hst:Steps w (.slice ao steps.length cap) steps B)(a1:aQ w Sy (fg 286 false (ar s.data.toList 0 steps)))(a2:aQ w Di (fg 30 true (ar s.data.toList 0 steps)))(hW:W.length<=80000000): Calls Tryz.prog 149 #[.pointer (some ⟨B,0,none⟩),.string s,.slice ao steps.length cap,oQ Sy Di (aW (ar s.data.toList 0 steps)),.bool last] w fun e w'=>∃(E:Nat) (aO:Array Value),e=.returned (.agg #[.int .i64 (E:Int),.func (.func 170) #[] aO])/\Below w.heap.size w w'/\jn w' B W T p q last 1 E 170 aO/\E<=90000000/\E=W.length+3+(ay Rf.bQ bd (ar s.data.toList 0 steps)).length:=by
 have hlt:=h.lt;have cB:w.cell? ⟨B,1,none⟩=some (.int .i64 W.length):=by obtain⟨pv,Pk,hw⟩:=h;exact hw.cells.2.1
 have hle:=oW Rf.bQ bd sK.2.1 sL.2.1 _ hp.toks;have hln:=hp.len;have HB:=fun (v:World) (S1 S2:Nat) (y1:aQ v Sy (fg 286 false (ar s.data.toList 0 steps))) (y2:aQ v Di (fg 30 true (ar s.data.toList 0 steps))) (y3:aQ v S1 Rf.bQ) (y4:aQ v S2 bd)=>ue Rf.bQ bd 288 S1 S2 Sy Di _ v hp.toks hp.len y1 y2 y3 y4 sK.1 (by omega) sL.1 sK.2.1 sL.2.1
 have HP:Hid (∀u X0 X1 X2 X3 X4 X5 S1 S2,bG u X0 (.pointer (some ⟨B,0,none⟩)) 154->bG u X1 (.bool last) 4->bG u X2 (.string s) 9->bG u X3 (.slice ao steps.length cap) 161->bG u X4 (.slice (some ⟨S1,0,none⟩) 288 288) 22->bG u X5 (.slice (some ⟨S2,0,none⟩) 30 30) 22->aQ u S1 Rf.bQ->aQ u S2 bd->Steps u (.slice ao steps.length cap) steps B ->
   jn u B W T p q last 1 (W.length+3+(ay Rf.bQ bd (ar s.data.toList 0 steps)).length) 170 #[.pointer (some ⟨X0,0,none⟩),.pointer (some ⟨X1,0,none⟩),.pointer (some ⟨X2,0,none⟩),.pointer (some ⟨X3,0,none⟩),.pointer (some ⟨X4,0,none⟩),.pointer (some ⟨X5,0,none⟩)]) :=
  fun u X0 X1 X2 X3 X4 X5 S1 S2 b0 b1 b2 b3 b4 b5 l1 l2 st=>Dn hp hW b0 b1 b2 b3 b4 b5 l1 l2 st
 clear hp h;generalize (ay Rf.bQ bd (ar s.data.toList 0 steps)).length=EB at *;generalize fg 286 false (ar s.data.toList 0 steps)=sw at *;generalize fg 30 true (ar s.data.toList 0 steps)=dw at *;generalize aW (ar s.data.toList 0 steps)=ex at *;have hE:EB<=4000000:=by omega
 clear hle hln;generalize W.length=PL at *
 go_enter Tryz.func149,Tryz.ntmps149
 go_wp2_with fail;obtain⟨k0,q0,q1,q2,q3,q4,q5⟩:=vU w (.cells #[.pointer (some ⟨B,0,none⟩)] 154) (.cells #[.string s] 9) (.cells #[.slice ao steps.length cap] 161) (.cells #[.slice (some ⟨Sy,0,none⟩) 286 286,.slice (some ⟨Di,0,none⟩) 30 30,.int .i64 ex] 191) (.cells #[.bool last] 4) (.cells #[.int .i64 0,.nilFunc] 163);generalize Sq:((((((w.alloc (.cells #[.pointer (some ⟨B,0,none⟩)] 154)).alloc (.cells #[.string s] 9)).alloc (.cells #[.slice ao steps.length cap] 161)).alloc (.cells #[.slice (some ⟨Sy,0,none⟩) 286 286,.slice (some ⟨Di,0,none⟩) 30 30,.int .i64 ex] 191)).alloc (.cells #[.bool last] 4)).alloc (.cells #[.int .i64 0,.nilFunc] 163))=wa at *;refine (Jx wa).mono ?_;rintro e u1 ⟨rfl,m1,hb1⟩;go_wp2_with fail;refine (Jy u1).mono ?_;rintro e u2 ⟨rfl,m2,hb2⟩;have k2:Below wa.heap.size wa u2:=hb1.trans (hb2.mono hb1.size);have YJ:=m1.keep hb2;have B0:Below w.heap.size w u2:=k0.trans (k2.mono k0.size);generalize hS1:wa.heap.size=S1 at m1 YJ ⊢;generalize hS2:u1.heap.size=S2 at m2 ⊢;go_wp2_with fail;obtain⟨k3,x4,x5⟩:=bH u2 (.cells #[.slice (some ⟨S1,0,none⟩) 288 288] 22) (.cells #[.slice (some ⟨S2,0,none⟩) 30 30] 22);generalize hu3:(u2.alloc (.cells #[.slice (some ⟨S1,0,none⟩) 288 288] 22)).alloc (.cells #[.slice (some ⟨S2,0,none⟩) 30 30] 22)=u3 at *;have B3:Below w.heap.size w u3.drew:=(B0.trans (k3.mono B0.size)).drew;have K3:Below wa.heap.size wa u3.drew:=(k2.trans (k3.mono k2.size)).drew;have K4:Below u2.heap.size u2 u3.drew:=k3.drew;have Q0:bG u3.drew _ _ _:=(K3.block _ (aaa q0)).trans q0;have Q1:bG u3.drew _ _ _:=(K3.block _ (aaa q1)).trans q1;have Q2:bG u3.drew _ _ _:=(K3.block _ (aaa q2)).trans q2;have Q3:=(K3.block _ (aaa q3)).trans q3;have Q4:bG u3.drew _ _ _:=(K3.block _ (aaa q4)).trans q4;have Q5:=(K3.block _ (aaa q5)).trans q5;have Q6:bG u3.drew _ _ _:=x4;have Q7:bG u3.drew _ _ _:=x5;have L1:=YJ.keep K4;have L2:=m2.keep K4;have A1:=a1.keep B3;have A2:=a2.keep B3;have CB:=(B3.cell hlt).trans cB;have V9:=HB u3.drew S1 S2 A1 A2 L1 L2;clear q0 q1 q2 q3 q4 q5 x4 x5 m1 YJ m2 hb1 hb2 k0 k2 k3 B0 K3 K4 Sq hu3 cB a1 a2 HB A1 A2;refine ax (fun u=>u.cell? ⟨w.heap.size,0,none⟩=some (.pointer (some ⟨B,0,none⟩))/\u.cell? ⟨B,1,none⟩=some (.int .i64 PL)/\u.cell? ⟨w.heap.size+1+1+1,0,none⟩=some (.slice (some ⟨Sy,0,none⟩) 286 286)/\u.cell? ⟨w.heap.size+1+1+1,1,none⟩=some (.slice (some ⟨Di,0,none⟩) 30 30)/\u.cell? ⟨w.heap.size+1+1+1,2,none⟩=some (.int .i64 ex)/\u.cell? ⟨u2.heap.size,0,none⟩=some (.slice (some ⟨S1,0,none⟩) 288 288)/\u.cell? ⟨u2.heap.size+1,0,none⟩=some (.slice (some ⟨S2,0,none⟩) 30 30)) 12 ?_;generalize u3.drew=v at *;have hlB:=B3.size;obtain⟨y0,y1,y2,Qe,Qf⟩:=cells3 Q3;have hS:v.cell? ⟨w.heap.size,0,none⟩=some (.pointer (some ⟨B,0,none⟩))/\v.cell? ⟨B,1,none⟩=some (.int .i64 PL)/\v.cell? ⟨w.heap.size+1+1+1,0,none⟩=some (.slice (some ⟨Sy,0,none⟩) 286 286)/\v.cell? ⟨w.heap.size+1+1+1,1,none⟩=some (.slice (some ⟨Di,0,none⟩) 30 30)/\v.cell? ⟨w.heap.size+1+1+1,2,none⟩=some (.int .i64 ex)/\v.cell? ⟨u2.heap.size,0,none⟩=some (.slice (some ⟨S1,0,none⟩) 288 288)/\v.cell? ⟨u2.heap.size+1,0,none⟩=some (.slice (some ⟨S2,0,none⟩) 30 30):=⟨Q0.cell,CB,y0,y1,y2,Q6.cell,Q7.cell⟩
 refine ap [0,1,2,3,4,5,6,7] ?_
 iterate 8 (refine au hS ?_;try simp only[Act.put])
 refine aj ?_;refine ap [10] ?_
 iterate 1 (refine au hS ?_;try simp only[Act.put])
 refine aj ?_;refine ag 8 fun K hK=>?_;go_simp;refine V9.mono ?_;rintro e v4 ⟨rfl,hb4⟩;have R0:=Q0.below hb4;have R1:=Q1.below hb4;have R2:=Q2.below hb4;have R3:=(hb4.block _ (aaa Q3)).trans Q3;have R4:=Q4.below hb4;have R5:=(hb4.block _ (aaa Q5)).trans Q5;have R6:=Q6.below hb4;have R7:=Q7.below hb4;have L14:=L1.keep hb4;have L24:=L2.keep hb4;have B4:Below w.heap.size w v4:=B3.trans (hb4.mono hlB);have CB4:=(hb4.cell (by show B<_;omega)).trans CB;obtain⟨y0',y1',y2',aaJ,aaK⟩:=cells3 R3;have yy:v4.cell? ⟨w.heap.size,0,none⟩=some (.pointer (some ⟨B,0,none⟩))/\v4.cell? ⟨B,1,none⟩=some (.int .i64 PL)/\v4.cell? ⟨w.heap.size+1+1+1,0,none⟩=some (.slice (some ⟨Sy,0,none⟩) 286 286)/\v4.cell? ⟨w.heap.size+1+1+1,1,none⟩=some (.slice (some ⟨Di,0,none⟩) 30 30)/\v4.cell? ⟨w.heap.size+1+1+1,2,none⟩=some (.int .i64 ex)/\v4.cell? ⟨u2.heap.size,0,none⟩=some (.slice (some ⟨S1,0,none⟩) 288 288)/\v4.cell? ⟨u2.heap.size+1,0,none⟩=some (.slice (some ⟨S2,0,none⟩) 30 30):=⟨R0.cell,CB4,y0',y1',y2',R6.cell,R7.cell⟩
 refine hK _ _ (fun _=>yy) ?_;clear hK K V9 Q0 Q1 Q2 Q3 Q4 Q5 Q6 Q7 L1 L2 hS CB B3 y0 y1 y2 Qe Qf y0' y1' y2' aaJ aaK;refine ap [9] ?_
 iterate 1 (refine au yy ?_;try simp only[Act.put])
 refine aj ?_;refine ap [11] ?_
 iterate 1 (refine au yy ?_;try simp only[Act.put])
 refine aj ?_;obtain⟨r0,r1,fz,hl5⟩:=aN R5;refine ag 12 fun K hK=>?_;go_simp;refine hK _ _ (fun h=>absurd rfl h) ?_;clear hK K;refine am ?_;go_wp2;have e1:IntKind.i64.wrap ((PL:Int)+3)=(PL:Int)+3:=aao _ (by omega);have e2:IntKind.i64.wrap ((PL:Int)+3+(EB:Int))=((PL+3+EB:Nat):Int):=(aao _ (by omega)).trans (by omega);rw[e1,e2];have hE9:PL+3+EB<=90000000:=by omega
 generalize PL+3+EB=E at *;have kp:∀(v1 v2:Value) (g:Nat),g≠w.heap.size+1+1+1+1+1->((v4.setCell ⟨w.heap.size+1+1+1+1+1,0,none⟩ v1).setCell ⟨w.heap.size+1+1+1+1+1,1,none⟩ v2).heap[g]?=v4.heap[g]?:=fun v1 v2 g hg=>(aak _ ⟨w.heap.size+1+1+1+1+1,1,none⟩ _ _ hg).trans (aak _ ⟨w.heap.size+1+1+1+1+1,0,none⟩ _ _ hg);refine aaF (v:=.agg #[.int .i64 (E:Int),.func (.func 170) #[] #[.pointer (some ⟨w.heap.size,0,none⟩),.pointer (some ⟨w.heap.size+1+1+1+1,0,none⟩),.pointer (some ⟨w.heap.size+1,0,none⟩),.pointer (some ⟨w.heap.size+1+1,0,none⟩),.pointer (some ⟨u2.heap.size,0,none⟩),.pointer (some ⟨u2.heap.size+1,0,none⟩)]]) ?_ rfl ⟨E,_,rfl,?_,HP.out _ _ _ _ _ _ _ S1 S2 ?_ ?_ ?_ ?_ ?_ ?_ ?_ ?_ ?_,hE9,rfl⟩
 ·simp[results,Tryz.results149,go_sem,r0,r1]
 ·exact (B4.setCell (p:=⟨w.heap.size+1+1+1+1+1,0,none⟩) (by dsimp only;omega) _).setCell (p:=⟨w.heap.size+1+1+1+1+1,1,none⟩) (by dsimp only;omega) _
 ·exact (kp _ _ _ (by omega)).trans R0
 ·exact (kp _ _ _ (by omega)).trans R4
 ·exact (kp _ _ _ (by omega)).trans R1
 ·exact (kp _ _ _ (by omega)).trans R2
 ·exact (kp _ _ _ (fun e=>by rw[e]at R6;rw[show v4.heap[_]?=_ from R6]at R5;simp at R5)).trans R6
 ·exact (kp _ _ _ (fun e=>by rw[e]at R7;rw[show v4.heap[_]?=_ from R7]at R5;simp at R5)).trans R7
 ·exact (kp _ _ _ (fun e=>by rw[e]at L14;rw[show v4.heap[_]?=_ from L14]at R5;simp at R5)).trans L14
 ·exact (kp _ _ _ (fun e=>by rw[e]at L24;rw[show v4.heap[_]?=_ from L24]at R5;simp at R5)).trans L24
 ·exact hst.below ((B4.setCell (p:=⟨w.heap.size+1+1+1+1+1,0,none⟩) (by dsimp only;omega) _).setCell (p:=⟨w.heap.size+1+1+1+1+1,1,none⟩) (by dsimp only;omega) _)
end Go.Proofs.YtmfijackgekioabGreatDoor
