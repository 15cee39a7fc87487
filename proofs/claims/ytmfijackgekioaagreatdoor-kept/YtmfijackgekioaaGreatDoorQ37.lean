import Derived.Test.YtmfijackgekioaaGreatDoorQ35
set_option maxHeartbeats 1000000
set_option maxRecDepth 100000
namespace Go.Proofs.YtmfijackgekioaaGreatDoor
open Go.RowKit Go.Maps
theorem G9 (X Y:Int)(b d:Nat)(hX:0<=X/\X<256)(h:X%2^(b+d)=0)(hY:0<=Y/\Y<2^(b+d))(hs:Y<256):bits .or .u8 X Y=X+Y:=by
 obtain⟨x,rfl⟩:=Int.eq_ofNat_of_zero_le hX.1;obtain⟨y,rfl⟩:=Int.eq_ofNat_of_zero_le hY.1;rw[u8_or_nat x y (by omega) (by omega)]
 have hy:y<2^(b+d):=by
  have:=hY.2;have e:(2:Int)^(b+d)=((2^(b+d):Nat):Int):=by push_cast;rfl
  omega
 have hx:x%2^(b+d)=0:=by
  have e:(2:Int)^(b+d)=((2^(b+d):Nat):Int):=by push_cast;rfl
  rw[e]at h;omega
 obtain⟨c,rfl⟩:∃c,x=2^(b+d)*c:=⟨x/2^(b+d),by have:=Nat.div_add_mod x (2^(b+d));omega⟩
 rw[<-Nat.two_pow_add_eq_or_of_lt hy c];push_cast;rfl
structure iw (w:World) (bF bD bR R dp n p:Nat):Prop where
 f:bu w bF (.int .i64 (p:Nat)) 3
 d:bu w bD (.int .i64 (dp:Nat)) 3
 r:bu w bR (.slice (some ⟨R,0,none⟩) n n) 107
structure AQ (bF bD bR R:Nat):Prop where
 ne:bF≠R/\bD≠R/\bR≠R/\bD≠bF/\bR≠bF
theorem iw.set {w u:World}{bF bD bR R dp n p q:Nat}(h:iw w bF bD bR R dp n p)(ha:AQ bF bD bR R)(hf:bu u bF (.int .i64 (q:Nat)) 3)(k:∀j,j≠R->j≠bF->j<w.heap.size->u.heap[j]?=w.heap[j]?):iw u bF bD bR R dp n q :=
 ⟨hf,(k _ ha.ne.2.1 ha.ne.2.2.2.1 (lt_of_block h.d)).trans h.d,(k _ ha.ne.2.2.1 ha.ne.2.2.2.2 (lt_of_block h.r)).trans h.r⟩
theorem cq.set2 {w:World}{g:Nat}{l:List Int}(h:cq w g l)(i j:Nat)(x y:Int):cq ((w.setCell ⟨g,i,none⟩ (.int .u8 x)).setCell ⟨g,j,none⟩ (.int .u8 y)) g ((l.set i x).set j y):=(h.set i x).set j y
theorem Oc (args:Array Value)(w:World):(callFunc 194 args).run Tryz.prog w=.ok (.enter 194 args) w:=by kernel_rfl
abbrev P8 (bF bD bR:Nat):Value:=.func (.func 194) #[] #[.pointer (some ⟨bF,0,none⟩),.pointer (some ⟨bD,0,none⟩),.pointer (some ⟨bR,0,none⟩)]
def Ld (v:Nat->Int)(dp n K:Nat):Prop:=∀k,k<K->(0<=v k/\v k<2^dp)/\(dp=16->2*k+1<n)/\(dp≠16->k*dp/8<n)
theorem SG (v:Nat->Int)(dp bF bD bR R n k:Nat)(w:World)(hD:dp=1\/dp=2\/dp=4\/dp=8)(hE:iw w bF bD bR R dp n (k*dp))(ha:AQ bF bD bR R)(hB:cq w R (Pm.bq v dp n k))(hpk:Pm.Packed v dp n k)(hk:k*dp/8<n)(hn:n<=1000000)(hv:0<=v k/\v k<2^dp): Calls Tryz.prog 194 #[.int .i64 (v k),.pointer (some ⟨bF,0,none⟩),.pointer (some ⟨bD,0,none⟩),.pointer (some ⟨bR,0,none⟩)] w fun e w'=>e=.returned (.tuple #[])/\iw w' bF bD bR R dp n ((k+1)*dp)/\cq w' R (Pm.bq v dp n (k+1))/\Kp (fun j=>j=R\/j=bF) w w':=by
 have h16:dp≠16:=by omega
 have hlen:=Pm.iV v dp n k;have hlow:=hpk.low h16;have hby:=hpk.byte (k*dp/8);have HN:Hid (Pm.bq v dp n (k+1)=(Pm.bq v dp n k).set (k*dp/8) (Pm.aj (Pm.bq v dp n k) (k*dp/8)+v k*2^(8-k*dp%8-dp))):=by show _=_;rw[Pm.bq,if_neg h16]
 have hc:=hB.cell (k*dp/8) (by rw[hlen];exact hk);have HP:Hid ((k+1)*dp=k*dp+dp):=Nat.succ_mul k dp;obtain⟨p,hp⟩:∃p,p=k*dp:=⟨_,rfl⟩
 have hfd:p%8+dp<=8:=by rw[hp];rcases hD with rfl|rfl|rfl|rfl<;>omega
 rw[<-hp]at hE HN hk hlow hby hc HP;generalize Pm.aj (Pm.bq v dp n k) (p/8)=X at *;obtain⟨q,hq⟩:∃q,q=p/8:=⟨_,rfl⟩
 rw[<-hq]at HN hk hc;obtain⟨bh,Wk⟩:∃bh,bh=8-p%8-dp:=⟨_,rfl⟩
 rw[<-Wk]at HN;rw[show 8-p%8=bh+dp by omega]at hlow;generalize v k=V at *;have hp8:p<=8000008:=by omega
 have hps:=Pm.AA X V bh dp hlow hv (by omega) hby;have hY0:0<=V*2^bh:=Int.mul_nonneg hv.1 (Int.le_of_lt (Pm.iq bh))
 have hY2:V*2^bh<2^(bh+dp):=by
  rw[Nat.add_comm bh dp,Int.pow_add];exact Int.mul_lt_mul_of_pos_right hv.2 (Pm.iq bh)
 have hor:=G9 X (V*2^bh) bh dp hby hlow ⟨hY0,hY2⟩ (by omega);have e8:(p:Int)/8=(q:Int):=by omega
 have ebh:8-(p:Int)%8-(dp:Int)=(bh:Int):=by omega
 have hql:(q:Int)<(n:Int):=by omega
 have wq:IntKind.i64.wrap (q:Int)=(q:Int):=IntWalk.i64_in _ (by omega);have wb:IntKind.i64.wrap (bh:Int)=(bh:Int):=IntWalk.i64_in _ (by omega);have wp:IntKind.i64.wrap ((p:Int)+(dp:Int))=((p+dp:Nat):Int):=by rw[show (p:Int)+(dp:Int)=((p+dp:Nat):Int) by push_cast;rfl];exact IntWalk.i64_in _ (by omega)
 have wV:IntKind.i64.wrap (V*2^bh)=V*2^bh:=IntWalk.i64_in _ (by omega);have wU:IntKind.u8.wrap (V*2^bh)=V*2^bh:=by rw[IntKind.wrap_u8];omega
 have wZ:IntKind.u8.wrap (X+V*2^bh)=X+V*2^bh:=by rw[IntKind.wrap_u8];omega
 have d16:((dp:Int)==16)=false:=by rw[beq_eq_false_iff_ne];omega
 have c1:=hE.f.cell;have c2:=hE.d.cell;have c3:=hE.r.cell;have fz:=fun j=>hB.frozen j;have lb:=lt_of_block hB;obtain⟨xf,zf,lf⟩:=one_cell hE.f;obtain⟨a1,a2,a3,a4,a5⟩:=ha.ne;have HH:Hid (_/\_/\_):=⟨hE,hB,ha⟩
 clear hE hB hlen hp hq Wk ha hpk hlow hby hY2
 go_enter Tryz.func194,Tryz.ntmps194
 go_wp2;have hS:w.drew.cell? ⟨bR,0,none⟩=some (.slice (some ⟨R,0,none⟩) n n)/\w.drew.cell? ⟨R,q,none⟩=some (.int .u8 X):=⟨c3,hc⟩
 refine ax (by kernel_rfl) (fun w'=>w'.cell? ⟨bR,0,none⟩=some (.slice (some ⟨R,0,none⟩) n n)/\w'.cell? ⟨R,q,none⟩=some (.int .u8 X)) 10 ?_;refine ap [0,1,2,3,4,5,6,7,8,9] ?_
 iterate 10 (refine ay (v:=?_) (T:=?_) ?ht rfl rfl (by kernel_rfl) (fun _ _ _ h=>h) ?hy hS ?_;(case hy=>intro w hSw;(try dsimp only at hSw); go_simp;try with_reducible rfl);case ht=>go_simp;try with_reducible rfl)
 refine ai ?_;refine af (i:=10) (by kernel_rfl) rfl (fun K hK=>?_);go_simp;refine hK _ _ (fun h=>absurd rfl h) ?_;clear hK K;refine ak (by kernel_rfl) ?_ _
 have HF:Hid (∀z:World,z=((w.setCell ⟨R,q,none⟩ (.int .u8 (X+V*2^bh))).setCell ⟨bF,0,none⟩ (.int .i64 ((p:Int)+(dp:Int))))->iw z.drew bF bD bR R dp n ((k+1)*dp)/\cq z.drew R (Pm.bq v dp n (k+1))/\Kp (fun j=>j=R\/j=bF) w z.drew):=fun z hz=>by
  subst hz;obtain⟨hE,hB,ha⟩:=HH.out;refine⟨?_,?_,?_⟩
  ·refine hE.set ha ?_ (fun j h1 h2 h3=>(aF _ _ _ _ _ h2).trans (aF _ _ _ _ _ h1));rw[HP.out];have:=one_set (w:=w.setCell ⟨R,q,none⟩ (.int .u8 (X+V*2^bh))) ((aF _ _ _ _ _ a1).trans hE.f) (.int .i64 ((p:Int)+(dp:Int)));rw[show ((p:Int)+(dp:Int))=((p+dp:Nat):Int) by push_cast;rfl]at this ⊢;exact this
  ·rw[HN.out];exact (aF _ _ _ _ _ (Ne.symm a1)).trans (hB.set q _)
  ·exact (((Kp.refl _ _).setCell (p:=⟨R,q,none⟩) (.inl (.inl rfl)) _).setCell (p:=⟨bF,0,none⟩) (.inl (.inr rfl)) _).drew
 go_wp2
 go_end0
 exact⟨rfl,HF.out _ rfl⟩
theorem Od (v:Nat->Int)(bF bD bR R n k:Nat)(w:World)(hE:iw w bF bD bR R 16 n (k*16))(ha:AQ bF bD bR R)(hB:cq w R (Pm.bq v 16 n k))(hk:2*k+1<n)(hn:n<=1000000)(hv:0<=v k/\v k<65536): Calls Tryz.prog 194 #[.int .i64 (v k),.pointer (some ⟨bF,0,none⟩),.pointer (some ⟨bD,0,none⟩),.pointer (some ⟨bR,0,none⟩)] w fun e w'=>e=.returned (.tuple #[])/\iw w' bF bD bR R 16 n ((k+1)*16)/\cq w' R (Pm.bq v 16 n (k+1))/\Kp (fun j=>j=R\/j=bF) w w':=by
 obtain⟨p,hp⟩:∃p,p=k*16:=⟨_,rfl⟩
 have hlen:=Pm.iV v 16 n k;have HN:Hid (Pm.bq v 16 n (k+1)=((Pm.bq v 16 n k).set (2*k) (v k/256)).set (2*k+1) (v k%256)):=by show _=_;rw[Pm.bq,if_pos rfl]
 obtain⟨q,hq⟩:∃q,q=2*k:=⟨_,rfl⟩
 rw[<-hq]at HN hk;rw[<-hp]at hE;have e8:(p:Int)/8=(q:Int):=by omega
 have hql:(q:Int)+1<(n:Int):=by omega
 have hqm:(q:Int)<(n:Int):=by omega
 have kp0:(0:Int)<=(q:Int)+1:=by omega
 have wq:IntKind.i64.wrap (q:Int)=(q:Int):=IntWalk.i64_in _ (by omega);have wq1:IntKind.i64.wrap ((q:Int)+1)=(q:Int)+1:=IntWalk.i64_in _ (by omega);have wp:IntKind.i64.wrap ((p:Int)+16)=((p+16:Nat):Int):=by rw[show (p:Int)+16=((p+16:Nat):Int) by push_cast;rfl];exact IntWalk.i64_in _ (by omega)
 obtain⟨O,hO⟩:∃O,w.cell? ⟨R,q,none⟩=some (.int .u8 O):=⟨_,hB.cell q (by rw[hlen];omega)⟩
 obtain⟨O2,hO2⟩:∃O,w.cell? ⟨R,q+1,none⟩=some (.int .u8 O):=⟨_,hB.cell (q+1) (by rw[hlen];omega)⟩
 generalize v k=V at *;have v1:IntKind.u8.wrap (V/256)=V/256:=by rw[IntKind.wrap_u8];omega
 have v2:IntKind.u8.wrap V=V%256:=by rw[IntKind.wrap_u8]
 have c1:=hE.f.cell;have c2:=hE.d.cell;have c3:=hE.r.cell;have fz:=fun j=>hB.frozen j;have lb:=lt_of_block hB;have HH:Hid (_/\_):=⟨hE,hB⟩
 obtain⟨a1,a2,a3,a4,a5⟩:=ha.ne;have HA:Hid (_):=ha;have HP:Hid (p+16=(k+1)*16):=by show _=_;omega
 obtain⟨xf,zf,lf⟩:=one_cell hE.f;clear hE hB hlen hp hq ha
 go_enter Tryz.func194,Tryz.ntmps194
 go_wp2;have hS:w.drew.cell? ⟨bR,0,none⟩=some (.slice (some ⟨R,0,none⟩) n n):=c3;refine ax (by kernel_rfl) (fun w'=>w'.cell? ⟨bR,0,none⟩=some (.slice (some ⟨R,0,none⟩) n n)) 99 ?_;refine ap [0,1,2,3,4,5,6,7,8,9,10] ?_
 iterate 11 (refine ay (v:=?_) (T:=?_) ?ht rfl rfl (by kernel_rfl) (fun _ _ _ h=>h) ?hy hS ?_;(case hy=>intro w hSw;(try dsimp only at hSw); go_simp;try with_reducible rfl);case ht=>go_simp;try with_reducible rfl)
 refine ai ?_;refine af (i:=11) (by kernel_rfl) rfl (fun K hK=>?_);go_simp;refine hK _ _ (fun _=>?_) ?_
 ·show (w.setCell ⟨R,q,none⟩ _).cell? _=_;rw[World.cell?_setCell_other _ _ _ _ (fun e=>a3 (congrArg Addr.block e).symm)];exact c3
 clear hK K
 have hS1:(w.setCell ⟨R,q,none⟩ (.int .u8 (V/256))).cell? ⟨bR,0,none⟩=some (.slice (some ⟨R,0,none⟩) n n):=by
  rw[World.cell?_setCell_other _ _ _ _ (fun e=>a3 (congrArg Addr.block e).symm)];exact c3
 refine ap [12] ?_
 iterate 1 (refine ay (v:=?_) (T:=?_) ?ht rfl rfl (by kernel_rfl) (fun _ _ _ h=>h) ?hy hS1 ?_;(case hy=>intro w hSw;(try dsimp only at hSw); go_simp;try with_reducible rfl);case ht=>go_simp;try with_reducible rfl)
 refine ai ?_;refine af (i:=13) (by kernel_rfl) rfl (fun K hK=>?_);go_simp;refine hK _ _ (fun _=>?_) ?_
 ·show ((w.setCell ⟨R,q,none⟩ _).setCell ⟨R,q+1,none⟩ _).cell? _=_;rw[World.cell?_setCell_other _ _ _ _ (fun e=>a3 (congrArg Addr.block e).symm),World.cell?_setCell_other _ _ _ _ (fun e=>a3 (congrArg Addr.block e).symm)];exact c3
 clear hK K;refine ak (by kernel_rfl) ?_ _
 have HF:Hid (∀z:World,z=(((w.setCell ⟨R,q,none⟩ (.int .u8 (V/256))).setCell ⟨R,q+1,none⟩ (.int .u8 (V%256))).setCell ⟨bF,0,none⟩ (.int .i64 ((p:Int)+16)))->iw z.drew bF bD bR R 16 n ((k+1)*16)/\cq z.drew R (Pm.bq v 16 n (k+1))/\Kp (fun j=>j=R\/j=bF) w z.drew):=fun z hz=>by
  subst hz;obtain⟨hE,hB⟩:=HH.out;refine⟨?_,?_,?_⟩
  ·refine hE.set HA.out ?_ (fun j h1 h2 h3=>(aF _ _ _ _ _ h2).trans ((aF _ _ _ _ _ h1).trans (aF _ _ _ _ _ h1)));rw[<-HP.out];have:=one_set (w:=(w.setCell ⟨R,q,none⟩ (.int .u8 (V/256))).setCell ⟨R,q+1,none⟩ (.int .u8 (V%256))) ((aF _ _ _ _ _ a1).trans ((aF _ _ _ _ _ a1).trans hE.f)) (.int .i64 ((p:Int)+16));rw[show ((p:Int)+16)=((p+16:Nat):Int) by push_cast;rfl]at this ⊢;exact this
  ·rw[HN.out];exact (aF _ _ _ _ _ (Ne.symm a1)).trans (hB.set2 q (q+1) _ _)
  ·exact ((((Kp.refl _ _).setCell (p:=⟨R,q,none⟩) (.inl (.inl rfl)) _).setCell (p:=⟨R,q+1,none⟩) (.inl (.inl rfl)) _).setCell (p:=⟨bF,0,none⟩) (.inl (.inr rfl)) _).drew
 go_wp2
 go_end0
 exact⟨rfl,HF.out _ rfl⟩
theorem Wx (v:Nat->Int)(dp bF bD bR R n k K:Nat)(w:World)(hE:iw w bF bD bR R dp n (k*dp))(ha:AQ bF bD bR R)(hB:cq w R (Pm.bq v dp n k))(hdp:Pm.rD dp)(hok:Ld v dp n K)(hk:k<K)(hn:n<=1000000): Calls Tryz.prog 194 #[.int .i64 (v k),.pointer (some ⟨bF,0,none⟩),.pointer (some ⟨bD,0,none⟩),.pointer (some ⟨bR,0,none⟩)] w fun e w'=>e=.returned (.tuple #[])/\iw w' bF bD bR R dp n ((k+1)*dp)/\cq w' R (Pm.bq v dp n (k+1))/\Kp (fun j=>j=R\/j=bF) w w':=by
 obtain⟨h1,h2,h3⟩:=hok k hk;by_cases h:dp=16
 ·subst h;exact Od v bF bD bR R n k w hE ha hB (h2 rfl) hn h1
 ·exact SG v dp bF bD bR R n k w (by unfold Pm.rD at hdp;omega) hE ha hB (Pm.packed v dp n hdp K (fun k hk=>(hok k hk).1) (fun k hk=>(hok k hk).2) k (by omega)) (h3 h) hn h1
theorem SH {n st i t:Nat}(ht:t<n):Pm.od n st (i*n+t)=i*st*n+t:=by
 unfold Pm.od;rw[Nat.mul_comm i n,Nat.mul_add_div (by omega),Nat.div_eq_of_lt ht,Nat.add_zero,Nat.mul_add_mod,Nat.mod_eq_of_lt ht,Nat.mul_assoc]
structure gT (w:World) (G:Nat) (S:List Int):Prop where
 at_:∀j,j<S.length->w.cell? ⟨G,j,none⟩=some (.int .i64 (Pm.aj S j))
 lt:G<w.heap.size
theorem gT.kp {w w':World}{G:Nat}{S:List Int}{K:Nat->Prop}(h:gT w G S)(k:Kp K w w')(hG:¬K G):gT w' G S:=⟨fun j hj=>(k.cell (p:=⟨G,j,none⟩) h.lt hG).trans (h.at_ j hj),Nat.lt_of_lt_of_le h.lt k.size⟩
theorem gT.below {w w':World}{G:Nat}{S:List Int}(h:gT w G S)(k:Below w.heap.size w w'):gT w' G S:=h.kp (Kp.aG (S:=fun _=>False) k) (fun e=>e)
theorem Oe (v:Nat->Int)(S:List Int)(n st C dp nr off len cap G bF bD bR R:Nat)(w:World)(hE:iw w bF bD bR R dp nr 0)(ha:AQ bF bD bR R)(hB:cq w R (Pm.bq v dp nr 0))(hS:gT w G S)(hG:G≠R/\G≠bF)(hin:∀k,k<C*n->v k=Pm.aj S (off+Pm.od n st k)/\off+Pm.od n st k<S.length/\Pm.od n st k<len)(hok:Ld v dp nr (C*n))(hdp:Pm.rD dp)(hC:C<=5000)(hn:1<=n/\n<=4)(hst:1<=st/\st<=8)(hlc:len<=cap)(hnr:nr<=1000000): Calls Tryz.prog 148 #[.slice (some ⟨G,off,none⟩) len cap,.int .i64 (n:Nat),.int .i64 (st:Nat),.int .i64 (C:Nat),P8 bF bD bR] w fun e w' =>
   e=.returned (.tuple #[])/\cq w' R (Pm.bq v dp nr (C*n))/\Kp (fun j=>j=R\/j=bF) w w':=by
 have hcall:=Oc;have HH:Hid (_/\_/\_):=⟨hE,hB,hS⟩
 have tA:Hid (_/\_):=⟨hin,hok⟩
 clear hE hB hS hin hok
 go_enter Tryz.func148,Tryz.ntmps148
 go_wp2
 go_loopw [14] (fun ix wr=>∃i:Nat,i<=C/\ix=.int .i64 i/\Hid (iw wr bF bD bR R dp nr (i*n*dp))/\Hid (cq wr R (Pm.bq v dp nr (i*n)))/\Hid (Kp (fun j=>j=R\/j=bF) w wr)) (fun ix _=>C-(intOf ix).toNat)
 case atStart=>exact⟨0,Nat.zero_le _,rfl,by show iw _ _ _ _ _ _ _ _;rw[Nat.zero_mul,Nat.zero_mul];exact HH.out.1,by show cq _ _ _;rw[Nat.zero_mul];exact HH.out.2.1,Kp.refl _ _⟩
 case round =>
  obtain⟨i,hi,rfl,HE,HB,HK⟩:=hrel;by_cases hlt:i<C
  ·have hlt':(i:Int)<(C:Int):=by omega
   obtain⟨A,hA⟩:∃A,A=i*st:=⟨_,rfl⟩
   have eA:(i:Int)*(st:Int)=(A:Int):=by rw[hA];push_cast;rfl
   have Yu:A<=40000:=by rw[hA];have:i*st<=5000*8:=Nat.mul_le_mul (by omega) hst.2;omega
   have wA:IntKind.i64.wrap (A:Int)=(A:Int):=IntWalk.i64_in _ (by omega);obtain⟨q,hq⟩:∃q,q=A*n:=⟨_,rfl⟩
   have eq:(A:Int)*(n:Int)=(q:Int):=by rw[hq];push_cast;rfl
   have hqb:q<=160000:=by rw[hq];have:A*n<=40000*4:=Nat.mul_le_mul (by omega) hn.2;omega
   have wq:IntKind.i64.wrap (q:Int)=(q:Int):=IntWalk.i64_in _ (by omega);have hpl:∀t,t<n->Pm.od n st (i*n+t)=q+t:=fun t ht=>by rw[SH ht,hq,hA]
   have hin1:∀t,t<n->i*n+t<C*n:=fun t ht=>by
    have:(i+1)*n<=C*n:=Nat.mul_le_mul_right _ hlt;rw[Nat.succ_mul]at this;omega
   have hqn:q+n<=len:=by
    have h1:=(tA.out.1 (i*n+(n-1)) (hin1 (n-1) (by omega))).2.2;rw[hpl (n-1) (by omega)]at h1;omega
   have hq1:(q:Int)<=(len:Int):=by omega
   have hq2:(n:Int)<=(cap:Int)-(q:Int):=by omega
   have Bl:Hid (∀t,t<n->v (i*n+t)=Pm.aj S (off+q+t)/\off+q+t<S.length/\i*n+t<C*n):=fun t ht=>by
    obtain⟨a1,a2,_⟩:=tA.out.1 (i*n+t) (hin1 t ht);rw[hpl t ht,<-Nat.add_assoc]at a1 a2;exact⟨a1,a2,hin1 t ht⟩
   have ma:Hid ((i+1)*n=i*n+n):=Nat.succ_mul i n;clear hA hq hpl hin1;go_wp2
   go_loopw [27] (fun tx wr2=>∃t:Nat,t<=n/\tx=.int .i64 t/\Hid (iw wr2 bF bD bR R dp nr ((i*n+t)*dp))/\Hid (cq wr2 R (Pm.bq v dp nr (i*n+t)))/\Hid (Kp (fun j=>j=R\/j=bF) w wr2)) (fun tx _=>n-(intOf tx).toNat)
   case atStart=>exact⟨0,Nat.zero_le _,rfl,HE,HB,HK⟩
   case round =>
    obtain⟨t,ht,rfl,HE2,HB2,Gp⟩:=hrel;by_cases htl:t<n
    ·have agR:(t:Int)<(n:Int):=by omega
     obtain⟨p1,p2,p3⟩:=Bl.out t htl;have hS2:=HH.out.2.2.kp Gp.out (fun e=>by rcases e with e|e;exact hG.1 e;exact hG.2 e);have c0:=hS2.at_ _ p2;have hpk:=Wx v dp bF bD bR R nr (i*n+t) (C*n) wr HE2.out ha HB2.out hdp tA.out.2 p3 hnr;rw[p1]at hpk;have HT:Hid (i*n+t+1=i*n+(t+1)):=rfl;generalize Pm.aj S (off+q+t)=V at *;clear p1 p2 p3 hS2 HE2 HB2;go_wp2_with fail;refine hpk.mono ?_;rintro e w1 ⟨rfl,g1,g2,g3⟩;have HD:Hid (_/\_/\_):=⟨g1,g2,Gp.out.trans g3⟩
     clear g1 g2 g3 hpk;go_wp2
     go_roundw
     case rel=>exact⟨t+1,by omega,by go_num,HD.out.1,HD.out.2.1,HD.out.2.2⟩
     case measure=>simp[intOf];omega
    ·have hte:t=n:=by omega
     subst hte;go_wp2
     go_roundw
     case rel=>exact⟨i+1,by omega,by go_num,by show iw _ _ _ _ _ _ _ _;rw[ma.out];exact HE2.out,by show cq _ _ _;rw[ma.out];exact HB2.out,Gp⟩
     case measure=>simp[intOf];omega
  ·have hie:i=C:=by omega
   subst hie;go_wp2
   go_end0
   exact⟨rfl,HB.out,HK.out⟩
end Go.Proofs.YtmfijackgekioaaGreatDoor
