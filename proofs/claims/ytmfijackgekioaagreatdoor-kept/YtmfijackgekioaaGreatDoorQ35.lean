import Derived.Test.YtmfijackgekioaaGreatDoorQ34
set_option maxHeartbeats 2000000
set_option maxRecDepth 100000
namespace Go.Proofs.YtmfijackgekioaaGreatDoor
open Go.RowKit Go.Maps
theorem aF (w:World)(b j:Nat)(u:Value)(g:Nat)(h:g≠b):(w.setCell ⟨b,j,none⟩ u).heap[g]?=w.heap[g]?:=Below.heap_setCell w ⟨b,j,none⟩ u g h
structure rS (w:World) (bs bp bl bt bn:Nat) (sv:Value) (pl lf st pt:Nat):Prop where
 s:bu w bs sv 24
 p:bu w bp (.int .i64 (pl:Nat)) 3
 l:bu w bl (.int .i64 (lf:Nat)) 3
 t:bu w bt (.int .i64 (st:Nat)) 3
 n:bu w bn (.int .i64 (pt:Nat)) 3
structure N3 (bs bp bl bt bn G:Nat):Prop where
 pl:bp≠bl
 ps:bs≠bp
 pt:bt≠bp
 pn:bn≠bp
 ls:bs≠bl
 lt:bt≠bl
 ln:bn≠bl
 gs:bs≠G
 gp:bp≠G
 gl:bl≠G
 gt:bt≠G
 gn:bn≠G
abbrev N4 (bs bp bl bt bn:Nat):Value:=.func (.func 176) #[] #[.pointer (some ⟨bs,0,none⟩),.pointer (some ⟨bp,0,none⟩),.pointer (some ⟨bl,0,none⟩),.pointer (some ⟨bt,0,none⟩),.pointer (some ⟨bn,0,none⟩)]
theorem AG (args:Array Value)(w:World):(callFunc 176 args).run Tryz.prog w=.ok (.enter 176 args) w:=by kernel_rfl
theorem PQ (bs bp bl bt bn G off len cap pl lf st pt:Nat)(v:Int)(out:List Int)(w:World)(h:rS w bs bp bl bt bn (.slice (some ⟨G,off,none⟩) len cap) pl lf st pt)(ha:N3 bs bp bl bt bn G)(hG:aP w G out)(hp:pl<len)(ho:off+pl<out.length)(hl:1<=lf)(hs:1<=st/\st<=8)(hpt:1<=pt/\pt<=4)(hbig:out.length<=1000000000)(hlf:lf<=4): Calls Tryz.prog 176 #[.int .i64 v,.pointer (some ⟨bs,0,none⟩),.pointer (some ⟨bp,0,none⟩),.pointer (some ⟨bl,0,none⟩),.pointer (some ⟨bt,0,none⟩),.pointer (some ⟨bn,0,none⟩)] w fun e w' =>
   e=.returned (.tuple #[])/\rS w' bs bp bl bt bn (.slice (some ⟨G,off,none⟩) len cap) (if lf=1 then pl+1+(st-1)*pt else pl+1) (if lf=1 then pt else lf-1) st pt/\aP w' G (out.set (off+pl) v)/\Kp (fun k=>k=G\/k=bp\/k=bl) w w':=by
 obtain⟨a1,a2,a3,a4,a5,a6,a7,a8,a9,Ub,a11,a12⟩:=ha;obtain⟨s0,sf,sl⟩:=one_cell h.s;obtain⟨p0,pf,pll⟩:=one_cell h.p;obtain⟨l0,lfz,ll⟩:=one_cell h.l;obtain⟨t0,tf,tl⟩:=one_cell h.t;obtain⟨n0,nf,nl⟩:=one_cell h.n;have gl:=lt_of_block hG;obtain⟨old,g0⟩:∃x,w.cell? ⟨G,off+pl,none⟩=some (.int .i64 x):=⟨_,hG.cell _ ho⟩
 have gf:w.frozen? ⟨G,off+pl,none⟩=false:=frozen_of_row w G _ _ _ hG;have Wj:(pl:Int)<(len:Int):=by omega
 have s1:=Ne.symm a1;have s9:=Ne.symm a9;have s10:=Ne.symm Ub;by_cases h1:lf=1
 ·subst h1;obtain⟨q,hq⟩:∃q:Nat,q=(st-1)*pt:=⟨_,rfl⟩
  have hq2:((st:Int)-1)*(pt:Int)=(q:Int):=by rw[hq];push_cast;rw[Int.natCast_sub hs.1];rfl
  have hq3:q<=28:=by
   rw[hq];have:(st-1)*pt<=7*4:=Nat.mul_le_mul (by omega) hpt.2;omega
  rw[if_pos rfl,if_pos rfl,<-hq]
  have HQ:Hid (rS (((((w.setCell ⟨G,off+pl,none⟩ (.int .i64 v)).setCell ⟨bp,0,none⟩ (.int .i64 ((pl:Int)+1))).setCell ⟨bl,0,none⟩ (.int .i64 0)).setCell ⟨bp,0,none⟩ (.int .i64 ((pl:Int)+1+(q:Int)))).setCell ⟨bl,0,none⟩ (.int .i64 (pt:Nat))) bs bp bl bt bn (.slice (some ⟨G,off,none⟩) len cap) (pl+1+q) pt st pt /\
    aP (((((w.setCell ⟨G,off+pl,none⟩ (.int .i64 v)).setCell ⟨bp,0,none⟩ (.int .i64 ((pl:Int)+1))).setCell ⟨bl,0,none⟩ (.int .i64 0)).setCell ⟨bp,0,none⟩ (.int .i64 ((pl:Int)+1+(q:Int)))).setCell ⟨bl,0,none⟩ (.int .i64 (pt:Nat))) G (out.set (off+pl) v) /\
    Kp (fun k=>k=G\/k=bp\/k=bl) w (((((w.setCell ⟨G,off+pl,none⟩ (.int .i64 v)).setCell ⟨bp,0,none⟩ (.int .i64 ((pl:Int)+1))).setCell ⟨bl,0,none⟩ (.int .i64 0)).setCell ⟨bp,0,none⟩ (.int .i64 ((pl:Int)+1+(q:Int)))).setCell ⟨bl,0,none⟩ (.int .i64 (pt:Nat)))):=by
   have f0:∀g,g≠G->g≠bp->g≠bl->(((((w.setCell ⟨G,off+pl,none⟩ (.int .i64 v)).setCell ⟨bp,0,none⟩ (.int .i64 ((pl:Int)+1))).setCell ⟨bl,0,none⟩ (.int .i64 0)).setCell ⟨bp,0,none⟩ (.int .i64 ((pl:Int)+1+(q:Int)))).setCell ⟨bl,0,none⟩ (.int .i64 (pt:Nat))).heap[g]?=w.heap[g]?:=fun g e1 e2 e3=>by
    rw[aF _ _ _ _ _ e3,aF _ _ _ _ _ e2,aF _ _ _ _ _ e3,aF _ _ _ _ _ e2,aF _ _ _ _ _ e1]
   refine⟨⟨(f0 bs a8 a2 a5).trans h.s,?_,?_,(f0 bt a11 a3 a6).trans h.t,(f0 bn a12 a4 a7).trans h.n⟩,?_,?_⟩
   ·refine (aF _ _ _ _ _ a1).trans ?_;have e1:((w.setCell ⟨G,off+pl,none⟩ (.int .i64 v)).setCell ⟨bp,0,none⟩ (.int .i64 ((pl:Int)+1))).heap[bp]?=some (.cells #[.int .i64 ((pl:Int)+1)] 3 (0,0)):=one_set ((aF _ _ _ _ _ a9).trans h.p) _;exact one_set ((aF _ _ _ _ _ a1).trans e1) _
   ·have e1:(((w.setCell ⟨G,off+pl,none⟩ (.int .i64 v)).setCell ⟨bp,0,none⟩ (.int .i64 ((pl:Int)+1))).setCell ⟨bl,0,none⟩ (.int .i64 0)).heap[bl]?=some (.cells #[.int .i64 0] 3 (0,0)):=one_set ((aF _ _ _ _ _ (Ne.symm a1)).trans ((aF _ _ _ _ _ Ub).trans h.l)) _;exact one_set ((aF _ _ _ _ _ (Ne.symm a1)).trans e1) _
   ·refine (aF _ _ _ _ _ (Ne.symm Ub)).trans ((aF _ _ _ _ _ (Ne.symm a9)).trans ((aF _ _ _ _ _ (Ne.symm Ub)).trans ((aF _ _ _ _ _ (Ne.symm a9)).trans ?_)));exact hG.set _ v
   ·exact (((((Kp.refl _ _).setCell (p:=⟨G,off+pl,none⟩) (.inl (.inl rfl)) _).setCell (p:=⟨bp,0,none⟩) (.inl (.inr (.inl rfl))) _).setCell (p:=⟨bl,0,none⟩) (.inl (.inr (.inr rfl))) _).setCell (p:=⟨bp,0,none⟩) (.inl (.inr (.inl rfl))) _).setCell (p:=⟨bl,0,none⟩) (.inl (.inr (.inr rfl))) _
  have l0':w.cell? ⟨bl,0,none⟩=some (.int .i64 1):=l0;clear h hG l0 hq
  go_enter Tryz.func176,Tryz.ntmps176
  go_wp2
  go_end0
  exact⟨rfl,HQ.out⟩
 ·rw[if_neg h1,if_neg h1];obtain⟨l,rfl⟩:∃l,lf=l+2:=⟨lf-2,by omega⟩
  have e2:((l+2:Nat):Int)-1=((l+1:Nat):Int):=by omega
  have e3:(((l+1:Nat):Int)==0)=false:=by rw[beq_eq_false_iff_ne];omega
  have HQ:Hid (rS (((w.setCell ⟨G,off+pl,none⟩ (.int .i64 v)).setCell ⟨bp,0,none⟩ (.int .i64 ((pl:Int)+1))).setCell ⟨bl,0,none⟩ (.int .i64 ((l+1:Nat):Int))) bs bp bl bt bn (.slice (some ⟨G,off,none⟩) len cap) (pl+1) (l+1) st pt /\
    aP (((w.setCell ⟨G,off+pl,none⟩ (.int .i64 v)).setCell ⟨bp,0,none⟩ (.int .i64 ((pl:Int)+1))).setCell ⟨bl,0,none⟩ (.int .i64 ((l+1:Nat):Int))) G (out.set (off+pl) v) /\
    Kp (fun k=>k=G\/k=bp\/k=bl) w (((w.setCell ⟨G,off+pl,none⟩ (.int .i64 v)).setCell ⟨bp,0,none⟩ (.int .i64 ((pl:Int)+1))).setCell ⟨bl,0,none⟩ (.int .i64 ((l+1:Nat):Int)))):=by
   have f0:∀g,g≠G->g≠bp->g≠bl->(((w.setCell ⟨G,off+pl,none⟩ (.int .i64 v)).setCell ⟨bp,0,none⟩ (.int .i64 ((pl:Int)+1))).setCell ⟨bl,0,none⟩ (.int .i64 ((l+1:Nat):Int))).heap[g]?=w.heap[g]?:=fun g e1 e2 e3=>by
    rw[aF _ _ _ _ _ e3,aF _ _ _ _ _ e2,aF _ _ _ _ _ e1]
   refine⟨⟨(f0 bs a8 a2 a5).trans h.s,?_,?_,(f0 bt a11 a3 a6).trans h.t,(f0 bn a12 a4 a7).trans h.n⟩,?_,?_⟩
   ·refine (aF _ _ _ _ _ a1).trans ?_;exact one_set ((aF _ _ _ _ _ a9).trans h.p) _
   ·exact one_set ((aF _ _ _ _ _ (Ne.symm a1)).trans ((aF _ _ _ _ _ Ub).trans h.l)) _
   ·refine (aF _ _ _ _ _ (Ne.symm Ub)).trans ((aF _ _ _ _ _ (Ne.symm a9)).trans ?_);exact hG.set _ v
   ·exact (((Kp.refl _ _).setCell (p:=⟨G,off+pl,none⟩) (.inl (.inl rfl)) _).setCell (p:=⟨bp,0,none⟩) (.inl (.inr (.inl rfl))) _).setCell (p:=⟨bl,0,none⟩) (.inl (.inr (.inr rfl))) _
  clear h hG h1
  go_enter Tryz.func176,Tryz.ntmps176
  go_wp2
  go_end0
  have e5:(l:Int)+2-1=((l+1:Nat):Int):=by omega
  rw[e5];exact⟨rfl,HQ.out⟩
theorem N5:∀(x:Fin 256),bits .and .i64 ((x.val:Nat):Int) 1=((x.val%2:Nat):Int)/\bits .and .i64 ((x.val:Nat):Int) 3=((x.val%4:Nat):Int)/\bits .and .i64 ((x.val:Nat):Int) 15=((x.val%16:Nat):Int)/\bits .and .i64 ((x.val:Nat):Int) 255=((x.val%256:Nat):Int):=by decide +kernel
theorem pR (W ht n j:Nat)(kd dp:Int)(ps:Bool)(pv sv:Value)(p:Pm.Ps)(w:World)(hn:Pm.chan kd dp=(n:Int))(hW:W<=5000)(hj:j<=5000)(h0:p.c0<=8/\p.r0<=8/\p.rs<=8)(hn4:n<=4): Calls Tryz.prog 133 #[img W ht kd dp ps pv sv,.agg #[.int .i64 (p.c0:Nat),.int .i64 (p.r0:Nat),.int .i64 (p.cs:Nat),.int .i64 (p.rs:Nat),.int .i64 (p.C:Nat),.int .i64 (p.R:Nat)],.int .i64 (j:Nat)] w fun e w' =>
   e=.returned (.int .i64 ((Pm.dC p W n j:Nat):Int))/\Below w.heap.size w w':=by
 obtain⟨c0,r0,cs,rs,C,R⟩:=p;simp only at h0 ⊢;have a1:j*rs<=5000*8:=Nat.mul_le_mul hj h0.2.2;have a2:(r0+j*rs)*W<=40008*5000:=Nat.mul_le_mul (by omega) hW;have a3:((r0+j*rs)*W+c0)*n<=200040008*4:=Nat.mul_le_mul (by omega) hn4;have e1:(j:Int)*(rs:Int)=((j*rs:Nat):Int):=by push_cast;rfl
 obtain⟨A,hA⟩:∃A,A=j*rs:=⟨_,rfl⟩
 rw[<-hA]at a1 a2 a3 e1;have e2:((r0:Int)+(A:Int))*(W:Int)=(((r0+A)*W:Nat):Int):=by push_cast;rfl
 obtain⟨B,hB⟩:∃B,B=(r0+A)*W:=⟨_,rfl⟩
 rw[<-hB]at a2 a3 e2;have e3:((B:Int)+(c0:Int))*(n:Int)=(((B+c0)*n:Nat):Int):=by push_cast;rfl
 have HF:Hid (Pm.dC ⟨c0,r0,cs,rs,C,R⟩ W n j=(B+c0)*n):=by show _=_;unfold Pm.dC;rw[hB,hA]
 obtain⟨D,hD⟩:∃D,D=(B+c0)*n:=⟨_,rfl⟩
 rw[<-hD]at a3 e3 HF;have hch:=fun u=>lC kd dp u;rw[hn]at hch;clear hA hB hD
 go_enter Tryz.func133,Tryz.ntmps133
 go_wp2_with fail;refine (hch _).mono ?_;rintro e w' ⟨rfl,rfl⟩;go_wp2
 go_ret
 exact⟨aH (by rw[HF.out]),((Below.refl _ _).alloc (Nat.le_refl _) _).alloc (by simp) _⟩
theorem N6 (sv:Value)(pt st:Nat)(w:World)(hsv:∃a l c,sv=.slice (some a) l c): Calls Tryz.prog 132 #[sv,.int .i64 (pt:Nat),.int .i64 (st:Nat)] w fun e w'=>∃bp bl,e=.returned (N4 w.heap.size bp bl (w.heap.size+2) (w.heap.size+1)) /\ rS w' w.heap.size bp bl (w.heap.size+2) (w.heap.size+1) sv 0 pt st pt/\(bp=w.heap.size+3/\bl=w.heap.size+4\/bp=w.heap.size+4/\bl=w.heap.size+3)/\Below w.heap.size w w':=by
 obtain⟨a,l,c,rfl⟩:=hsv
 go_enter Tryz.func132,Tryz.ntmps132
 go_wp2
 go_region
 ·obtain⟨k0,q0,q1,q2,q3,q4⟩:=kH w (.cells #[.slice (some a) l c] 24) (.cells #[.int .i64 (pt:Nat)] 3) (.cells #[.int .i64 (st:Nat)] 3) (.cells #[.int .i64 0] 3) (.cells #[.int .i64 (pt:Nat)] 3);go_wp2
  go_ret
  exact⟨_,_,rfl,⟨q0,q3,q4,q2,q1⟩,.inl ⟨rfl,rfl⟩,k0.drew⟩
 ·obtain⟨k0,q0,q1,q2,q3,q4⟩:=kH w (.cells #[.slice (some a) l c] 24) (.cells #[.int .i64 (pt:Nat)] 3) (.cells #[.int .i64 (st:Nat)] 3) (.cells #[.int .i64 (pt:Nat)] 3) (.cells #[.int .i64 0] 3);go_wp2
  go_ret
  exact⟨_,_,rfl,⟨q0,q4,q3,q2,q1⟩,.inr ⟨rfl,rfl⟩,k0.drew⟩
theorem rS.drew {w:World}{bs bp bl bt bn:Nat}{sv:Value}{pl lf st pt:Nat}(h:rS w bs bp bl bt bn sv pl lf st pt):rS w.drew bs bp bl bt bn sv pl lf st pt:=⟨h.s,h.p,h.l,h.t,h.n⟩
structure yq (w:World) (bs bp bl bt bn G off len cap st n:Nat) (v:Nat->Int) (out:List Int) (k:Nat):Prop where
 put:rS w bs bp bl bt bn (.slice (some ⟨G,off,none⟩) len cap) (Pm.od n st k) (n-k%n) st n
 tQ:aP w G (Pm.rP off n st v out k)
theorem yq.next {w':World}{bs bp bl bt bn G off len cap st n:Nat}{v:Nat->Int}{out:List Int}{k:Nat}(hn:0<n)(hs:1<=st)(h1:rS w' bs bp bl bt bn (.slice (some ⟨G,off,none⟩) len cap) (if n-k%n=1 then Pm.od n st k+1+(st-1)*n else Pm.od n st k+1) (if n-k%n=1 then n else n-k%n-1) st n)(h2:aP w' G ((Pm.rP off n st v out k).set (off+Pm.od n st k) (v k))):yq w' bs bp bl bt bn G off len cap st n v out (k+1):=by
 have hm:=Nat.mod_lt k hn;refine⟨?_,h2⟩;by_cases h:n-k%n=1
 ·rw[if_pos h,if_pos h]at h1;rw[Pm.KA st hn (by omega) hs,(Pm.pO hn (show k%n+1=n by omega)).2];exact h1
 ·rw[if_neg h,if_neg h]at h1;rw[Pm.KC st hn (by omega),(Pm.pP hn (show k%n+1<n by omega)).2];exact h1
theorem N7 (bs bp bl bt bn G off len cap st n Rw nr count:Nat)(r out:List Int)(w:World)(hB:cq w Rw r)(hr:r.length=nr)(gr:∀j,0<=Pm.aj r j/\Pm.aj r j<256)(hp:yq w bs bp bl bt bn G off len cap st n (Pm.cR (Pm.aj r) 16) out 0)(ha:N3 bs bp bl bt bn G)(Bo:Rw≠G/\Rw≠bp/\Rw≠bl)(hn:1<=n/\n<=4)(hs:1<=st/\st<=8)(hin:∀k,k<count->2*k+1<nr/\Pm.od n st k<len/\off+Pm.od n st k<out.length)(hbig:out.length<=1000000000)(hnr:nr<=1000000)(hcn:count<=1000000): Calls Tryz.prog 134 #[.slice (some ⟨Rw,0,none⟩) nr nr,.int .i64 16,.int .i64 (count:Nat),N4 bs bp bl bt bn] w fun e w' =>
   e=.returned (.tuple #[])/\aP w' G (Pm.rP off n st (Pm.cR (Pm.aj r) 16) out count)/\Kp (fun k=>k=G\/k=bp\/k=bl) w w':=by
 have hcall:=AG;have tA:Hid (_):=hin;have HP:Hid (_):=hp;have HB:Hid (_):=hB;clear hin hp hB
 go_enter Tryz.func134,Tryz.ntmps134
 go_wp2
 go_loopw [12] (fun ix wr=>∃k:Nat,k<=count/\ix=.int .i64 k/\yq wr bs bp bl bt bn G off len cap st n (Pm.cR (Pm.aj r) 16) out k/\Kp (fun k=>k=G\/k=bp\/k=bl) w wr) (fun ix _=>count-(intOf ix).toNat)
 case atStart=>exact⟨0,Nat.zero_le _,rfl,HP.out,Kp.refl _ _⟩
 case round =>
  obtain⟨k,hk,rfl,hS,hkp⟩:=hrel;by_cases hlt:k<count
  ·have hlt':(k:Int)<(count:Int):=by omega
   obtain⟨i1,i2,i3⟩:=tA.out k hlt;have hBr:cq wr Rw r:=(hkp.block Rw (lt_of_block HB.out) (fun e=>by rcases e with e|e|e;exact Bo.1 e;exact Bo.2.1 e;exact Bo.2.2 e)).trans HB.out;have c1:=hBr.cell (2*k) (by omega);have c2:=hBr.cell (2*k+1) (by omega);have lw:=lt_of_block hBr;have g1:=gr (2*k);have g2:=gr (2*k+1);have hv:Pm.cR (Pm.aj r) 16 k=256*Pm.aj r (2*k)+Pm.aj r (2*k+1):=by rw[Pm.cR,if_pos rfl]
   have rx:=fun u (hPu:rS u bs bp bl bt bn (.slice (some ⟨G,off,none⟩) len cap) (Pm.od n st k) (n-k%n) st n) (hLu:aP u G (Pm.rP off n st (Pm.cR (Pm.aj r) 16) out k))=>PQ bs bp bl bt bn G off len cap (Pm.od n st k) (n-k%n) st n (Pm.cR (Pm.aj r) 16 k) _ u hPu ha hLu i2 (by rw[Pm.nh];exact i3) (by have:=Nat.mod_lt k (show 0<n by omega);omega) hs hn (by rw[Pm.nh];exact hbig) (by omega);have ma:=fun u h1 h2=>yq.next (w':=u) (k:=k) (cap:=cap) (out:=out) (v:=Pm.cR (Pm.aj r) 16) (bs:=bs) (bp:=bp) (bl:=bl) (bt:=bt) (bn:=bn) (G:=G) (off:=off) (len:=len) (show 0<n by omega) hs.1 h1 h2;generalize Pm.cR (Pm.aj r) 16 k=V at *;generalize Pm.aj r (2*k)=X at *;generalize Pm.aj r (2*k+1)=Y at *;have hSd:Hid (_):=hS;have Sp:Hid (_):=hkp;have Sq:Hid (_):=ma;obtain⟨k2,hk2⟩:∃k2,k2=2*k:=⟨_,rfl⟩
   rw[<-hk2]at c1 c2 i1;have ek:(2:Int)*(k:Int)=(k2:Int):=by omega
   have hkn:(k2:Int)+1<(nr:Int):=by omega
   have hkm:(k2:Int)<(nr:Int):=by omega
   have kp0:(0:Int)<=(k2:Int)+1:=by omega
   have wk2:IntKind.i64.wrap (k2:Int)=(k2:Int):=IntWalk.i64_in _ (by omega);have wk3:IntKind.i64.wrap ((k2:Int)+1)=(k2:Int)+1:=IntWalk.i64_in _ (by omega);clear hk2;have x1:IntKind.i64.wrap X=X:=IntWalk.i64_in _ (by omega);have x2:IntKind.i64.wrap Y=Y:=IntWalk.i64_in _ (by omega);have x3:IntKind.i64.wrap (X*256)=X*256:=IntWalk.i64_in _ (by omega)
   have o1:bits .or .i64 (X*256) Y=V:=by
    rw[kK (X*256) Y (X.toNat*256) Y.toNat 8 (by omega) (by omega) (by omega) (by omega) (by omega) (by omega),hv];omega
   clear ma hkp hS hBr gr hv;go_wp2;have hS:wr.drew.cell? ⟨Rw,k2,none⟩=some (.int .u8 X)/\wr.drew.cell? ⟨Rw,k2+1,none⟩=some (.int .u8 Y):=⟨c1,c2⟩
   refine ax (by kernel_rfl) (fun w'=>w'.cell? ⟨Rw,k2,none⟩=some (.int .u8 X)/\w'.cell? ⟨Rw,k2+1,none⟩=some (.int .u8 Y)) 99 ?_;refine ap [0,1,2,3,4,5,6,7,8,9,10,11,12,13,14,15] ?_
   iterate 16 (refine ay (v:=?_) (T:=?_) ?ht rfl rfl (by kernel_rfl) (fun _ _ _ h=>h) ?hy hS ?_;(case hy=>intro w hSw;(try dsimp only at hSw); go_simp;try with_reducible rfl);case ht=>go_simp;try with_reducible rfl)
   refine ai ?_;refine af (i:=16) (by kernel_rfl) rfl (fun K hK=>?_);go_simp;have hLd:aP wr.drew G _:=hSd.out.tQ;refine (rx wr.drew hSd.out.put.drew hLd).mono ?_;rintro e v1 ⟨rfl,n1,n2,n3⟩
   have hS1:v1.cell? ⟨Rw,k2,none⟩=some (.int .u8 X)/\v1.cell? ⟨Rw,k2+1,none⟩=some (.int .u8 Y):=by
    have hne:¬(Rw=G\/Rw=bp\/Rw=bl):=fun e=>by rcases e with e|e|e;exact Bo.1 e;exact Bo.2.1 e;exact Bo.2.2 e
    have Jm:=lw;exact⟨(n3.cell (p:=⟨Rw,k2,none⟩) Jm hne).trans c1,(n3.cell (p:=⟨Rw,k2+1,none⟩) Jm hne).trans c2⟩
   have HQ:Hid (_/\_):=⟨Sq.out v1 n1 n2,(Sp.out.drew).trans n3⟩
   refine hK _ _ (fun _=>hS1) ?_;clear hK K n1 n2 n3 hS1;refine ak (by kernel_rfl) ?_ _;go_wp2
   go_roundw
   case rel=>exact⟨k+1,by omega,by go_num,HQ.out.1,HQ.out.2⟩
   case measure=>simp[intOf];omega
  ·have hke:k=count:=by omega
   subst hke;have HR:Hid (_/\_):=⟨hS.tQ,hkp⟩
   clear hS hkp;go_wp2
   go_end0
   exact⟨rfl,HR.out⟩
theorem KV (D bh:Nat)(X:Int)(hD:D=1\/D=2\/D=4\/D=8)(hX:0<=X/\X<256):bits .and .i64 (X/2^bh) (IntKind.i64.wrap (IntKind.i64.wrap (2^D)-1))=X/2^bh%2^D:=by
 obtain⟨x,rfl⟩:=Int.eq_ofNat_of_zero_le hX.1;have e:((x:Int)/2^bh)=((x/2^bh:Nat):Int):=by push_cast;rfl
 have hy:x/2^bh<256:=Nat.lt_of_le_of_lt (Nat.div_le_self _ _) (by omega);rw[e];generalize x/2^bh=y at *;obtain⟨a1,a2,a3,a4⟩:=N5 ⟨y,hy⟩;simp only at a1 a2 a3 a4;rcases hD with rfl|rfl|rfl|rfl
 ·rw[show IntKind.i64.wrap (IntKind.i64.wrap (2^1)-1)=1 by decide +kernel,a1];omega
 ·rw[show IntKind.i64.wrap (IntKind.i64.wrap (2^2)-1)=3 by decide +kernel,a2];omega
 ·rw[show IntKind.i64.wrap (IntKind.i64.wrap (2^4)-1)=15 by decide +kernel,a3];omega
 ·rw[show IntKind.i64.wrap (IntKind.i64.wrap (2^8)-1)=255 by decide +kernel,a4];omega
theorem Sr (D:Nat)(hD:D=1\/D=2\/D=4\/D=8)(bs bp bl bt bn G off len cap st n Rw nr count:Nat)(r out:List Int)(w:World)(hB:cq w Rw r)(hr:r.length=nr)(gr:∀j,0<=Pm.aj r j/\Pm.aj r j<256)(hp:yq w bs bp bl bt bn G off len cap st n (Pm.cR (Pm.aj r) D) out 0)(ha:N3 bs bp bl bt bn G)(Bo:Rw≠G/\Rw≠bp/\Rw≠bl)(hn:1<=n/\n<=4)(hs:1<=st/\st<=8)(hin:∀k,k<count->k*D/8<nr/\Pm.od n st k<len/\off+Pm.od n st k<out.length)(hbig:out.length<=1000000000)(hnr:nr<=1000000)(hcn:count<=1000000): Calls Tryz.prog 134 #[.slice (some ⟨Rw,0,none⟩) nr nr,.int .i64 (D:Nat),.int .i64 (count:Nat),N4 bs bp bl bt bn] w fun e w' =>
   e=.returned (.tuple #[])/\aP w' G (Pm.rP off n st (Pm.cR (Pm.aj r) D) out count)/\Kp (fun k=>k=G\/k=bp\/k=bl) w w':=by
 have hcall:=AG;have tA:Hid (_):=hin;have HP:Hid (_):=hp;have HB:Hid (_):=hB;have PS:Hid (D=1\/D=2\/D=4\/D=8):=hD;have d16:((D:Int)==16)=false:=by rw[beq_eq_false_iff_ne];omega
 have d8:1<=D/\D<=8:=by omega
 clear hin hp hB hD
 go_enter Tryz.func134,Tryz.ntmps134
 go_wp2
 go_loopw [12] (fun ix wr=>∃k:Nat,k<=count/\ix=.int .i64 k/\yq wr bs bp bl bt bn G off len cap st n (Pm.cR (Pm.aj r) D) out k/\Kp (fun k=>k=G\/k=bp\/k=bl) w wr) (fun ix _=>count-(intOf ix).toNat)
 case atStart=>exact⟨0,Nat.zero_le _,rfl,HP.out,Kp.refl _ _⟩
 case round =>
  obtain⟨k,hk,rfl,hS,hkp⟩:=hrel;by_cases hlt:k<count
  ·have hlt':(k:Int)<(count:Int):=by omega
   obtain⟨i1,i2,i3⟩:=tA.out k hlt;have hBr:cq wr Rw r:=(hkp.block Rw (lt_of_block HB.out) (fun e=>by rcases e with e|e|e;exact Bo.1 e;exact Bo.2.1 e;exact Bo.2.2 e)).trans HB.out;have c1:=hBr.cell (k*D/8) (by omega);have lw:=lt_of_block hBr;have g1:=gr (k*D/8);have hv:Pm.cR (Pm.aj r) D k=Pm.aj r (k*D/8)/2^(8-k*D%8-D)%2^D:=by rw[Pm.cR,if_neg (by omega)]
   have rx:=fun u (hPu:rS u bs bp bl bt bn (.slice (some ⟨G,off,none⟩) len cap) (Pm.od n st k) (n-k%n) st n) (hLu:aP u G (Pm.rP off n st (Pm.cR (Pm.aj r) D) out k))=>PQ bs bp bl bt bn G off len cap (Pm.od n st k) (n-k%n) st n (Pm.cR (Pm.aj r) D k) _ u hPu ha hLu i2 (by rw[Pm.nh];exact i3) (by have:=Nat.mod_lt k (show 0<n by omega);omega) hs hn (by rw[Pm.nh];exact hbig) (by omega);have ma:=fun u h1 h2=>yq.next (w':=u) (k:=k) (cap:=cap) (out:=out) (v:=Pm.cR (Pm.aj r) D) (bs:=bs) (bp:=bp) (bl:=bl) (bt:=bt) (bn:=bn) (G:=G) (off:=off) (len:=len) (show 0<n by omega) hs.1 h1 h2;generalize Pm.cR (Pm.aj r) D k=V at *;generalize Pm.aj r (k*D/8)=X at *;have hSd:Hid (_):=hS;have Sp:Hid (_):=hkp;have Sq:Hid (_):=ma;obtain⟨f,hf⟩:∃f,f=k*D:=⟨_,rfl⟩
   rw[<-hf]at c1 i1 hv
   have hf8:f<=8000000:=by
    rw[hf];have:k*D<=1000000*8:=Nat.mul_le_mul (by omega) d8.2;omega
   have hfd:f%8+D<=8:=by
    rw[hf];rcases PS.out with rfl|rfl|rfl|rfl<;>omega
   have ek:(k:Int)*(D:Int)=(f:Int):=by rw[hf];push_cast;rfl
   have wf:IntKind.i64.wrap (f:Int)=(f:Int):=IntWalk.i64_in _ (by omega);obtain⟨q,hq⟩:∃q,q=f/8:=⟨_,rfl⟩
   rw[<-hq]at c1 i1;have eq8:(f:Int)/8=(q:Int):=by omega
   obtain⟨bh,Wk⟩:∃bh,bh=8-f%8-D:=⟨_,rfl⟩
   rw[<-Wk]at hv;have ebh:8-(f:Int)%8-(D:Int)=(bh:Int):=by omega
   have hqn:(q:Int)<(nr:Int):=by omega
   have x1:IntKind.i64.wrap X=X:=IntWalk.i64_in _ (by omega);have wq:IntKind.i64.wrap (q:Int)=(q:Int):=IntWalk.i64_in _ (by omega);have wb:IntKind.i64.wrap (bh:Int)=(bh:Int):=IntWalk.i64_in _ (by omega);have o1:bits .and .i64 (X/2^bh) (IntKind.i64.wrap (IntKind.i64.wrap (2^D)-1))=V:=by rw[hv];exact KV D bh X PS.out g1
   clear ma hkp hS hBr gr hv hf hq Wk;go_wp2;have hS:wr.drew.cell? ⟨Rw,q,none⟩=some (.int .u8 X):=c1;refine ax (by kernel_rfl) (fun w'=>w'.cell? ⟨Rw,q,none⟩=some (.int .u8 X)) 99 ?_;refine ap [0,1,2,3,4,5,6,7,8,9,10,11,12] ?_
   iterate 13 (refine ay (v:=?_) (T:=?_) ?ht rfl rfl (by kernel_rfl) (fun _ _ _ h=>h) ?hy hS ?_;(case hy=>intro w hSw;(try dsimp only at hSw); go_simp;try with_reducible rfl);case ht=>go_simp;try with_reducible rfl)
   refine ai ?_;refine af (i:=13) (by kernel_rfl) rfl (fun K hK=>?_);go_simp;have hLd:aP wr.drew G _:=hSd.out.tQ;refine (rx wr.drew hSd.out.put.drew hLd).mono ?_;rintro e v1 ⟨rfl,n1,n2,n3⟩
   have hS1:v1.cell? ⟨Rw,q,none⟩=some (.int .u8 X):=by
    have hne:¬(Rw=G\/Rw=bp\/Rw=bl):=fun e=>by rcases e with e|e|e;exact Bo.1 e;exact Bo.2.1 e;exact Bo.2.2 e
    exact (n3.cell (p:=⟨Rw,q,none⟩) lw hne).trans c1
   have HQ:Hid (_/\_):=⟨Sq.out v1 n1 n2,(Sp.out.drew).trans n3⟩
   refine hK _ _ (fun _=>hS1) ?_;clear hK K n1 n2 n3 hS1;refine ak (by kernel_rfl) ?_ _;go_wp2
   go_roundw
   case rel=>exact⟨k+1,by omega,by go_num,HQ.out.1,HQ.out.2⟩
   case measure=>simp[intOf];omega
  ·have hke:k=count:=by omega
   subst hke;have HR:Hid (_/\_):=⟨hS.tQ,hkp⟩
   clear hS hkp;go_wp2
   go_end0
   exact⟨rfl,HR.out⟩
abbrev KW (p:Pm.Ps):Value:=.agg #[.int .i64 (p.c0:Nat),.int .i64 (p.r0:Nat),.int .i64 (p.cs:Nat),.int .i64 (p.rs:Nat),.int .i64 (p.C:Nat),.int .i64 (p.R:Nat)]
theorem pS {w:World}{T:Nat}{a b c d e f:Value}{t:TypeId}(h:w.heap[T]?=some (.cells #[a,b,c,d,e,f] t (0,0))): w.cell? ⟨T,0,none⟩=some a/\w.cell? ⟨T,1,none⟩=some b/\w.cell? ⟨T,2,none⟩=some c/\w.cell? ⟨T,3,none⟩=some d/\w.cell? ⟨T,4,none⟩=some e/\w.cell? ⟨T,5,none⟩=some f/\T<w.heap.size :=
 ⟨cell_of_row _ _ _ _ _ _ h,cell_of_row _ _ _ _ _ _ h,cell_of_row _ _ _ _ _ _ h,cell_of_row _ _ _ _ _ _ h,cell_of_row _ _ _ _ _ _ h,cell_of_row _ _ _ _ _ _ h,lt_of_block h⟩
structure nQ (w:World) (M bS bN G N W H n:Nat) (kd:Int) (dp:Nat) (ps:Bool) (pv sv:Value):Prop where
 m:w.heap[M]?=some (.cells #[.int .i64 (W:Nat),.int .i64 (H:Nat),.int .i64 kd,.int .i64 (dp:Nat),.bool ps,pv,sv] 30 (0,0))
 s:bu w bS (.slice (some ⟨G,0,none⟩) N N) 24
 n:bu w bN (.int .i64 (n:Nat)) 3
structure Ss (M bS bN G Rw:Nat):Prop where
 gm:M≠G
 gs:bS≠G
 gn:bN≠G
 gr:Rw≠G
theorem nQ.kept {w w':World}{M bS bN G N W H n:Nat}{kd:Int}{dp:Nat}{ps:Bool}{pv sv:Value}(h:nQ w M bS bN G N W H n kd dp ps pv sv)(k:∀j,j=M\/j=bS\/j=bN->w'.heap[j]?=w.heap[j]?):nQ w' M bS bN G N W H n kd dp ps pv sv :=
 ⟨(k _ (.inl rfl)).trans h.m,(k _ (.inr (.inl rfl))).trans h.s,(k _ (.inr (.inr rfl))).trans h.n⟩
theorem nQ.below {w w':World}{M bS bN G N W H n:Nat}{kd:Int}{dp:Nat}{ps:Bool}{pv sv:Value}(h:nQ w M bS bN G N W H n kd dp ps pv sv)(k:Below w.heap.size w w'):nQ w' M bS bN G N W H n kd dp ps pv sv :=
 h.kept (fun j hj=>k.block j (by rcases hj with rfl|rfl|rfl;exact lt_of_block h.m;exact lt_of_block h.s;exact lt_of_block h.n))
theorem kj (kd:Int)(dp:Nat)(h:Pm.chan kd dp≠0):dp=1\/dp=2\/dp=4\/dp=8\/dp=16:=by
 unfold Pm.chan at h
 repeat' split at h
 all_goals omega
theorem Dc {u:World}{M bS bN G N W H n B0:Nat}{kd:Int}{dp:Nat}{ps:Bool}{pv sv a b c d e f:Value}(h:nQ u M bS bN G N W H n kd dp ps pv sv/\u.heap[B0]?=some (.cells #[a,b,c,d,e,f] 122 (0,0))): (u.cell? ⟨M,0,none⟩=some (.int .i64 (W:Nat))/\u.cell? ⟨M,1,none⟩=some (.int .i64 (H:Nat))/\u.cell? ⟨M,2,none⟩=some (.int .i64 kd)/\u.cell? ⟨M,3,none⟩=some (.int .i64 (dp:Nat))/\u.cell? ⟨M,4,none⟩=some (.bool ps)/\u.cell? ⟨M,5,none⟩=some pv/\u.cell? ⟨M,6,none⟩=some sv) /\ u.cell? ⟨bS,0,none⟩=some (.slice (some ⟨G,0,none⟩) N N)/\u.cell? ⟨bN,0,none⟩=some (.int .i64 (n:Nat)) /\ (u.cell? ⟨B0,0,none⟩=some a/\u.cell? ⟨B0,1,none⟩=some b/\u.cell? ⟨B0,2,none⟩=some c/\u.cell? ⟨B0,3,none⟩=some d/\u.cell? ⟨B0,4,none⟩=some e/\u.cell? ⟨B0,5,none⟩=some f):=by
 obtain⟨x0,x1,x2,x3,x4,x5,x6⟩:=aJ h.1.m;obtain⟨y0,y1,y2,y3,y4,y5,_⟩:=pS h.2;exact⟨⟨x0,x1,x2,x3,x4,x5,x6⟩,h.1.s.cell,h.1.n.cell,y0,y1,y2,y3,y4,y5⟩
theorem GT (W H n j dp:Nat)(kd:Int)(ps:Bool)(pv sv:Value)(p:Pm.Ps)(M bS bN G N Rw nr:Nat)(r out:List Int)(w:World)(hE:nQ w M bS bN G N W H n kd dp ps pv sv)(hap:Ss M bS bN G Rw)(hG:aP w G out)(hB:cq w Rw r)(hr:r.length=nr)(gr:∀j,0<=Pm.aj r j/\Pm.aj r j<256)(hnr:nr=Pm.rowLen p.C (n*dp))(hN:out.length=N)(hNe:N=W*H*n)(hin:p.In W H)(hj:j<p.R)(hch:Pm.chan kd dp=(n:Int))(hn:1<=n/\n<=4)(hW:W<=5000)(hH:H<=5000)(hps:p.c0<=8/\p.r0<=8/\p.rs<=8)(hcs:1<=p.cs/\p.cs<=8)(hC:1<=p.C/\p.C<=5000)(hR:p.R<=5000): Calls Tryz.prog 131 #[KW p,.int .i64 (j:Nat),.slice (some ⟨Rw,0,none⟩) nr nr,.pointer (some ⟨bS,0,none⟩),.pointer (some ⟨M,0,none⟩),.pointer (some ⟨bN,0,none⟩)] w fun e w' =>
   e=.returned (.tuple #[])/\aP w' G (Pm.oR p W n j (Pm.cR (Pm.aj r) dp) out (p.C*n))/\Kp (·=G) w w':=by
 have hfs:=fun u=>pR W H n j kd dp ps pv sv p u hch hW (by omega) hps hn.2
 have hidx:∀k,k<p.C*n->Pm.dC p W n j+Pm.od n p.cs k<N:=fun k hk=>by
  rw[<-Pm.sD,hNe];exact Pm.Ps.C3 hin hj hk
 have PF:Pm.dC p W n j<N:=by
  have:=hidx 0 (Nat.mul_pos hC.1 hn.1);omega
 have hNb:N<=100000000:=by
  rw[hNe];have:W*H*n<=5000*5000*4:=Nat.mul_le_mul (Nat.mul_le_mul hW hH) hn.2;omega
 have hput:=fun u=>N6 (.slice (some ⟨G,Pm.dC p W n j,none⟩) (N-Pm.dC p W n j) (N-Pm.dC p W n j)) n p.cs u ⟨_,_,_,rfl⟩;have HL:=Pm.KE p W n j (Pm.cR (Pm.aj r) dp) out (p.C*n);obtain⟨F,hF⟩:∃F,F=Pm.dC p W n j:=⟨_,rfl⟩
 rw[<-hF]at hfs hidx PF hput HL;have k0:=ae w (.cells #[.int .i64 (p.c0:Nat),.int .i64 (p.r0:Nat),.int .i64 (p.cs:Nat),.int .i64 (p.rs:Nat),.int .i64 (p.C:Nat),.int .i64 (p.R:Nat)] 122);have q0:=ah w (.cells #[.int .i64 (p.c0:Nat),.int .i64 (p.r0:Nat),.int .i64 (p.cs:Nat),.int .i64 (p.rs:Nat),.int .i64 (p.C:Nat),.int .i64 (p.R:Nat)] 122);have E0:=hE.below k0;have Uc:=lt_of_block hG;have RX:Hid (nr=Pm.rowLen p.C (n*dp)):=hnr;have HN:Hid (out.length=N):=hN;have Ud:=lt_of_block hB;clear hF hNe hN hnr
 go_enter Tryz.func131,Tryz.ntmps131
 go_wp2_with fail;have k1:=k0.drew;have q1:(w.alloc (.cells #[.int .i64 (p.c0:Nat),.int .i64 (p.r0:Nat),.int .i64 (p.cs:Nat),.int .i64 (p.rs:Nat),.int .i64 (p.C:Nat),.int .i64 (p.R:Nat)] 122)).drew.heap[w.heap.size]?=_:=q0;have E1:nQ (w.alloc (.cells #[.int .i64 (p.c0:Nat),.int .i64 (p.r0:Nat),.int .i64 (p.cs:Nat),.int .i64 (p.rs:Nat),.int .i64 (p.C:Nat),.int .i64 (p.R:Nat)] 122)).drew M bS bN G N W H n kd dp ps pv sv:=E0.kept (fun _ _=>rfl);have s1:(w.alloc (.cells #[.int .i64 (p.c0:Nat),.int .i64 (p.r0:Nat),.int .i64 (p.cs:Nat),.int .i64 (p.rs:Nat),.int .i64 (p.C:Nat),.int .i64 (p.R:Nat)] 122)).drew.heap.size=w.heap.size+1:=by simp
 refine ax (by kernel_rfl) (fun u=>nQ u M bS bN G N W H n kd dp ps pv sv/\u.heap[w.heap.size]?=some (.cells #[.int .i64 (p.c0:Nat),.int .i64 (p.r0:Nat),.int .i64 (p.cs:Nat),.int .i64 (p.rs:Nat),.int .i64 (p.C:Nat),.int .i64 (p.R:Nat)] 122 (0,0))) 99 ?_;generalize (w.alloc (.cells #[.int .i64 (p.c0:Nat),.int .i64 (p.r0:Nat),.int .i64 (p.cs:Nat),.int .i64 (p.rs:Nat),.int .i64 (p.C:Nat),.int .i64 (p.R:Nat)] 122)).drew=v0 at *;have hS:nQ v0 M bS bN G N W H n kd dp ps pv sv/\v0.heap[w.heap.size]?=some (.cells #[.int .i64 (p.c0:Nat),.int .i64 (p.r0:Nat),.int .i64 (p.cs:Nat),.int .i64 (p.rs:Nat),.int .i64 (p.C:Nat),.int .i64 (p.R:Nat)] 122 (0,0)):=⟨E1,q1⟩
 refine ap [0,1,2,3,6,7,8] ?_
 iterate 7 (refine ay (v:=?_) (T:=?_) ?ht rfl rfl (by kernel_rfl) (fun _ _ _ h=>h) ?hy hS ?_;(case hy=>intro w hSw;have vn := Dc hSw; go_simp;try with_reducible rfl);case ht=>go_simp;try with_reducible rfl)
 refine ai ?_;refine af (i:=4) (by kernel_rfl) rfl (fun K hK=>?_);go_simp;refine (hfs _).mono ?_;rintro e v1 ⟨rfl,b1⟩;have S1:nQ v1 M bS bN G N W H n kd dp ps pv sv/\v1.heap[w.heap.size]?=some (.cells #[.int .i64 (p.c0:Nat),.int .i64 (p.r0:Nat),.int .i64 (p.cs:Nat),.int .i64 (p.rs:Nat),.int .i64 (p.C:Nat),.int .i64 (p.R:Nat)] 122 (0,0)):=⟨E1.below b1,(b1.block _ (lt_of_block q1)).trans q1⟩
 refine hK _ _ (fun _=>S1) ?_;clear hK K;have hFN:(F:Int)<=(N:Int):=by omega
 have aaR:N≠F:=by omega
 have eFN:(N:Int)-(F:Int)=((N-F:Nat):Int):=by omega
 refine ap [5] ?_
 iterate 1 (refine ay (v:=?_) (T:=?_) ?ht rfl rfl (by kernel_rfl) (fun _ _ _ h=>h) ?hy S1 ?_;(case hy=>intro w hSw;have vn := Dc hSw; go_simp;try with_reducible rfl);case ht=>go_simp;try with_reducible rfl)
 refine ai ?_;refine af (i:=9) (by kernel_rfl) rfl (fun K hK=>?_);go_simp;refine (hput _).mono ?_;rintro e v2 ⟨bp,bl,rfl,hP2,hbb,b2⟩;have S2:nQ v2 M bS bN G N W H n kd dp ps pv sv/\v2.heap[w.heap.size]?=some (.cells #[.int .i64 (p.c0:Nat),.int .i64 (p.r0:Nat),.int .i64 (p.cs:Nat),.int .i64 (p.rs:Nat),.int .i64 (p.C:Nat),.int .i64 (p.R:Nat)] 122 (0,0)):=⟨S1.1.below b2,(b2.block _ (lt_of_block S1.2)).trans S1.2⟩
 refine hK _ _ (fun _=>S2) ?_;clear hK K;refine ap [10] ?_
 iterate 1 (refine ay (v:=?_) (T:=?_) ?ht rfl rfl (by kernel_rfl) (fun _ _ _ h=>h) ?hy S2 ?_;(case hy=>intro w hSw;(try dsimp only at hSw); go_simp;try with_reducible rfl);case ht=>go_simp;try with_reducible rfl)
 refine ai ?_;refine ak (by kernel_rfl) ?_ _;have z1:=b1.size;have yr:Below w.heap.size w v1:=k1.trans (b1.mono (by omega));have Bp:Below w.heap.size w v2:=yr.trans (b2.mono (by omega));have hG2:aP v2 G out:=(Bp.block _ Uc).trans hG;have hB2:cq v2 Rw r:=(Bp.block _ Ud).trans hB
 have hPS:yq v2 v1.heap.size bp bl (v1.heap.size+2) (v1.heap.size+1) G F (N-F) (N-F) p.cs n (Pm.cR (Pm.aj r) dp) out 0:=by
  refine⟨?_,hG2⟩;rw[show Pm.od n p.cs 0=0 by unfold Pm.od;simp,show n-0%n=n by simp];exact hP2
 have hPA:N3 v1.heap.size bp bl (v1.heap.size+2) (v1.heap.size+1) G:=by
  constructor<;>omega
 have Bo:Rw≠G/\Rw≠bp/\Rw≠bl:=⟨hap.gr,by omega,by omega⟩
 have Wl:nr<=1000000:=by
  rw[RX.out];unfold Pm.rowLen;have zm:dp<=16:=by rcases kj kd dp (by rw[hch];omega) with h|h|h|h|h<;>omega
  have h1:n*dp<=4*16:=Nat.mul_le_mul hn.2 zm;have h2:p.C*(n*dp)<=5000*64:=Nat.mul_le_mul hC.2 h1;omega
 have hcnt:p.C*n<=5000*4:=Nat.mul_le_mul hC.2 hn.2
 have hes:Calls Tryz.prog 134 #[.slice (some ⟨Rw,0,none⟩) nr nr,.int .i64 (dp:Nat),.int .i64 ((p.C*n:Nat):Int),N4 v1.heap.size bp bl (v1.heap.size+2) (v1.heap.size+1)] v2 fun e w' =>
   e=.returned (.tuple #[])/\aP w' G (Pm.rP F n p.cs (Pm.cR (Pm.aj r) dp) out (p.C*n))/\Kp (fun k=>k=G\/k=bp\/k=bl) v2 w':=by
  have hdp:=kj kd dp (by rw[hch];omega);have hsi:=fun k hk=>Pm.yi p.C n dp k hdp hk;by_cases h16:dp=16
  ·subst h16;refine N7 _ _ _ _ _ G F (N-F) (N-F) p.cs n Rw nr (p.C*n) r out v2 hB2 hr gr hPS hPA Bo hn hcs (fun k hk=>⟨?_,?_,?_⟩) (by have:=HN.out;omega) Wl (by omega)
   ·rw[RX.out];exact (hsi k hk).1 rfl
   ·have:=hidx k hk;have:=HN.out;omega
   ·have:=hidx k hk;have:=HN.out;omega
  ·refine Sr dp (by omega) _ _ _ _ _ G F (N-F) (N-F) p.cs n Rw nr (p.C*n) r out v2 hB2 hr gr hPS hPA Bo hn hcs (fun k hk=>⟨?_,?_,?_⟩) (by have:=HN.out;omega) Wl (by omega)
   ·rw[RX.out];exact (hsi k hk).2 h16
   ·have:=hidx k hk;have:=HN.out;omega
   ·have:=hidx k hk;have:=HN.out;omega
 have ecn:(p.C:Int)*(n:Int)=((p.C*n:Nat):Int):=by push_cast;rfl
 obtain⟨cn,hcn⟩:∃cn,cn=p.C*n:=⟨_,rfl⟩
 rw[<-hcn]at hes ecn hcnt;have wcn:IntKind.i64.wrap (cn:Int)=(cn:Int):=IntWalk.i64_in _ (by omega);have HCN:Hid (cn=p.C*n):=hcn;clear hcn;have HKW:Hid (Below w.heap.size w v2):=Bp;obtain⟨⟨x0,x1,x2,x3,x4,x5,x6⟩,x7,x8,y0,y1,y2,y3,y4,y5⟩:=Dc S2;have ZM:Hid (_):=HL;clear hPS hPA hB2 hG2 yr Bp S1 S2 hidx HL hput hfs hB hG hE hin E0 E1 k0 k1 q0 q1 hP2 b1 b2;go_wp2_with fail;refine hes.mono ?_;rintro e v3 ⟨rfl,l3,Bn⟩;go_wp2
 go_end0
 refine⟨rfl,?_,?_⟩
 ·rw[ZM.out,<-HCN.out];exact l3
 ·exact (Kp.aG HKW.out).then Bn (fun i hi e=>by rcases e with e|e|e;exact e;omega;omega)
theorem Wm:(Tryz.prog.info? 5).map (·.size)=some 1:=by kernel_rfl
theorem yt (n:Nat)(hn:n<=1000000000)(Z:List Value)(hZ:Z=List.replicate n (.int .u8 0))(u:World): (Instr.makeSlice 107 (.int .i64 (n:Int)) (.int .i64 (n:Int))).run Tryz.prog u=.ok (.slice (some ⟨u.heap.size,0,none⟩) n n) (u.alloc (.cells Z.toArray 5)):=by
 obtain⟨i0,hi,hz0,hz1,hz2⟩:=info_parts Tryz.info5;have h:=run_make (P:=Tryz.prog) u 107 5 i0 (.int .u8 0) Tryz.underlying107 hi hz0 .i64 .i64 (n:Int) (n:Int) (by omega) (Int.le_refl _) (by rw[hz2];omega) (by omega)
 have e2:(madeCells #[Value.int .u8 0] n)=Z.toArray:=by
  rw[hZ,<-toList_madeCells_one]
 simpa[hz1,Value.cells,e2]using h
theorem vo {P:Program}(w:World)(dT sT ty elem:TypeId)(g n dCap:Nat)(s:ByteArray)(cur:List Value)(t:TypeId)(hu:P.underlying dT=some (.slice elem))(hs:(P.info? elem).map (·.size)=some 1)(hg:w.heap[g]?=some (.cells cur.toArray t (0,0)))(hle:n<=s.size)(hcur:cur.length=n): (Builtin.copy_ #[dT,sT] ty #[.slice (some ⟨g,0,none⟩) n dCap,.string s]).run P w=.ok (goInt n) (w.setRow g ((s.data.toList.take n).map fun b:UInt8=>Value.int IntKind.u8 (b.toNat:Int)).toArray):=by
 have hlen:((s.data.toList.take n).map fun b:UInt8=>Value.int IntKind.u8 (b.toNat:Int)).length=n:=by
  rw[List.length_map,List.length_take];have:s.data.toList.length=s.size:=rfl;omega
 have hst:=run_storeCells_at P g 0 t ((s.data.toList.take n).map fun b:UInt8=>Value.int IntKind.u8 (b.toNat:Int)) 0 cur.toArray w hg (by rw[hlen];simp[hcur]) (fun v hv=>by
  rw[List.mem_map]at hv;obtain⟨b,_,rfl⟩:=hv
  rfl)
 have hmin:Nat.min s.size n=n:=Nat.min_eq_right hle;rw[hlen]at hst;simp only[Nat.add_zero,List.take_zero,List.nil_append,List.drop_of_length_le (Nat.le_of_eq hcur),List.append_nil,Nat.zero_add]at hst;cases hq:P.info? elem with
 | none=>simp[hq]at hs
 | some i =>
  simp[Builtin.copy_,run_underlying hu,Builtin.lenOf,Builtin.firstCells,sizeOf,typeInfo,hq,hmin];rw[<-List.map_take,hst];simp[Result.andThen]
theorem Kp.setRow {S:Nat->Prop}{a w:World}(h:Kp S a w){g:Nat}(hg:S g\/a.heap.size<=g)(cs:Array Value):Kp S a (w.setRow g cs) :=
 ⟨h.os,h.tape,h.output,by have:=h.size;simpa[World.setRow]using this,fun k hk hs=>(setRow_other w g k cs (fun e=>by
  subst e;rcases hg with hg|hg
  ·exact hs hg
  ·omega)).trans (h.block k hk hs)⟩
theorem Dd (s:ByteArray)(n:Nat)(h:n<=s.size):((s.data.toList.take n).map fun b:UInt8=>Value.int IntKind.u8 (b.toNat:Int))=cK ((List.range n).map fun i=>(ag s i:Int)):=by
 have hl:s.data.toList.length=s.size:=rfl;refine List.ext_getElem (by simp[cK];omega) fun j h1 h2=>?_;simp only[List.length_map,List.length_take]at h1;simp only[cK,List.getElem_map,List.getElem_take,List.getElem_range];unfold ag;rw[List.getD_eq_getElem?_getD,List.getElem?_eq_getElem (by omega)];rfl
theorem KX {P F:Nat->Nat->World->Prop}{G:Prop}(h1:(∀a b u,F a b u->P a b u)->G)(h2:∀a b u,F a b u->P a b u):G:=h1 h2
theorem KY (args:Array Value)(w:World):(callFunc 131 args).run Tryz.prog w=.ok (.enter 131 args) w:=by kernel_rfl
abbrev N8 (M bS bN:Nat):Value:=.func (.func 131) #[] #[.pointer (some ⟨bS,0,none⟩),.pointer (some ⟨M,0,none⟩),.pointer (some ⟨bN,0,none⟩)]
abbrev aE (W H:Nat)(kd:Int)(dp:Nat)(ps:Bool)(pv sv:Value):Array Value:=#[.int .i64 (W:Nat),.int .i64 (H:Nat),.int .i64 kd,.int .i64 (dp:Nat),.bool ps,pv,sv]
structure ny (w:World) (E bL bD M bS bN G N W H n:Nat) (kd:Int) (dp:Nat) (ps:Bool) (pv sv:Value) (lead:Nat):Prop where
 m:w.heap[E]?=some (.cells (aE W H kd dp ps pv sv) 30 (0,0))
 l:bu w bL (.int .i64 (lead:Nat)) 3
 d:bu w bD (N8 M bS bN) 177
 s:nQ w M bS bN G N W H n kd dp ps pv sv
structure uE (E bR bL bD M bS bN G:Nat):Prop where
 g:E≠G/\bR≠G/\bL≠G/\bD≠G/\M≠G/\bS≠G/\bN≠G
 r:E≠bR/\bL≠bR/\bD≠bR/\M≠bR/\bS≠bR/\bN≠bR
theorem ny.kept {w w':World}{E bL bD M bS bN G N W H n:Nat}{kd:Int}{dp:Nat}{ps:Bool}{pv sv:Value}{lead:Nat}(h:ny w E bL bD M bS bN G N W H n kd dp ps pv sv lead)(k:∀j,j=E\/j=bL\/j=bD\/j=M\/j=bS\/j=bN->w'.heap[j]?=w.heap[j]?):ny w' E bL bD M bS bN G N W H n kd dp ps pv sv lead :=
 ⟨(k _ (.inl rfl)).trans h.m,(k _ (.inr (.inl rfl))).trans h.l,(k _ (.inr (.inr (.inl rfl)))).trans h.d,h.s.kept (fun j hj=>k j (.inr (.inr (.inr hj))))⟩
theorem ny.lt {w:World}{E bL bD M bS bN G N W H n:Nat}{kd:Int}{dp:Nat}{ps:Bool}{pv sv:Value}{lead:Nat}(h:ny w E bL bD M bS bN G N W H n kd dp ps pv sv lead)(j:Nat)(hj:j=E\/j=bL\/j=bD\/j=M\/j=bS\/j=bN):j<w.heap.size:=by
 rcases hj with rfl|rfl|rfl|rfl|rfl|rfl
 ·exact lt_of_block h.m
 ·exact lt_of_block h.l
 ·exact lt_of_block h.d
 ·exact lt_of_block h.s.m
 ·exact lt_of_block h.s.s
 ·exact lt_of_block h.s.n
theorem ny.kp {w w':World}{E bR bL bD M bS bN G N W H n:Nat}{kd:Int}{dp:Nat}{ps:Bool}{pv sv:Value}{lead:Nat}(h:ny w E bL bD M bS bN G N W H n kd dp ps pv sv lead)(ha:uE E bR bL bD M bS bN G)(k:Kp (fun k=>k=G\/k=bR) w w'):ny w' E bL bD M bS bN G N W H n kd dp ps pv sv lead:=by
 obtain⟨⟨g1,g2,g3,g4,g5,g6,g7⟩,r1,r2,r3,r4,r5,r6⟩:=ha;refine h.kept (fun j hj=>k.block j (h.lt j hj) (fun e=>?_));rcases hj with rfl|rfl|rfl|rfl|rfl|rfl<;>rcases e with e|e<;>contradiction
theorem ny.below {w w':World}{E bL bD M bS bN G N W H n:Nat}{kd:Int}{dp:Nat}{ps:Bool}{pv sv:Value}{lead:Nat}(h:ny w E bL bD M bS bN G N W H n kd dp ps pv sv lead)(k:Below w.heap.size w w'):ny w' E bL bD M bS bN G N W H n kd dp ps pv sv lead :=
 h.kept (fun j hj=>k.block j (h.lt j hj))
structure RInv (w wr:World) (m:Pm.cZ) (T:ByteArray) (p:Pm.Ps) (o G bR ra aa size j:Nat) (out:List Int) (s:Pm.RS):Prop where
 at_:Pm.ft m (ag T) p o out j=some s
 tQ:aP wr G s.out
 raw:bu wr bR (.string (T.extract (o+j*(1+size)) T.size)) 9
 ab:∃al,cq wr aa al/\al.length=size/\Pm.aj al=s.above
 ro:∃rl,cq wr ra rl/\rl.length=size
 kp:Kp (fun k=>k=G\/k=bR) w wr
 fresh:w.heap.size<ra/\w.heap.size<aa/\ra≠aa
 pa:wr.heap[w.heap.size]?=some (.cells #[.int .i64 (p.c0:Nat),.int .i64 (p.r0:Nat),.int .i64 (p.cs:Nat),.int .i64 (p.rs:Nat),.int .i64 (p.C:Nat),.int .i64 (p.R:Nat)] 122 (0,0))
inductive EV (m:Pm.cZ) (T:ByteArray) (p:Pm.Ps) (o G bR:Nat) (out:List Int) (w:World):Ending->World->Prop
 | no {w'}:Pm.ft m (ag T) p o out p.R=none->Kp (fun k=>k=G\/k=bR) w w'->EV m T p o G bR out w (dies 15) w'
 | ok {w' s}:Pm.ft m (ag T) p o out p.R=some s->aP w' G s.out->bu w' bR (.string (T.extract (o+p.R*(1+Pm.rowLen p.C m.bits)) T.size)) 9->Kp (fun k=>k=G\/k=bR) w w'->EV m T p o G bR out w (.returned (.tuple #[])) w'
theorem De (n:Nat):Pm.aj (List.replicate n (0:Int))=fun _=>0:=by
 funext i
 unfold Pm.aj;rw[List.getD_eq_getElem?_getD,List.getElem?_replicate];split<;>rfl
theorem rF (T:ByteArray)(q i:Nat)(h:q+i<T.size):ag (T.extract q T.size) i=ag T (q+i):=bG T q T.size i h (Nat.le_refl _)
theorem tail_size (T:ByteArray)(q:Nat):(T.extract q T.size).size=T.size-q:=by rw[ByteArray.size_extract];omega
theorem wM (T:ByteArray)(q d:Nat)(_h:q+d<=T.size):(T.extract q T.size).extract d (T.extract q T.size).size=T.extract (q+d) T.size:=by
 rw[tail_size,ByteArray.extract_extract]
 congr 1
 omega
theorem KZ (T:ByteArray)(q size ra:Nat)(rl:List Int)(wr:World)(hq:q+1+size<=T.size)(hB:cq wr ra rl)(hl:rl.length=size): ∃v1,(Builtin.copy_ #[107,9] 3 #[.slice (some ⟨ra,0,none⟩) size size,.string ((T.extract q T.size).extract 1 (T.extract q T.size).size)]).run Tryz.prog wr=.ok (goInt size) v1 /\ cq v1 ra ((List.range size).map fun i=>((ag T (q+1+i):Nat):Int))/\Kp (·=ra) wr v1:=by
 rw[wM T q 1 (by omega)];have hsz:=tail_size T (q+1);refine⟨_,vo (P:=Tryz.prog) wr 107 9 3 5 ra size size (T.extract (q+1) T.size) (cK rl) 5 Tryz.underlying107 Wm hB (by omega) (by simp[cK,hl]),?_,Kp.setRow (S:=(·=ra)) (Kp.refl _ _) (.inl rfl) _⟩;refine (setRow_heap wr ra _ _ 5 (0,0) hB).trans ?_;rw[Dd _ _ (by omega)]
 have e:(List.range size).map (fun i=>(ag (T.extract (q+1) T.size) i:Int))=(List.range size).map fun i=>((ag T (q+1+i):Nat):Int):=by
  refine List.map_congr_left fun i hi=>?_;rw[List.mem_range]at hi;rw[rF _ _ _ (by omega)]
 rw[e]
theorem uF (W H n dp:Nat)(hn:1<=n/\n<=4)(hdp:dp=1\/dp=2\/dp=4\/dp=8\/dp=16):1<=Pm.cZ.lead ⟨W,H,n,dp⟩/\Pm.cZ.lead ⟨W,H,n,dp⟩<=8:=by
 unfold Pm.cZ.lead Pm.cZ.bits;dsimp only;have h1:n*dp<=4*16:=Nat.mul_le_mul hn.2 (by omega);have h2:1*1<=n*dp:=Nat.mul_le_mul hn.1 (by omega);omega
theorem PT (W H n dp:Nat)(kd:Int)(ps:Bool)(pv sv:Value)(T:ByteArray)(p:Pm.Ps)(E bR bL bD M bS bN G N o:Nat)(out:List Int)(w:World)(hE:ny w E bL bD M bS bN G N W H n kd dp ps pv sv (Pm.cZ.lead ⟨W,H,n,dp⟩))(hap:uE E bR bL bD M bS bN G)(hG:aP w G out)(hraw:bu w bR (.string (T.extract o T.size)) 9)(hin:p.In W H)(hol:o+Pm.cM ⟨W,H,n,dp⟩ p<=T.size)(_hT:T.size<=5000000)(hN:out.length=N)(hNe:N=W*H*n)(hpos:∀y∈out,0<=y)(hch:Pm.chan kd dp=(n:Int))(hn:1<=n/\n<=4)(hW:W<=5000)(hH:H<=5000)(hps:p.c0<=8/\p.r0<=8/\p.rs<=8)(hcs:1<=p.cs/\p.cs<=8)(hC:1<=p.C/\p.C<=5000)(hR:p.R<=5000): Calls Tryz.prog 174 #[KW p,.pointer (some ⟨E,0,none⟩),.pointer (some ⟨bR,0,none⟩),.pointer (some ⟨bL,0,none⟩),.pointer (some ⟨bD,0,none⟩)] w fun e w'=>EV ⟨W,H,n,dp⟩ T p o G bR out w e w':=by
 have hdp:=kj kd dp (by rw[hch];omega);obtain⟨lead,hlead⟩:∃l,l=Pm.cZ.lead ⟨W,H,n,dp⟩:=⟨_,rfl⟩
 rw[<-hlead]at hE;have hld:1<=lead/\lead<=8:=by rw[hlead];exact uF W H n dp hn hdp
 have Ue:Hid (lead=Pm.cZ.lead ⟨W,H,n,dp⟩):=hlead;clear hlead;have hcall:=KY;have hrb:=fun u=>uy W H kd dp ps pv sv (p.c0:Nat) (p.r0:Nat) (p.cs:Nat) (p.rs:Nat) (p.C:Nat) (p.R:Nat) u (by omega) (by rw[hch];omega)
 have Sv:(((p.C:Nat):Int)*(Pm.chan kd dp*(dp:Int))+7)/8=((Pm.rowLen p.C (n*dp):Nat):Int):=by
  rw[hch];unfold Pm.rowLen;push_cast;rfl
 rw[Sv]at hrb;have zm:dp<=16:=by rcases hdp with h|h|h|h|h<;>omega
 have hsz:Pm.rowLen p.C (n*dp)<=1000000:=by
  unfold Pm.rowLen;have h1:n*dp<=4*16:=Nat.mul_le_mul hn.2 zm;have h2:p.C*(n*dp)<=5000*64:=Nat.mul_le_mul hC.2 h1;omega
 have Wn:Hid (∃size,size=Pm.rowLen p.C (n*dp)):=⟨_,rfl⟩
 obtain⟨size,hsize⟩:=Wn.out;rw[<-hsize]at hrb hsz;have sZ:Hid (size=Pm.rowLen p.C (n*dp)):=hsize;obtain⟨Z,hZ⟩:∃Z:List Value,Z=List.replicate size (.int .u8 0):=⟨_,rfl⟩
 have hmk:=fun u=>yt size (by omega) Z hZ u;have HZ:Hid (Z=cK (List.replicate size 0)):=by show _=_;rw[hZ];simp[cK]
 have k0:=ae w (.cells #[.int .i64 (p.c0:Nat),.int .i64 (p.r0:Nat),.int .i64 (p.cs:Nat),.int .i64 (p.rs:Nat),.int .i64 (p.C:Nat),.int .i64 (p.R:Nat)] 122);have q0:=ah w (.cells #[.int .i64 (p.c0:Nat),.int .i64 (p.r0:Nat),.int .i64 (p.cs:Nat),.int .i64 (p.rs:Nat),.int .i64 (p.C:Nat),.int .i64 (p.R:Nat)] 122);have E0:=hE.below k0;have z0:=aJ E0.m;have K0:Hid (_/\_/\_/\_):=⟨hE,hG,hraw,q0⟩
 have tA:Hid (_/\_/\_/\_/\_):=⟨hin,hol,hN,hNe,hpos⟩
 clear hsize hZ Wn hE hG hraw q0 E0 hin hol hN hNe hpos Sv
 go_enter Tryz.func174,Tryz.ntmps174
 go_wp2_with fail;refine (hrb _).mono ?_;rintro e w1 ⟨rfl,b1⟩;go_wp2_with fail;have yr:Below w.heap.size w w1:=k0.trans (b1.mono (by simp));have q1:=(b1.block _ (by simp)).trans K0.out.2.2.2;have hlt1:=lt_of_block q1;have xx:Hid (_/\_):=⟨yr,q1⟩
 clear yr q1 b1 k0 z0 hrb;apply KX (F:=fun A B u=>Below w.heap.size w u/\u.heap[w.heap.size]?=some (.cells #[.int .i64 (p.c0:Nat),.int .i64 (p.r0:Nat),.int .i64 (p.cs:Nat),.int .i64 (p.rs:Nat),.int .i64 (p.C:Nat),.int .i64 (p.R:Nat)] 122 (0,0))/\cq u A (List.replicate size 0)/\cq u B (List.replicate size 0)/\w.heap.size<A/\w.heap.size<B/\A≠B)
 ·intro rest;obtain⟨kk,y0,y1⟩:=bJ w1 (.cells Z.toArray 5) (.cells Z.toArray 5);have Ns:Hid (Below w1.heap.size w1 _/\_/\_):=⟨kk,y0,y1⟩
  clear kk y0 y1
  go_region
  ·have hF:Below w.heap.size w ((w1.alloc (.cells Z.toArray 5)).alloc (.cells Z.toArray 5)).drew/\((w1.alloc (.cells Z.toArray 5)).alloc (.cells Z.toArray 5)).drew.heap[w.heap.size]?=some (.cells #[.int .i64 (p.c0:Nat),.int .i64 (p.r0:Nat),.int .i64 (p.cs:Nat),.int .i64 (p.rs:Nat),.int .i64 (p.C:Nat),.int .i64 (p.R:Nat)] 122 (0,0))/\cq ((w1.alloc (.cells Z.toArray 5)).alloc (.cells Z.toArray 5)).drew w1.heap.size (List.replicate size 0)/\cq ((w1.alloc (.cells Z.toArray 5)).alloc (.cells Z.toArray 5)).drew (w1.heap.size+1) (List.replicate size 0)/\w.heap.size<w1.heap.size/\w.heap.size<w1.heap.size+1/\w1.heap.size≠w1.heap.size+1:=by
    obtain⟨kk,y0,y1⟩:=Ns.out;rw[HZ.out]at y0 y1 kk ⊢;exact⟨(xx.out.1.trans (kk.mono (by omega))).drew,(kk.block _ hlt1).trans xx.out.2,y0,y1,by omega,by omega,by omega⟩
   revert hF;generalize World.drew _=u;generalize w1.heap.size+1=A2;generalize w1.heap.size=A1;intro hF;have r:=rest A1 A2 u hF;exact r
  ·have hF:Below w.heap.size w ((w1.alloc (.cells Z.toArray 5)).alloc (.cells Z.toArray 5)).drew/\((w1.alloc (.cells Z.toArray 5)).alloc (.cells Z.toArray 5)).drew.heap[w.heap.size]?=some (.cells #[.int .i64 (p.c0:Nat),.int .i64 (p.r0:Nat),.int .i64 (p.cs:Nat),.int .i64 (p.rs:Nat),.int .i64 (p.C:Nat),.int .i64 (p.R:Nat)] 122 (0,0))/\cq ((w1.alloc (.cells Z.toArray 5)).alloc (.cells Z.toArray 5)).drew (w1.heap.size+1) (List.replicate size 0)/\cq ((w1.alloc (.cells Z.toArray 5)).alloc (.cells Z.toArray 5)).drew w1.heap.size (List.replicate size 0)/\w.heap.size<w1.heap.size+1/\w.heap.size<w1.heap.size/\w1.heap.size+1≠w1.heap.size:=by
    obtain⟨kk,y0,y1⟩:=Ns.out;rw[HZ.out]at y0 y1 kk ⊢;exact⟨(xx.out.1.trans (kk.mono (by omega))).drew,(kk.block _ hlt1).trans xx.out.2,y1,y0,by omega,by omega,by omega⟩
   revert hF;generalize World.drew _=u;generalize w1.heap.size+1=A2;generalize w1.heap.size=A1;intro hF;have r:=rest A2 A1 u hF;exact r
 ·intro A1 A2 u hu;clear xx hlt1 hmk HZ;obtain⟨ku,pu,u1,u2,l1,l2,YI⟩:=hu;obtain⟨x0,x1,x2,x3,x4,x5,xl⟩:=pS pu;have HKU:Hid (_/\_/\_/\_):=⟨ku,pu,u1,u2⟩
  clear ku pu u1 u2;go_wp2
  go_loopw [7,8,20] (fun rv av ix wr=>∃(j ra aa:Nat) (s:Pm.RS),j<=p.R/\ix=.int .i64 j/\rv=.slice (some ⟨ra,0,none⟩) size size/\av=.slice (some ⟨aa,0,none⟩) size size/\Hid (RInv w wr ⟨W,H,n,dp⟩ T p o G bR ra aa size j out s)) (fun _ _ ix _=>p.R-(intOf ix).toNat)
  case atStart =>
   refine⟨0,A1,A2,⟨fun _=>0,out⟩,Nat.zero_le _,rfl,rfl,rfl,?_⟩;obtain⟨ku,pu,u1,u2⟩:=HKU.out;obtain⟨hE,hG,hraw,_⟩:=K0.out;exact⟨rfl,(ku.block _ (lt_of_block hG)).trans hG,(ku.block _ (lt_of_block hraw)).trans (by rw[Nat.zero_mul,Nat.add_zero];exact hraw),⟨_,u2,by simp,De size⟩,⟨_,u1,by simp⟩,Kp.aG ku,⟨l1,l2,YI⟩,pu⟩
  case round =>
   obtain⟨j,ra,aa,s,hj,rfl,rfl,rfl,HI⟩:=hrel;by_cases hlt:j<p.R
   ·have hlt':(j:Int)<(p.R:Int):=by omega
    obtain⟨hin,hol,hN,hNe,hpos⟩:=tA.out;have hat:=HI.out.at_;have uG:=Pm.lr _ _ _ _ _ hpos _ _ hat;obtain⟨al,hBa,hal,hga⟩:=HI.out.ab;obtain⟨rl,hBr,hrl⟩:=HI.out.ro;have hkp:=HI.out.kp;have hraw:=HI.out.raw;have GU:=HI.out.tQ;obtain⟨f1,f2,f3⟩:=HI.out.fresh;have hEr:=K0.out.1.kp hap hkp;have hri:=Pm.row_in ⟨W,H,n,dp⟩ p o j hlt hol;have hmb:Pm.rowLen p.C (Pm.cZ.bits ⟨W,H,n,dp⟩)=size:=sZ.out.symm;rw[hmb]at hri;obtain⟨q,hq⟩:∃q,q=o+j*(1+size):=⟨_,rfl⟩
    rw[<-hq]at hri hraw;have hgr:∀i,0<=Pm.aj al i/\Pm.aj al i<256:=fun i=>by rw[hga];exact uG.2.2 i
    have K8:Hid (∀u:World,∀l':List Int,4<ag T q->Pm.ft ⟨W,H,n,dp⟩ (ag T) p o out p.R=none):=fun _ _ h4=>by
     have h0:Pm.ft ⟨W,H,n,dp⟩ (ag T) p o out (j+1)=none:=by
      show (Pm.ft _ _ _ _ _ j).bind _=none;rw[hat];show Pm.jB _ _ _ _ _ _=none;unfold Pm.jB;rw[hmb,<-hq,if_pos h4]
     have:=Pm.uj _ _ _ _ _ (j+1) h0 (p.R-(j+1));rw[show j+1+(p.R-(j+1))=p.R by omega]at this;exact this
    have HGo:Hid (¬4<ag T q->Pm.ft ⟨W,H,n,dp⟩ (ag T) p o out (j+1)=some ⟨Pm.aj (Pm.m8 (ag T q) lead (Pm.aj al) (fun i=>((ag T (q+1+i):Nat):Int)) size),Pm.oR p W n j (Pm.cR (Pm.aj (Pm.m8 (ag T q) lead (Pm.aj al) (fun i=>((ag T (q+1+i):Nat):Int)) size)) dp) s.out (p.C*n)⟩):=fun h4=>by
     show (Pm.ft _ _ _ _ _ j).bind _=_;rw[hat];show Pm.jB _ _ _ _ _ _=_;unfold Pm.jB;rw[hmb,<-hq,if_neg h4,hga,<-Ue.out]
    obtain⟨R,hRr⟩:∃R,R=T.extract q T.size:=⟨_,rfl⟩
    have hRs:R.size=T.size-q:=by rw[hRr];exact tail_size T q
    have hf0:ag R 0=ag T q:=by rw[hRr,rF _ _ _ (by omega)];rfl
    have aaW:0<R.size:=by omega
    have g0:=dH R 0 aaW;have hR0:(0:Int)<(R.size:Int):=by omega
    have htk:=fun u=>uD (ag R 0) u;obtain⟨v1,hcp,hB1,kF⟩:=KZ T q size ra rl wr (by omega) hBr hrl;have htt:=wM T q (1+size) (by omega);rw[<-hRr]at hraw hcp htt;have wm:Hid (R.extract (1+size) R.size=T.extract (q+(1+size)) T.size):=htt;rw[hf0]at g0 htk;obtain⟨f,hf⟩:∃f,f=ag T q:=⟨_,rfl⟩
    rw[<-hf]at g0 htk K8 HGo;obtain⟨r0,rf,Qx⟩:=one_cell hraw;have HQQ:Hid (q+(1+size)=o+(j+1)*(1+size)):=by show _=_;rw[hq,Nat.succ_mul];omega
    have HW:Hid (_/\_/\_/\_/\_/\_/\_/\_):=⟨hBa,hB1,GU,hkp,kF,hEr,HI.out.pa,hraw⟩
    have HV:Hid (_/\_/\_/\_):=⟨hgr,hal,hin,And.intro (uG.1.trans hN) hNe⟩
    have agM:(1:Int)+(size:Int)<=(R.size:Int):=by omega
    have YL:(1:Int)<=(R.size:Int):=by omega
    clear hat uG hBa hga hBr hkp hraw GU hEr hmb hq hgr hf0 hRr hRs hB1 kF htt hf hin hol hN hNe hpos;go_wp2_with fail;refine (htk _).mono ?_;intro e w' he;cases he with
    | no h4 =>
     go_wp2;exact⟨rfl,.no (K8.out wr out h4) HW.out.2.2.2.1⟩
    | ok h4 =>
     have h4':¬4<f:=by omega
     have HG2:Hid (_):=HGo.out h4';clear htk K8 HGo;obtain⟨hBa,hB1,GU,hkp,kF,hEr,hpa,hraw⟩:=HW.out;obtain⟨hgr,hal,hin,hN,hNe⟩:=HV.out;obtain⟨hgg,hrr⟩:=And.intro hap.g hap.r;have Uf:=K0.out.1.lt;have Uc:=lt_of_block K0.out.2.1;have Ud:=lt_of_block K0.out.2.2.1;have zkp:=hkp.size;have GV:bu v1 bR (.string R) 9:=(kF.block bR Qx (by omega)).trans hraw;have Sw:ny v1 E bL bD M bS bN G N W H n kd dp ps pv sv lead:=hEr.kept (fun j hj=>kF.block j (hEr.lt j hj) (by have:=Uf j hj;omega));have Wo:aP v1 G s.out:=(kF.block G (lt_of_block GU) (by omega)).trans GU;have ba1:cq v1 aa al:=(kF.block aa (lt_of_block hBa) (by omega)).trans hBa;have pa1:=(kF.block w.heap.size (lt_of_block hpa) (by omega)).trans hpa;have k1:Kp (fun k=>k=G\/k=bR) w v1:=hkp.then kF (fun i hi e=>by omega)
     have rT:=one_set GV (.string (R.extract (1+size) R.size));have GX:=fun g (hg:g≠bR)=>aF v1 bR 0 (.string (R.extract (1+size) R.size)) g hg;have GY:=Sw.kept (w':=v1.setCell ⟨bR,0,none⟩ (.string (R.extract (1+size) R.size))) (fun j hj=>GX j (by rcases hj with rfl|rfl|rfl|rfl|rfl|rfl;exact hrr.1;exact hrr.2.1;exact hrr.2.2.1;exact hrr.2.2.2.1;exact hrr.2.2.2.2.1;exact hrr.2.2.2.2.2));have GZ:aP (v1.setCell ⟨bR,0,none⟩ (.string (R.extract (1+size) R.size))) G s.out:=(GX G (by have:=hgg.2.1;omega)).trans Wo;have Sx:cq (v1.setCell ⟨bR,0,none⟩ (.string (R.extract (1+size) R.size))) aa al:=(GX aa (by omega)).trans ba1;have br2:cq (v1.setCell ⟨bR,0,none⟩ (.string (R.extract (1+size) R.size))) ra _:=(GX ra (by omega)).trans hB1;have Ug:=(GX w.heap.size (by omega)).trans pa1;have k2:Kp (fun k=>k=G\/k=bR) w (v1.setCell ⟨bR,0,none⟩ (.string (R.extract (1+size) R.size))):=k1.setCell (p:=⟨bR,0,none⟩) (.inl (.inr rfl)) _;have hres:=KU (gS f) f lead size ra aa al (fun i=>((ag T (q+1+i):Nat):Int)) _ (oS f h4) br2 Sx hal hgr (fun i=>by have:=dI T (q+1+i);omega) hld (fun e=>f3 e.symm) hsz;obtain⟨c1,z1,_⟩:=one_cell GV;have c2:=Sw.l.cell;have nLR:=hrr.2.1;have HX:Hid (_/\_/\_/\_/\_/\_):=⟨GY,GZ,Sx,rT,Ug,k2⟩
     have pT:Hid (_/\_/\_/\_):=⟨Uf,Uc,Ud,hgg⟩
     clear hBa hB1 GU hkp kF hEr hpa hraw GV Sw Wo ba1 pa1 k1 rT GX GY GZ Sx br2 Ug k2 HW hgg hrr Uf Uc Ud zkp hgr;go_wp2_with fail;refine hres.mono ?_;rintro e v3 ⟨rfl,hB3,Bn⟩;obtain⟨GY,GZ,Sx,rT,Ug,k2⟩:=HX.out;obtain⟨Uf,Uc,Ud,hgg⟩:=pT.out;have k2z:=k2.size;have Sz:ny v3 E bL bD M bS bN G N W H n kd dp ps pv sv lead:=GY.kept (fun j hj=>Bn.block j (GY.lt j hj) (by have:=Uf j hj;omega));have Wp:aP v3 G s.out:=(Bn.block G (lt_of_block GZ) (by omega)).trans GZ;have Uh:cq v3 aa al:=(Bn.block aa (lt_of_block Sx) (by omega)).trans Sx;have mq:=(Bn.block bR (lt_of_block rT) (by omega)).trans rT;have SA:=(Bn.block w.heap.size (lt_of_block Ug) (by omega)).trans Ug;have k3:Kp (fun k=>k=G\/k=bR) w v3:=k2.then Bn (fun i hi e=>by omega)
     have hsm:=GT W H n j dp kd ps pv sv p M bS bN G N ra size _ s.out v3 Sz.s ⟨hgg.2.2.2.2.1,hgg.2.2.2.2.2.1,hgg.2.2.2.2.2.2,by omega⟩ Wp hB3 (Pm.pN _ _ _ _ _) (fun i=>Pm.m9 _ _ _ _ _ i) sZ.out hN hNe hin hlt hch hn hW hH hps hcs hC hR;have d3:=Sz.d.cell;obtain⟨y0,y1,y2,y3,y4,y5,yl⟩:=pS SA;have EW:Hid (_/\_/\_/\_/\_):=⟨hB3,Uh,mq,SA,k3⟩
     clear GY GZ Sx rT Ug k2 HX Sz Wp Uh mq SA k3 hB3 Bn hres Uf hgg;go_wp2_with fail;refine hsm.mono ?_;rintro e v4 ⟨rfl,hl4,N9⟩;obtain⟨hB3,Uh,mq,SA,k3⟩:=EW.out
     have HF:Hid (RInv w v4 ⟨W,H,n,dp⟩ T p o G bR aa ra size (j+1) out ⟨Pm.aj (Pm.m8 f lead (Pm.aj al) (fun i=>((ag T (q+1+i):Nat):Int)) size),Pm.oR p W n j (Pm.cR (Pm.aj (Pm.m8 f lead (Pm.aj al) (fun i=>((ag T (q+1+i):Nat):Int)) size)) dp) s.out (p.C*n)⟩):=by
      refine⟨HG2.out,hl4,?_,⟨_,(N9.block ra (lt_of_block hB3) (by omega)).trans hB3,Pm.pN _ _ _ _ _,rfl⟩,⟨al,(N9.block aa (lt_of_block Uh) (by omega)).trans Uh,hal⟩,k3.then N9 (fun i hi e=>.inl e),⟨f2,f1,fun e=>f3 e.symm⟩,(N9.block w.heap.size (lt_of_block SA) (by omega)).trans SA⟩;rw[<-HQQ.out,<-wm.out];exact (N9.block bR (lt_of_block mq) (by have:=hap.g.2.1;omega)).trans mq
     clear hsm hl4 N9 hB3 Uh mq SA k3 EW HG2;go_wp2
     go_roundw
     case rel=>exact⟨j+1,aa,ra,_,by omega,by go_num,rfl,rfl,HF⟩
     case measure=>simp[intOf];omega
   ·have Jc:j=p.R:=by omega
    subst Jc;have HD:Hid (_):=HI.out;clear HI;go_wp2
    go_end0
    exact .ok HD.out.at_ HD.out.tQ (by have:=HD.out.raw;rw[sZ.out]at this;exact this) HD.out.kp
theorem PU (k:Nat)(hk:k<7)(w:World):(Instr.index 178 (.agg cA) (.int .i64 (k:Int))).run Tryz.prog w=.ok (yp (Pm.oQ k:Nat) (Pm.o6 k:Nat) (Pm.j5 k:Nat) (Pm.mo k:Nat)) w:=by
 match k,hk with
 | 0,_=>exact EK w
 | 1,_=>exact EL w
 | 2,_=>exact EM w
 | 3,_=>exact EN w
 | 4,_=>exact EO w
 | 5,_=>exact EP w
 | 6,_=>exact ER w
theorem AH (k:Nat):Pm.oQ k<=4/\Pm.o6 k<=4/\(1<=Pm.j5 k/\Pm.j5 k<=8)/\(1<=Pm.mo k/\Pm.mo k<=8):=by
 refine⟨?_,?_,⟨?_,?_⟩,?_,?_⟩
 ·unfold Pm.oQ;split<;>omega
 ·unfold Pm.o6;split<;>omega
 ·unfold Pm.j5;split<;>omega
 ·unfold Pm.j5;split<;>omega
 ·unfold Pm.mo;split<;>omega
 ·unfold Pm.mo;split<;>omega
theorem kn (s t e:Nat)(h:s<t):(e+(t-1-s))/t<=e:=by
 rcases Nat.eq_zero_or_pos ((e+(t-1-s))/t) with h0|h0
 ·omega
 ·have:=Pm.uk s t e ((e+(t-1-s))/t-1) h (by omega);have h2:((e+(t-1-s))/t-1)*1<=((e+(t-1-s))/t-1)*t:=Nat.mul_le_mul_left _ (by omega);omega
inductive wO (m:Pm.cZ) (T:ByteArray) (on:Bool) (G bR:Nat) (w:World):Ending->World->Prop
 | no {w'}:Pm.lu m (ag T) on=none->Kp (fun k=>k=G\/k=bR) w w'->wO m T on G bR w (dies 15) w'
 | ok {w' l}:Pm.lu m (ag T) on=some l->aP w' G l->Kp (fun k=>k=G\/k=bR) w w'->wO m T on G bR w (.returned (.tuple #[])) w'
theorem AJ (args:Array Value)(w:World):(callFunc 174 args).run Tryz.prog w=.ok (.enter 174 args) w:=by kernel_rfl
abbrev SC (E bR bL bD:Nat):Value:=.func (.func 174) #[] #[.pointer (some ⟨E,0,none⟩),.pointer (some ⟨bR,0,none⟩),.pointer (some ⟨bL,0,none⟩),.pointer (some ⟨bD,0,none⟩)]
theorem Wq (W H n dp:Nat)(kd:Int)(pv sv:Value)(T:ByteArray)(E bR bL bD M bS bN G N:Nat)(out:List Int)(w:World)(hE:ny w E bL bD M bS bN G N W H n kd dp false pv sv (Pm.cZ.lead ⟨W,H,n,dp⟩))(hap:uE E bR bL bD M bS bN G)(hG:aP w G out)(hraw:bu w bR (.string T) 9)(hol:Pm.raw W H (Pm.cZ.bits ⟨W,H,n,dp⟩:Nat) false=(T.size:Int))(hT:T.size<=5000000)(hN:out=List.replicate N 0)(hNe:N=W*H*n)(hch:Pm.chan kd dp=(n:Int))(hn:1<=n/\n<=4)(hW:1<=W/\W<=5000)(hH:1<=H/\H<=5000): Calls Tryz.prog 92 #[img W H kd dp false pv sv,SC E bR bL bD] w fun e w'=>wO ⟨W,H,n,dp⟩ T false G bR w e w':=by
 have hcall:=AJ;have hk0:=ae w (.cells #[.int .i64 (W:Nat),.int .i64 (H:Nat),.int .i64 kd,.int .i64 (dp:Nat),.bool false,pv,sv] 30);have hrn:=Pm.nN ⟨W,H,n,dp⟩ false
 have hsz:Pm.cM ⟨W,H,n,dp⟩ (Pm.j6 ⟨W,H,n,dp⟩)=T.size:=by
  have:=hrn.symm.trans hol;simp only[Bool.false_eq_true,if_false]at this;omega
 have hT0:T.extract 0 T.size=T:=by
  apply ByteArray.ext;simp
 have hp:=PT W H n dp kd false pv sv T (Pm.j6 ⟨W,H,n,dp⟩) E bR bL bD M bS bN G N 0 out _ (hE.below hk0) hap ((hk0.block _ (lt_of_block hG)).trans hG) (by rw[hT0];exact (hk0.block _ (lt_of_block hraw)).trans hraw) (Pm.ur _) (by rw[hsz,Nat.zero_add];exact Nat.le_refl _) hT (by rw[hN];simp) hNe (by rw[hN];exact Pm.ly _) hch hn hW.2 hH.2 ⟨by show 0<=8;omega,by show 0<=8;omega,by show 1<=8;omega⟩ ⟨by show 1<=1;omega,by show 1<=8;omega⟩ hW hH.2;have hq:=Pm.lu ⟨W,H,n,dp⟩ (ag T) false
 have HP:Hid (∀x,Pm.ft ⟨W,H,n,dp⟩ (ag T) (Pm.j6 ⟨W,H,n,dp⟩) 0 out H=x->Pm.lu ⟨W,H,n,dp⟩ (ag T) false=x.map Pm.RS.out):=fun x hx=>by
  unfold Pm.lu;rw[if_neg (by decide),<-hx,hN,hNe]
 have yN:Hid (_):=hk0;clear hE hG hraw hk0 hrn hsz hT0 hol hq hN hNe
 go_enter Tryz.func92,Tryz.ntmps92
 go_wp2_with fail;refine hp.mono ?_;intro e w1 he;cases he with
 | no h1 k1 =>
  go_wp2;exact⟨rfl,.no (HP.out _ h1) ((Kp.aG yN.out).then k1 (fun i hi e=>e))⟩
 | @ok _ s h1 l1 r1 k1 =>
  have HD:Hid (_/\_/\_):=⟨HP.out _ h1,l1,(Kp.aG (S:=fun k=>k=G\/k=bR) yN.out).then k1 (fun i hi e=>e)⟩
  clear h1 l1 r1 k1 hp;go_wp2
  go_end0
  exact .ok HD.out.1 HD.out.2.1 HD.out.2.2
theorem SD (W H n dp:Nat)(kd:Int)(pv sv:Value)(T:ByteArray)(E bR bL bD M bS bN G N:Nat)(w:World)(tt:TypeId)(fr:Nat×Nat)(jl:w.heap[0]?=some (.cells cA tt fr))(hE:ny w E bL bD M bS bN G N W H n kd dp true pv sv (Pm.cZ.lead ⟨W,H,n,dp⟩))(hap:uE E bR bL bD M bS bN G)(hG:aP w G (List.replicate N 0))(hraw:bu w bR (.string T) 9)(hol:Pm.raw W H (Pm.cZ.bits ⟨W,H,n,dp⟩:Nat) true=(T.size:Int))(hT:T.size<=5000000)(hNe:N=W*H*n)(hch:Pm.chan kd dp=(n:Int))(hn:1<=n/\n<=4)(hW:1<=W/\W<=5000)(hH:1<=H/\H<=5000): Calls Tryz.prog 92 #[img W H kd dp true pv sv,SC E bR bL bD] w fun e w'=>wO ⟨W,H,n,dp⟩ T true G bR w e w':=by
 have hcall:=AJ;have Mi:Hid (w.heap[0]?=some (.cells cA tt fr)):=jl
 have hT0:T.extract 0 T.size=T:=by
  apply ByteArray.ext;simp
 have hsz:Pm.cj ⟨W,H,n,dp⟩ 7=T.size:=by
  have:=(Pm.nN ⟨W,H,n,dp⟩ true).symm.trans hol;simp only[if_true]at this;omega
 have HH:Hid (_/\_/\_/\_/\_/\_):=⟨hE,hap,hG,hraw,hsz,hNe⟩
 have HT0:Hid (_):=hT0;have Uc:=lt_of_block hG;have Ud:=lt_of_block hraw;clear jl hE hG hraw hT0 hsz hol hNe
 go_enter Tryz.func92,Tryz.ntmps92
 go_wp2_with (refine wpList_load_row rfl 178 _ rfl 0 rfl tt cA fr _ (am Mi.out _) Tryz.underlying178 rfl uA ?_)
 go_loopw [17] (fun i wr=>∃(k:Nat) (l:List Int),k<=7/\i=.int .i64 k/\Hid (Pm.eJ ⟨W,H,n,dp⟩ (ag T) k=some l)/\Hid (aP wr G l)/\Hid (bu wr bR (.string (T.extract (Pm.cj ⟨W,H,n,dp⟩ k) T.size)) 9)/\Kp (fun k=>k=G\/k=bR) (w.alloc (.cells #[.int .i64 (W:Nat),.int .i64 (H:Nat),.int .i64 kd,.int .i64 (dp:Nat),.bool true,pv,sv] 30)) wr) (fun i _=>7-(intOf i).toNat)
 case atStart =>
  obtain⟨hE,hap,hG,hraw,hsz,hNe⟩:=HH.out;refine⟨0,List.replicate N 0,Nat.zero_le _,rfl,?_,am hG _,?_,Kp.refl _ _⟩
  ·show some _=some _;rw[hNe]
  ·show bu _ _ _ _;rw[show Pm.cj ⟨W,H,n,dp⟩ 0=0 from rfl,HT0.out];exact am hraw _
 case round =>
  obtain⟨k,l,hk,rfl,HPk,HL,HR,hkp⟩:=hrel;by_cases hlt:k<7
  ·obtain⟨hE,Ws,hG,hraw,hsz,hNe⟩:=HH.out;obtain⟨s1,s2,s3,s4⟩:=AH k;have t1:=Pm.ww k;have t2:=Pm.wx k;have hidx:=fun u=>PU k hlt u;have hsz':=hkp.size;rw[World.size_alloc]at hsz';have m0:wr.cell? ⟨w.heap.size,0,none⟩=some (.int .i64 (W:Nat)):=(hkp.cell (by simp) (by simp;omega)).trans (by simp);have m1:wr.cell? ⟨w.heap.size,1,none⟩=some (.int .i64 (H:Nat)):=(hkp.cell (by simp) (by simp;omega)).trans (by simp);have hlt2:w.heap.size<wr.heap.size:=by omega
   have e1:=Pm.qJ (Pm.oQ k) (Pm.j5 k) W t1;have e2:=Pm.qJ (Pm.o6 k) (Pm.mo k) H t2;have Yy:=kn (Pm.oQ k) (Pm.j5 k) W t1;have YL:=kn (Pm.o6 k) (Pm.mo k) H t2;have pD:=fun u=>iW (Pm.oQ k:Nat) (Pm.j5 k:Nat) (W:Nat) u (by omega) (by omega) (by omega) (by omega);have yu:=fun u=>iW (Pm.o6 k:Nat) (Pm.mo k:Nat) (H:Nat) u (by omega) (by omega) (by omega) (by omega);rw[e1]at pD;rw[e2]at yu;have uG:=Pm.ng _ _ _ _ HPk.out;have hon:=Pm.j8 ⟨W,H,n,dp⟩ k hlt
   have ma:Hid (Pm.eJ ⟨W,H,n,dp⟩ (ag T) (k+1)=Pm.j7 ⟨W,H,n,dp⟩ (ag T) k l):=by
    show (Pm.eJ _ _ k).bind _=_;rw[HPk.out];rfl
   have hps:((Pm.bY ⟨W,H,n,dp⟩ k).C=(W+(Pm.j5 k-1-Pm.oQ k))/Pm.j5 k)/\((Pm.bY ⟨W,H,n,dp⟩ k).R=(H+(Pm.mo k-1-Pm.o6 k))/Pm.mo k):=⟨rfl,rfl⟩
   obtain⟨C,hC⟩:∃C,C=(W+(Pm.j5 k-1-Pm.oQ k))/Pm.j5 k:=⟨_,rfl⟩
   obtain⟨R,hR⟩:∃R,R=(H+(Pm.mo k-1-Pm.o6 k))/Pm.mo k:=⟨_,rfl⟩
   rw[<-hC]at pD Yy hps;rw[<-hR]at yu YL hps;have Wt:=hE.below (ae w (.cells #[.int .i64 (W:Nat),.int .i64 (H:Nat),.int .i64 kd,.int .i64 (dp:Nat),.bool true,pv,sv] 30));have PV:=Wt.kp Ws hkp
   have AK:0<C->0<R->∀u,Below wr.heap.size wr u->Calls Tryz.prog 174 #[.agg #[.int .i64 (Pm.oQ k:Nat),.int .i64 (Pm.o6 k:Nat),.int .i64 (Pm.j5 k:Nat),.int .i64 (Pm.mo k:Nat),.int .i64 (C:Nat),.int .i64 (R:Nat)],.pointer (some ⟨E,0,none⟩),.pointer (some ⟨bR,0,none⟩),.pointer (some ⟨bL,0,none⟩),.pointer (some ⟨bD,0,none⟩)] u fun e w'=>EV ⟨W,H,n,dp⟩ T (Pm.bY ⟨W,H,n,dp⟩ k) (Pm.cj ⟨W,H,n,dp⟩ k) G bR l u e w':=fun h1 h2 u hu=>by
    have:=PT W H n dp kd true pv sv T (Pm.bY ⟨W,H,n,dp⟩ k) E bR bL bD M bS bN G N (Pm.cj ⟨W,H,n,dp⟩ k) l u (PV.below hu) Ws ((hu.block _ (lt_of_block HL.out)).trans HL.out) ((hu.block _ (lt_of_block HR.out)).trans HR.out) (Pm.yh _ _) (by
     have:=Pm.ED ⟨W,H,n,dp⟩ k hlt ⟨by rw[hps.1];exact h1,by rw[hps.2];exact h2⟩;rw[hsz]at this
     exact this) hT (by rw[uG.1,hNe]) hNe uG.2 hch hn hW.2 hH.2 ⟨by show Pm.oQ k<=8;omega,by show Pm.o6 k<=8;omega,s4.2⟩ s3 ⟨by rw[hps.1];omega,by rw[hps.1];omega⟩ (by rw[hps.2];omega)
    rw[show KW (Pm.bY ⟨W,H,n,dp⟩ k)=.agg #[.int .i64 (Pm.oQ k:Nat),.int .i64 (Pm.o6 k:Nat),.int .i64 (Pm.j5 k:Nat),.int .i64 (Pm.mo k:Nat),.int .i64 ((Pm.bY ⟨W,H,n,dp⟩ k).C:Nat),.int .i64 ((Pm.bY ⟨W,H,n,dp⟩ k).R:Nat)] from rfl,hps.1,hps.2]at this;exact this
   have oY:Hid (¬(0<C/\0<R)->Pm.eJ ⟨W,H,n,dp⟩ (ag T) (k+1)=some l/\Pm.cj ⟨W,H,n,dp⟩ (k+1)=Pm.cj ⟨W,H,n,dp⟩ k):=fun hno=>by
    rw[hps.1,hps.2,if_neg hno]at hon;refine⟨?_,by rw[hon];rfl⟩;rw[ma.out,Pm.j7,hps.1,hps.2,if_neg hno]
   have qo:Hid (0<C/\0<R->Pm.eJ ⟨W,H,n,dp⟩ (ag T) (k+1)=(Pm.ft ⟨W,H,n,dp⟩ (ag T) (Pm.bY ⟨W,H,n,dp⟩ k) (Pm.cj ⟨W,H,n,dp⟩ k) l (Pm.bY ⟨W,H,n,dp⟩ k).R).map Pm.RS.out/\Pm.cj ⟨W,H,n,dp⟩ (k+1)=Pm.cj ⟨W,H,n,dp⟩ k+(Pm.bY ⟨W,H,n,dp⟩ k).R*(1+Pm.rowLen (Pm.bY ⟨W,H,n,dp⟩ k).C (Pm.cZ.bits ⟨W,H,n,dp⟩))):=fun G0=>by
    have EX:0<(Pm.bY ⟨W,H,n,dp⟩ k).C/\0<(Pm.bY ⟨W,H,n,dp⟩ k).R:=by rw[hps.1,hps.2];exact G0
    rw[if_pos EX]at hon;refine⟨?_,hon⟩;rw[ma.out,Pm.j7,if_pos EX]
   have Sp:Hid (_):=hkp;have AL:Hid (_):=AK;obtain⟨c0,hc0⟩:∃c0,c0=Pm.oQ k:=⟨_,rfl⟩
   obtain⟨r0,hr0⟩:∃r0,r0=Pm.o6 k:=⟨_,rfl⟩
   obtain⟨cs,hcs⟩:∃cs,cs=Pm.j5 k:=⟨_,rfl⟩
   obtain⟨rs,hrs⟩:∃rs,rs=Pm.mo k:=⟨_,rfl⟩
   rw[<-hc0,<-hr0,<-hcs,<-hrs]at AL hidx;rw[<-hc0,<-hcs]at pD;rw[<-hr0,<-hrs]at yu;clear hps hon uG hE hG hraw hsz hNe e1 e2 hC hR Wt PV AK ma t1 t2 s1 s2 s3 s4 hkp hc0 hr0 hcs hrs;go_wp2_with fail;refine (pD _).mono ?_;rintro e w' ⟨rfl,rfl⟩;go_wp2_with fail;refine (yu _).mono ?_;rintro e w' ⟨rfl,rfl⟩;have Wu:Kp (fun k=>k=G\/k=bR) (w.alloc (.cells #[.int .i64 (W:Nat),.int .i64 (H:Nat),.int .i64 kd,.int .i64 (dp:Nat),.bool true,pv,sv] 30)) (wr.alloc (.cells #[.int .i64 (c0:Nat),.int .i64 (r0:Nat),.int .i64 (cs:Nat),.int .i64 (rs:Nat),.int .i64 (C:Nat),.int .i64 (R:Nat)] 122)):=Sp.out.alloc _;have bA:=ae wr (.cells #[.int .i64 (c0:Nat),.int .i64 (r0:Nat),.int .i64 (cs:Nat),.int .i64 (rs:Nat),.int .i64 (C:Nat),.int .i64 (R:Nat)] 122);have HA:Hid (_/\_):=⟨Wu,bA⟩
   clear Wu bA;by_cases d1:0<C
   ·by_cases d2:0<R
    ·have G0:=qo.out ⟨d1,d2⟩;have HY:Hid (_/\_):=G0;have hcl:=AL.out d1 d2 _ HA.out.2;clear G0 qo oY;go_wp2_with fail;refine hcl.mono ?_;intro e w1 he;cases he with
     | no h1 k1 =>
      have HN:Hid (Pm.eJ ⟨W,H,n,dp⟩ (ag T) 7=none):=by
       have h0:Pm.eJ ⟨W,H,n,dp⟩ (ag T) (k+1)=none:=by rw[HY.out.1,h1];rfl
       have:=Pm.rB _ _ (k+1) h0 (7-(k+1));rw[show k+1+(7-(k+1))=7 by omega]at this;exact this
      have HKK:Hid (Kp (fun k=>k=G\/k=bR) w w1):=((Kp.aG (S:=fun k=>k=G\/k=bR) (ae w (.cells #[.int .i64 (W:Nat),.int .i64 (H:Nat),.int .i64 kd,.int .i64 (dp:Nat),.bool true,pv,sv] 30))).trans HA.out.1).trans k1;clear h1 k1 hcl;go_wp2;exact⟨rfl,.no (by unfold Pm.lu;rw[if_pos rfl];exact HN.out) HKK.out⟩
     | @ok _ s h1 l1 r1 k1 =>
      have HD:Hid (_/\_/\_/\_):=⟨(HY.out.1.trans (by rw[h1];rfl):Pm.eJ ⟨W,H,n,dp⟩ (ag T) (k+1)=some s.out),l1,(by rw[HY.out.2];exact r1:bu w1 bR (.string (T.extract (Pm.cj ⟨W,H,n,dp⟩ (k+1)) T.size)) 9),HA.out.1.trans k1⟩
      clear h1 l1 r1 k1 hcl;go_wp2
      go_roundw
      case rel=>exact⟨k+1,s.out,by omega,by go_num,HD.out.1,HD.out.2.1,HD.out.2.2.1,HD.out.2.2.2⟩
      case measure=>simp[intOf];omega
    ·have hno:=oY.out (fun h=>d2 h.2);have HD:Hid (_/\_/\_/\_):=⟨hno.1,(HA.out.2.block _ (lt_of_block HL.out)).trans HL.out,(by rw[hno.2];exact (HA.out.2.block _ (lt_of_block HR.out)).trans HR.out:bu _ bR (.string (T.extract (Pm.cj ⟨W,H,n,dp⟩ (k+1)) T.size)) 9),HA.out.1⟩
     clear hno qo oY;go_wp2
     go_roundw
     case rel=>exact⟨k+1,l,by omega,by go_num,HD.out.1,HD.out.2.1,HD.out.2.2.1,HD.out.2.2.2⟩
     case measure=>simp[intOf];omega
   ·have hno:=oY.out (fun h=>d1 h.1);have HD:Hid (_/\_/\_/\_):=⟨hno.1,(HA.out.2.block _ (lt_of_block HL.out)).trans HL.out,(by rw[hno.2];exact (HA.out.2.block _ (lt_of_block HR.out)).trans HR.out:bu _ bR (.string (T.extract (Pm.cj ⟨W,H,n,dp⟩ (k+1)) T.size)) 9),HA.out.1⟩
    clear hno qo oY;go_wp2
    go_roundw
    case rel=>exact⟨k+1,l,by omega,by go_num,HD.out.1,HD.out.2.1,HD.out.2.2.1,HD.out.2.2.2⟩
    case measure=>simp[intOf];omega
  ·have hke:k=7:=by omega
   subst hke;have HD:Hid (_/\_/\_):=⟨HPk.out,HL.out,(Kp.aG (S:=fun k=>k=G\/k=bR) (ae w (.cells #[.int .i64 (W:Nat),.int .i64 (H:Nat),.int .i64 kd,.int .i64 (dp:Nat),.bool true,pv,sv] 30))).trans hkp⟩
   go_wp2
   go_end0
   exact .ok (by unfold Pm.lu;rw[if_pos rfl];exact HD.out.1) HD.out.2.1 HD.out.2.2
theorem jC (w:World)(o0 o1 o2:Obj):Below w.heap.size w (((w.alloc o0).alloc o1).alloc o2)/\(((w.alloc o0).alloc o1).alloc o2).heap[w.heap.size]?=some o0/\(((w.alloc o0).alloc o1).alloc o2).heap[w.heap.size+1]?=some o1/\(((w.alloc o0).alloc o1).alloc o2).heap[w.heap.size+2]?=some o2:=by
 obtain⟨k0,q0,q1⟩:=bJ w o0 o1;have q2:=ah ((w.alloc o0).alloc o1) o2;rw[World.size_alloc,World.size_alloc]at q2;exact⟨k0.alloc (by simp;omega) _,am q0 _,am q1 _,q2⟩
theorem G4 (W H n dp:Nat)(kd:Int)(hch:Pm.chan kd dp=(n:Int))(hn:1<=n):max (((n*dp:Nat):Int)/8) 1=((Pm.cZ.lead ⟨W,H,n,dp⟩:Nat):Int):=by
 unfold Pm.cZ.lead Pm.cZ.bits;dsimp only;unfold Pm.chan at hch
 repeat' split at hch
 ·obtain rfl:n=1:=by omega
  rename_i h;obtain⟨_,h⟩:=h;omega
 ·obtain rfl:n=3:=by omega
  rename_i h;obtain⟨_,h⟩:=h;omega
 ·obtain rfl:n=1:=by omega
  rename_i h;obtain⟨_,h⟩:=h;omega
 ·obtain rfl:n=2:=by omega
  rename_i h;obtain⟨_,h⟩:=h;omega
 ·obtain rfl:n=4:=by omega
  rename_i h;obtain⟨_,h⟩:=h;omega
 ·omega
theorem PY (W H n dp:Nat)(kd:Int)(ps:Bool)(pv sv:Value)(w:World)(hch:Pm.chan kd dp=(n:Int))(hn:1<=n): Calls Tryz.prog 101 #[img W H kd dp ps pv sv] w fun e w'=>e=.returned (.int .i64 ((Pm.cZ.lead ⟨W,H,n,dp⟩:Nat):Int))/\Below w.heap.size w w':=by
 have hpb:=fun u=>EJ W H kd dp ps pv sv u (by rw[hch];omega);have hl:=G4 W H n dp kd hch hn;have hbd:=Pm.jh kd dp (by rw[hch];omega);have e1:Pm.chan kd dp*(dp:Int)=((n*dp:Nat):Int):=by rw[hch];push_cast;rfl
 rw[e1]at hpb hbd;have HL:Hid (_):=hl;generalize n*dp=b at *;have k0:=ae w (.cells #[.int .i64 (W:Nat),.int .i64 (H:Nat),.int .i64 kd,.int .i64 (dp:Nat),.bool ps,pv,sv] 30);clear hl e1
 go_enter Tryz.func101,Tryz.ntmps101
 go_wp2_with fail;refine (hpb _).mono ?_;rintro e w1 ⟨rfl,b1⟩;have HB:Hid (Below w.heap.size w w1):=k0.trans (b1.mono (by simp));clear b1 hpb k0;go_wp2
 all_goals go_ret
 all_goals exact⟨aH (by have:=HL.out;omega),HB.out⟩
theorem Lc (W H n dp:Nat)(kd:Int)(ps:Bool)(pv sv:Value)(T:ByteArray)(M bS bN G N:Nat)(w:World)(tt:TypeId)(fr:Nat×Nat)(jl:w.heap[0]?=some (.cells cA tt fr))(hE:nQ w M bS bN G N W H n kd dp ps pv sv)(hap:M≠G/\bS≠G/\bN≠G)(hG:aP w G (List.replicate N 0))(hol:Pm.raw W H ((n*dp:Nat):Int) ps=(T.size:Int))(hT:T.size<=5000000)(hNe:N=W*H*n)(hch:Pm.chan kd dp=(n:Int))(hn:1<=n/\n<=4)(hW:1<=W/\W<=5000)(hH:1<=H/\H<=5000): Calls Tryz.prog 130 #[img W H kd dp ps pv sv,.string T,N8 M bS bN] w fun e w'=>∃bR,w.heap.size<=bR/\∃u,Below w.heap.size w u/\wO ⟨W,H,n,dp⟩ T ps G bR u e w':=by
 have hld:=fun u=>PY W H n dp kd ps pv sv u hch hn.1;obtain⟨lead,hlead⟩:∃l,l=Pm.cZ.lead ⟨W,H,n,dp⟩:=⟨_,rfl⟩
 rw[<-hlead]at hld;have Ue:Hid (lead=Pm.cZ.lead ⟨W,H,n,dp⟩):=hlead;have q:=jC w (.cells (aE W H kd dp ps pv sv) 30) (.cells #[.string T] 9) (.cells #[N8 M bS bN] 177);have HQ:Hid (_):=q;have HH:Hid (_/\_/\_/\_/\_):=⟨hE,hap,hG,hol,jl⟩
 obtain⟨k0,q0,q1,q2⟩:=q;obtain⟨m0,m1,m2,m3,m4,m5,m6⟩:=aJ q0;clear hE hG hol jl q0 q1 q2 hlead
 go_enter Tryz.func130,Tryz.ntmps130
 go_wp2_with fail;refine (hld _).mono ?_;rintro e w1 ⟨rfl,b1⟩;have yr:Below w.heap.size w w1:=HQ.out.1.trans (b1.mono HQ.out.1.size);have z3:(((w.alloc (.cells (aE W H kd dp ps pv sv) 30)).alloc (.cells #[.string T] 9)).alloc (.cells #[N8 M bS bN] 177)).heap.size=w.heap.size+3:=by simp
 have zb:=b1.size;rw[z3]at zb;have kb:=ae w1 (.cells #[.int .i64 (lead:Nat)] 3);have r0:=ah w1 (.cells #[.int .i64 (lead:Nat)] 3);have e0:=(kb.block w.heap.size (by omega)).trans ((b1.block w.heap.size (by rw[z3];omega)).trans HQ.out.2.1);have e1:=(kb.block (w.heap.size+1) (by omega)).trans ((b1.block (w.heap.size+1) (by rw[z3];omega)).trans HQ.out.2.2.1);have e2:=(kb.block (w.heap.size+2) (by omega)).trans ((b1.block (w.heap.size+2) (by rw[z3];omega)).trans HQ.out.2.2.2);have Bp:Below w.heap.size w (w1.alloc (.cells #[.int .i64 (lead:Nat)] 3)):=yr.trans (kb.mono (by omega));obtain⟨hE,hap,hG,hol,jl⟩:=HH.out;have lM:=lt_of_block hE.m;have lS:=lt_of_block hE.s;have lN:=lt_of_block hE.n;have lG:=lt_of_block hG;have lT:=lt_of_block jl;have hR:ny (w1.alloc (.cells #[.int .i64 (lead:Nat)] 3)) w.heap.size w1.heap.size (w.heap.size+2) M bS bN G N W H n kd dp ps pv sv (Pm.cZ.lead ⟨W,H,n,dp⟩):=⟨e0,by rw[<-Ue.out];exact r0,e2,hE.below Bp⟩
 have hA:uE w.heap.size (w.heap.size+1) w1.heap.size (w.heap.size+2) M bS bN G:=⟨⟨by omega,by omega,by omega,by omega,hap.1,hap.2.1,hap.2.2⟩,by omega,by omega,by omega,by omega,by omega,by omega⟩
 have hG2:aP (w1.alloc (.cells #[.int .i64 (lead:Nat)] 3)) G (List.replicate N 0):=(Bp.block _ lG).trans hG;have Wv:=(Bp.block _ lT).trans jl
 have Df:Calls Tryz.prog 92 #[img W H kd dp ps pv sv,SC w.heap.size (w.heap.size+1) w1.heap.size (w.heap.size+2)] (w1.alloc (.cells #[.int .i64 (lead:Nat)] 3)) fun e w'=>wO ⟨W,H,n,dp⟩ T ps G (w.heap.size+1) (w1.alloc (.cells #[.int .i64 (lead:Nat)] 3)) e w':=by
  cases ps with
  | false=>exact Wq W H n dp kd pv sv T w.heap.size (w.heap.size+1) w1.heap.size (w.heap.size+2) M bS bN G N _ _ hR hA hG2 e1 hol hT rfl hNe hch hn hW hH
  | true=>exact SD W H n dp kd pv sv T w.heap.size (w.heap.size+1) w1.heap.size (w.heap.size+2) M bS bN G N _ tt fr Wv hR hA hG2 e1 hol hT hNe hch hn hW hH
 obtain⟨x0,x1,x2,x3,x4,x5,x6⟩:=aJ e0;have y0:=aJ ((b1.block w.heap.size (by rw[z3];omega)).trans HQ.out.2.1);obtain⟨y0,y1,y2,y3,y4,y5,y6⟩:=y0;have Gp:Hid (Below w.heap.size w (w1.alloc (.cells #[.int .i64 (lead:Nat)] 3))):=Bp;clear hR hA hG2 Wv hE hG hol jl yr Bp kb r0 e0 e1 e2 b1 hld HQ HH m0 m1 m2 m3 m4 m5 m6 k0;go_wp2_with fail;refine Df.mono ?_;intro e w2 he;cases he with
 | no h1 k1 =>
  have HE:Hid (_/\_):=⟨h1,k1⟩
  clear h1 k1 Df;go_wp2;exact⟨rfl,w.heap.size+1,by omega,_,Gp.out,.no HE.out.1 HE.out.2⟩
 | @ok _ l h1 l1 k1 =>
  have HE:Hid (_/\_/\_):=⟨h1,l1,k1⟩
  clear h1 l1 k1 Df;go_wp2
  go_end0
  exact⟨w.heap.size+1,by omega,_,Gp.out,.ok HE.out.1 HE.out.2.1 HE.out.2.2⟩
end Go.Proofs.YtmfijackgekioaaGreatDoor
