import Derived.Test.YtmfijackgekioabGreatDoorQ31
set_option maxHeartbeats 2000000
set_option maxRecDepth 100000
namespace Go.Proofs.YtmfijackgekioabGreatDoor
open Go.RowKit Go.Maps
theorem aI (w:World)(b j:Nat)(u:Value)(g:Nat)(h:g≠b):(w.setCell ⟨b,j,none⟩ u).heap[g]?=w.heap[g]?:=aam w ⟨b,j,none⟩ u g h
structure sO (w:World) (bs bp bl bt bn:Nat) (sv:Value) (pl lf st pt:Nat):Prop where
 s:bK w bs sv 22
 p:bK w bp (.int .i64 (pl:Nat)) 3
 l:bK w bl (.int .i64 (lf:Nat)) 3
 t:bK w bt (.int .i64 (st:Nat)) 3
 n:bK w bn (.int .i64 (pt:Nat)) 3
structure O9 (bs bp bl bt bn G:Nat):Prop where
 pl:bp≠bl
 ps:bs≠bp
 pt:bt≠bp
 pn:bn≠bp
 ls:bs≠bl
 lt:bt≠bl
 ln:bn≠bl
 gs:bs≠G
 gp:bp≠G
 gl:bl≠G
 gt:bt≠G
 gn:bn≠G
abbrev Pa (bs bp bl bt bn:Nat):Value:=.func (.func 97) #[] #[.pointer (some ⟨bs,0,none⟩),.pointer (some ⟨bp,0,none⟩),.pointer (some ⟨bl,0,none⟩),.pointer (some ⟨bt,0,none⟩),.pointer (some ⟨bn,0,none⟩)]
theorem Bz (args:Array Value)(w:World):(callFunc 97 args).run Tryz.prog w=.ok (.enter 97 args) w:=by kernel_rfl
theorem QN (bs bp bl bt bn G off len cap pl lf st pt:Nat)(v:Int)(out:List Int)(w:World)(h:sO w bs bp bl bt bn (.slice (some ⟨G,off,none⟩) len cap) pl lf st pt)(ha:O9 bs bp bl bt bn G)(hG:aS w G out)(hp:pl<len)(ho:off+pl<out.length)(hl:1<=lf)(hs:1<=st/\st<=8)(hpt:1<=pt/\pt<=4)(hbig:out.length<=1000000000)(hlf:lf<=4): Calls Tryz.prog 97 #[.int .i64 v,.pointer (some ⟨bs,0,none⟩),.pointer (some ⟨bp,0,none⟩),.pointer (some ⟨bl,0,none⟩),.pointer (some ⟨bt,0,none⟩),.pointer (some ⟨bn,0,none⟩)] w fun e w' =>
   e=.returned (.tuple #[])/\sO w' bs bp bl bt bn (.slice (some ⟨G,off,none⟩) len cap) (if lf=1 then pl+1+(st-1)*pt else pl+1) (if lf=1 then pt else lf-1) st pt/\aS w' G (out.set (off+pl) v)/\Kp (fun k=>k=G\/k=bp\/k=bl) w w':=by
 obtain⟨a1,a2,a3,a4,a5,a6,a7,a8,a9,U8,a11,a12⟩:=ha;obtain⟨s0,sf,sl⟩:=one_cell h.s;obtain⟨p0,pf,pll⟩:=one_cell h.p;obtain⟨l0,lfz,ll⟩:=one_cell h.l;obtain⟨t0,tf,tl⟩:=one_cell h.t;obtain⟨n0,nf,nl⟩:=one_cell h.n;have gl:=aac hG;obtain⟨old,g0⟩:∃x,w.cell? ⟨G,off+pl,none⟩=some (.int .i64 x):=⟨_,hG.cell _ ho⟩
 have gf:w.frozen? ⟨G,off+pl,none⟩=false:=aaM w G _ _ _ hG;have Xx:(pl:Int)<(len:Int):=by omega
 have s1:=ac0 a1;have s9:=ac0 a9;have s10:=ac0 U8;by_cases h1:lf=1
 ·subst h1;obtain⟨q,hq⟩:∃q:Nat,q=(st-1)*pt:=⟨_,rfl⟩
  have hq2:((st:Int)-1)*(pt:Int)=(q:Int):=by rw[hq];push_cast;rw[Int.natCast_sub hs.1];rfl
  have hq3:q<=28:=by
   rw[hq];have:(st-1)*pt<=7*4:=abf (by omega) hpt.2;omega
  rw[aai rfl,aai rfl,<-hq]
  have HQ:Hid (sO (((((w.setCell ⟨G,off+pl,none⟩ (.int .i64 v)).setCell ⟨bp,0,none⟩ (.int .i64 ((pl:Int)+1))).setCell ⟨bl,0,none⟩ (.int .i64 0)).setCell ⟨bp,0,none⟩ (.int .i64 ((pl:Int)+1+(q:Int)))).setCell ⟨bl,0,none⟩ (.int .i64 (pt:Nat))) bs bp bl bt bn (.slice (some ⟨G,off,none⟩) len cap) (pl+1+q) pt st pt /\
    aS (((((w.setCell ⟨G,off+pl,none⟩ (.int .i64 v)).setCell ⟨bp,0,none⟩ (.int .i64 ((pl:Int)+1))).setCell ⟨bl,0,none⟩ (.int .i64 0)).setCell ⟨bp,0,none⟩ (.int .i64 ((pl:Int)+1+(q:Int)))).setCell ⟨bl,0,none⟩ (.int .i64 (pt:Nat))) G (out.set (off+pl) v) /\
    Kp (fun k=>k=G\/k=bp\/k=bl) w (((((w.setCell ⟨G,off+pl,none⟩ (.int .i64 v)).setCell ⟨bp,0,none⟩ (.int .i64 ((pl:Int)+1))).setCell ⟨bl,0,none⟩ (.int .i64 0)).setCell ⟨bp,0,none⟩ (.int .i64 ((pl:Int)+1+(q:Int)))).setCell ⟨bl,0,none⟩ (.int .i64 (pt:Nat)))):=by
   have f0:∀g,g≠G->g≠bp->g≠bl->(((((w.setCell ⟨G,off+pl,none⟩ (.int .i64 v)).setCell ⟨bp,0,none⟩ (.int .i64 ((pl:Int)+1))).setCell ⟨bl,0,none⟩ (.int .i64 0)).setCell ⟨bp,0,none⟩ (.int .i64 ((pl:Int)+1+(q:Int)))).setCell ⟨bl,0,none⟩ (.int .i64 (pt:Nat))).heap[g]?=w.heap[g]?:=fun g e1 e2 e3=>by
    rw[aI _ _ _ _ _ e3,aI _ _ _ _ _ e2,aI _ _ _ _ _ e3,aI _ _ _ _ _ e2,aI _ _ _ _ _ e1]
   refine⟨⟨(f0 bs a8 a2 a5).trans h.s,?_,?_,(f0 bt a11 a3 a6).trans h.t,(f0 bn a12 a4 a7).trans h.n⟩,?_,?_⟩
   ·refine (aI _ _ _ _ _ a1).trans ?_;have e1:((w.setCell ⟨G,off+pl,none⟩ (.int .i64 v)).setCell ⟨bp,0,none⟩ (.int .i64 ((pl:Int)+1))).heap[bp]?=some (.cells #[.int .i64 ((pl:Int)+1)] 3 (0,0)):=one_set ((aI _ _ _ _ _ a9).trans h.p) _;exact one_set ((aI _ _ _ _ _ a1).trans e1) _
   ·have e1:(((w.setCell ⟨G,off+pl,none⟩ (.int .i64 v)).setCell ⟨bp,0,none⟩ (.int .i64 ((pl:Int)+1))).setCell ⟨bl,0,none⟩ (.int .i64 0)).heap[bl]?=some (.cells #[.int .i64 0] 3 (0,0)):=one_set ((aI _ _ _ _ _ (ac0 a1)).trans ((aI _ _ _ _ _ U8).trans h.l)) _;exact one_set ((aI _ _ _ _ _ (ac0 a1)).trans e1) _
   ·refine (aI _ _ _ _ _ (ac0 U8)).trans ((aI _ _ _ _ _ (ac0 a9)).trans ((aI _ _ _ _ _ (ac0 U8)).trans ((aI _ _ _ _ _ (ac0 a9)).trans ?_)));exact hG.set _ v
   ·exact (((((Kp.refl _ _).setCell (p:=⟨G,off+pl,none⟩) (.inl (.inl rfl)) _).setCell (p:=⟨bp,0,none⟩) (.inl (.inr (.inl rfl))) _).setCell (p:=⟨bl,0,none⟩) (.inl (.inr (.inr rfl))) _).setCell (p:=⟨bp,0,none⟩) (.inl (.inr (.inl rfl))) _).setCell (p:=⟨bl,0,none⟩) (.inl (.inr (.inr rfl))) _
  have l0':w.cell? ⟨bl,0,none⟩=some (.int .i64 1):=l0;clear h hG l0 hq
  go_enter Tryz.func97,Tryz.ntmps97
  go_wp2
  go_end0
  exact⟨rfl,HQ.out⟩
 ·rw[aag h1,aag h1];obtain⟨l,rfl⟩:∃l,lf=l+2:=⟨lf-2,by omega⟩
  have e2:((l+2:Nat):Int)-1=((l+1:Nat):Int):=by omega
  have e3:(((l+1:Nat):Int)==0)=false:=by rw[aa2];omega
  have HQ:Hid (sO (((w.setCell ⟨G,off+pl,none⟩ (.int .i64 v)).setCell ⟨bp,0,none⟩ (.int .i64 ((pl:Int)+1))).setCell ⟨bl,0,none⟩ (.int .i64 ((l+1:Nat):Int))) bs bp bl bt bn (.slice (some ⟨G,off,none⟩) len cap) (pl+1) (l+1) st pt /\
    aS (((w.setCell ⟨G,off+pl,none⟩ (.int .i64 v)).setCell ⟨bp,0,none⟩ (.int .i64 ((pl:Int)+1))).setCell ⟨bl,0,none⟩ (.int .i64 ((l+1:Nat):Int))) G (out.set (off+pl) v) /\
    Kp (fun k=>k=G\/k=bp\/k=bl) w (((w.setCell ⟨G,off+pl,none⟩ (.int .i64 v)).setCell ⟨bp,0,none⟩ (.int .i64 ((pl:Int)+1))).setCell ⟨bl,0,none⟩ (.int .i64 ((l+1:Nat):Int)))):=by
   have f0:∀g,g≠G->g≠bp->g≠bl->(((w.setCell ⟨G,off+pl,none⟩ (.int .i64 v)).setCell ⟨bp,0,none⟩ (.int .i64 ((pl:Int)+1))).setCell ⟨bl,0,none⟩ (.int .i64 ((l+1:Nat):Int))).heap[g]?=w.heap[g]?:=fun g e1 e2 e3=>by
    rw[aI _ _ _ _ _ e3,aI _ _ _ _ _ e2,aI _ _ _ _ _ e1]
   refine⟨⟨(f0 bs a8 a2 a5).trans h.s,?_,?_,(f0 bt a11 a3 a6).trans h.t,(f0 bn a12 a4 a7).trans h.n⟩,?_,?_⟩
   ·refine (aI _ _ _ _ _ a1).trans ?_;exact one_set ((aI _ _ _ _ _ a9).trans h.p) _
   ·exact one_set ((aI _ _ _ _ _ (ac0 a1)).trans ((aI _ _ _ _ _ U8).trans h.l)) _
   ·refine (aI _ _ _ _ _ (ac0 U8)).trans ((aI _ _ _ _ _ (ac0 a9)).trans ?_);exact hG.set _ v
   ·exact (((Kp.refl _ _).setCell (p:=⟨G,off+pl,none⟩) (.inl (.inl rfl)) _).setCell (p:=⟨bp,0,none⟩) (.inl (.inr (.inl rfl))) _).setCell (p:=⟨bl,0,none⟩) (.inl (.inr (.inr rfl))) _
  clear h hG h1
  go_enter Tryz.func97,Tryz.ntmps97
  go_wp2
  go_end0
  have e5:(l:Int)+2-1=((l+1:Nat):Int):=by omega
  rw[e5];exact⟨rfl,HQ.out⟩
theorem Pb:∀(x:Fin 256),bits .and .i64 ((x.val:Nat):Int) 1=((x.val%2:Nat):Int)/\bits .and .i64 ((x.val:Nat):Int) 3=((x.val%4:Nat):Int)/\bits .and .i64 ((x.val:Nat):Int) 15=((x.val%16:Nat):Int)/\bits .and .i64 ((x.val:Nat):Int) 255=((x.val%256:Nat):Int):=by decide +kernel
theorem qo (W ht n j:Nat)(kd dp:Int)(ps:Bool)(pv sv:Value)(p:Pm.Ps)(w:World)(hn:Pm.chan kd dp=(n:Int))(hW:W<=5000)(hj:j<=5000)(h0:p.c0<=8/\p.r0<=8/\p.rs<=8)(hn4:n<=4): Calls Tryz.prog 65 #[img W ht kd dp ps pv sv,.agg #[.int .i64 (p.c0:Nat),.int .i64 (p.r0:Nat),.int .i64 (p.cs:Nat),.int .i64 (p.rs:Nat),.int .i64 (p.C:Nat),.int .i64 (p.R:Nat)],.int .i64 (j:Nat)] w fun e w' =>
   e=.returned (.int .i64 ((Pm.dP p W n j:Nat):Int))/\Below w.heap.size w w':=by
 obtain⟨c0,r0,cs,rs,C,R⟩:=p;simp only at h0 ⊢;have a1:j*rs<=5000*8:=abf hj h0.2.2;have a2:(r0+j*rs)*W<=40008*5000:=abf (by omega) hW;have a3:((r0+j*rs)*W+c0)*n<=200040008*4:=abf (by omega) hn4;have e1:(j:Int)*(rs:Int)=((j*rs:Nat):Int):=by push_cast;rfl
 obtain⟨A,hA⟩:∃A,A=j*rs:=⟨_,rfl⟩
 rw[<-hA]at a1 a2 a3 e1;have e2:((r0:Int)+(A:Int))*(W:Int)=(((r0+A)*W:Nat):Int):=by push_cast;rfl
 obtain⟨B,hB⟩:∃B,B=(r0+A)*W:=⟨_,rfl⟩
 rw[<-hB]at a2 a3 e2;have e3:((B:Int)+(c0:Int))*(n:Int)=(((B+c0)*n:Nat):Int):=by push_cast;rfl
 have HF:Hid (Pm.dP ⟨c0,r0,cs,rs,C,R⟩ W n j=(B+c0)*n):=by show _=_;unfold Pm.dP;rw[hB,hA]
 obtain⟨D,hD⟩:∃D,D=(B+c0)*n:=⟨_,rfl⟩
 rw[<-hD]at a3 e3 HF;have hch:=fun u=>mj kd dp u;rw[hn]at hch;clear hA hB hD
 go_enter Tryz.func65,Tryz.ntmps65
 go_wp2_with fail;refine (hch _).mono ?_;rintro e w' ⟨rfl,rfl⟩;go_wp2
 go_ret
 exact⟨aK (by rw[HF.out]),((aav _ _).alloc (aaf _) _).alloc (by simp) _⟩
theorem Pc (sv:Value)(pt st:Nat)(w:World)(hsv:∃a l c,sv=.slice (some a) l c): Calls Tryz.prog 64 #[sv,.int .i64 (pt:Nat),.int .i64 (st:Nat)] w fun e w'=>∃bp bl,e=.returned (Pa w.heap.size bp bl (w.heap.size+2) (w.heap.size+1)) /\ sO w' w.heap.size bp bl (w.heap.size+2) (w.heap.size+1) sv 0 pt st pt/\(bp=w.heap.size+3/\bl=w.heap.size+4\/bp=w.heap.size+4/\bl=w.heap.size+3)/\Below w.heap.size w w':=by
 obtain⟨a,l,c,rfl⟩:=hsv
 go_enter Tryz.func64,Tryz.ntmps64
 go_wp2
 go_region
 ·obtain⟨k0,q0,q1,q2,q3,q4⟩:=lE w (.cells #[.slice (some a) l c] 22) (.cells #[.int .i64 (pt:Nat)] 3) (.cells #[.int .i64 (st:Nat)] 3) (.cells #[.int .i64 0] 3) (.cells #[.int .i64 (pt:Nat)] 3);go_wp2
  go_ret
  exact⟨_,_,rfl,⟨q0,q3,q4,q2,q1⟩,.inl ⟨rfl,rfl⟩,k0.drew⟩
 ·obtain⟨k0,q0,q1,q2,q3,q4⟩:=lE w (.cells #[.slice (some a) l c] 22) (.cells #[.int .i64 (pt:Nat)] 3) (.cells #[.int .i64 (st:Nat)] 3) (.cells #[.int .i64 (pt:Nat)] 3) (.cells #[.int .i64 0] 3);go_wp2
  go_ret
  exact⟨_,_,rfl,⟨q0,q4,q3,q2,q1⟩,.inr ⟨rfl,rfl⟩,k0.drew⟩
theorem sO.drew {w:World}{bs bp bl bt bn:Nat}{sv:Value}{pl lf st pt:Nat}(h:sO w bs bp bl bt bn sv pl lf st pt):sO w.drew bs bp bl bt bn sv pl lf st pt:=⟨h.s,h.p,h.l,h.t,h.n⟩
structure zo (w:World) (bs bp bl bt bn G off len cap st n:Nat) (v:Nat->Int) (out:List Int) (k:Nat):Prop where
 put:sO w bs bp bl bt bn (.slice (some ⟨G,off,none⟩) len cap) (Pm.oN n st k) (n-k%n) st n
 uB:aS w G (Pm.sK off n st v out k)
theorem zo.next {w':World}{bs bp bl bt bn G off len cap st n:Nat}{v:Nat->Int}{out:List Int}{k:Nat}(hn:0<n)(hs:1<=st)(h1:sO w' bs bp bl bt bn (.slice (some ⟨G,off,none⟩) len cap) (if n-k%n=1 then Pm.oN n st k+1+(st-1)*n else Pm.oN n st k+1) (if n-k%n=1 then n else n-k%n-1) st n)(h2:aS w' G ((Pm.sK off n st v out k).set (off+Pm.oN n st k) (v k))):zo w' bs bp bl bt bn G off len cap st n v out (k+1):=by
 have hm:=acV k hn;refine⟨?_,h2⟩;by_cases h:n-k%n=1
 ·rw[aai h,aai h]at h1;rw[Pm.Ls st hn (by omega) hs,(Pm.qg hn (show k%n+1=n by omega)).2];exact h1
 ·rw[aag h,aag h]at h1;rw[Pm.Lt st hn (by omega),(Pm.qh hn (show k%n+1<n by omega)).2];exact h1
theorem Pd (bs bp bl bt bn G off len cap st n Rw nr count:Nat)(r out:List Int)(w:World)(hB:cL w Rw r)(hr:r.length=nr)(gr:∀j,0<=Pm.ai r j/\Pm.ai r j<256)(hp:zo w bs bp bl bt bn G off len cap st n (Pm.dk (Pm.ai r) 16) out 0)(ha:O9 bs bp bl bt bn G)(Cw:Rw≠G/\Rw≠bp/\Rw≠bl)(hn:1<=n/\n<=4)(hs:1<=st/\st<=8)(hin:∀k,k<count->2*k+1<nr/\Pm.oN n st k<len/\off+Pm.oN n st k<out.length)(hbig:out.length<=1000000000)(hnr:nr<=1000000)(hcn:count<=1000000): Calls Tryz.prog 66 #[.slice (some ⟨Rw,0,none⟩) nr nr,.int .i64 16,.int .i64 (count:Nat),Pa bs bp bl bt bn] w fun e w' =>
   e=.returned (.tuple #[])/\aS w' G (Pm.sK off n st (Pm.dk (Pm.ai r) 16) out count)/\Kp (fun k=>k=G\/k=bp\/k=bl) w w':=by
 have hcall:=Bz;have uc:Hid (_):=hin;have HP:Hid (_):=hp;have HB:Hid (_):=hB;clear hin hp hB
 go_enter Tryz.func66,Tryz.ntmps66
 go_wp2
 go_loopw [12] (fun ix wr=>∃k:Nat,k<=count/\ix=.int .i64 k/\zo wr bs bp bl bt bn G off len cap st n (Pm.dk (Pm.ai r) 16) out k/\Kp (fun k=>k=G\/k=bp\/k=bl) w wr) (fun ix _=>count-(intOf ix).toNat)
 case atStart=>exact⟨0,aao _,rfl,HP.out,Kp.refl _ _⟩
 case round =>
  obtain⟨k,hk,rfl,hS,hkp⟩:=hrel;by_cases hlt:k<count
  ·have hlt':(k:Int)<(count:Int):=by omega
   obtain⟨i1,i2,i3⟩:=uc.out k hlt;have hBr:cL wr Rw r:=(hkp.block Rw (aac HB.out) (fun e=>by rcases e with e|e|e;exact Cw.1 e;exact Cw.2.1 e;exact Cw.2.2 e)).trans HB.out;have c1:=hBr.cell (2*k) (by omega);have c2:=hBr.cell (2*k+1) (by omega);have lw:=aac hBr;have g1:=gr (2*k);have g2:=gr (2*k+1);have hv:Pm.dk (Pm.ai r) 16 k=256*Pm.ai r (2*k)+Pm.ai r (2*k+1):=by rw[Pm.dk,aai rfl]
   have sq:=fun u (hPu:sO u bs bp bl bt bn (.slice (some ⟨G,off,none⟩) len cap) (Pm.oN n st k) (n-k%n) st n) (hLu:aS u G (Pm.sK off n st (Pm.dk (Pm.ai r) 16) out k))=>QN bs bp bl bt bn G off len cap (Pm.oN n st k) (n-k%n) st n (Pm.dk (Pm.ai r) 16 k) _ u hPu ha hLu i2 (by rw[Pm.nJ];exact i3) (by have:=acV k (show 0<n by omega);omega) hs hn (by rw[Pm.nJ];exact hbig) (by omega);have mF:=fun u h1 h2=>zo.next (w':=u) (k:=k) (cap:=cap) (out:=out) (v:=Pm.dk (Pm.ai r) 16) (bs:=bs) (bp:=bp) (bl:=bl) (bt:=bt) (bn:=bn) (G:=G) (off:=off) (len:=len) (show 0<n by omega) hs.1 h1 h2;generalize Pm.dk (Pm.ai r) 16 k=V at *;generalize Pm.ai r (2*k)=X at *;generalize Pm.ai r (2*k+1)=Y at *;have hSd:Hid (_):=hS;have TD:Hid (_):=hkp;have TE:Hid (_):=mF;obtain⟨k2,hk2⟩:∃k2,k2=2*k:=⟨_,rfl⟩
   rw[<-hk2]at c1 c2 i1;have ek:(2:Int)*(k:Int)=(k2:Int):=by omega
   have hkn:(k2:Int)+1<(nr:Int):=by omega
   have hkm:(k2:Int)<(nr:Int):=by omega
   have kp0:(0:Int)<=(k2:Int)+1:=by omega
   have wk2:IntKind.i64.wrap (k2:Int)=(k2:Int):=aan _ (by omega);have wk3:IntKind.i64.wrap ((k2:Int)+1)=(k2:Int)+1:=aan _ (by omega);clear hk2;have x1:IntKind.i64.wrap X=X:=aan _ (by omega);have x2:IntKind.i64.wrap Y=Y:=aan _ (by omega);have x3:IntKind.i64.wrap (X*256)=X*256:=aan _ (by omega)
   have o1:bits .or .i64 (X*256) Y=V:=by
    rw[fT (X*256) Y (X.toNat*256) Y.toNat 8 (by omega) (by omega) (by omega) (by omega) (by omega) (by omega),hv];omega
   clear mF hkp hS hBr gr hv;go_wp2;have hS:wr.drew.cell? ⟨Rw,k2,none⟩=some (.int .u8 X)/\wr.drew.cell? ⟨Rw,k2+1,none⟩=some (.int .u8 Y):=⟨c1,c2⟩
   refine ax (fun w'=>w'.cell? ⟨Rw,k2,none⟩=some (.int .u8 X)/\w'.cell? ⟨Rw,k2+1,none⟩=some (.int .u8 Y)) 99 ?_;refine ap [0,1,2,3,4,5,6,7,8,9,10,11,12,13,14,15] ?_
   iterate 16 (refine ay (v:=?_) (T:=?_) ?ht ?hy hS ?_;(case hy=>intro w hSw;(try dsimp only at hSw); go_simp;try with_reducible rfl);case ht=>go_simp;try with_reducible rfl)
   refine aj ?_;refine ag 16 fun K hK=>?_;go_simp;have hLd:aS wr.drew G _:=hSd.out.uB;refine (sq wr.drew hSd.out.put.drew hLd).mono ?_;rintro e v1 ⟨rfl,n1,n2,n3⟩
   have hS1:v1.cell? ⟨Rw,k2,none⟩=some (.int .u8 X)/\v1.cell? ⟨Rw,k2+1,none⟩=some (.int .u8 Y):=by
    have hne:¬(Rw=G\/Rw=bp\/Rw=bl):=fun e=>by rcases e with e|e|e;exact Cw.1 e;exact Cw.2.1 e;exact Cw.2.2 e
    have Ke:=lw;exact⟨(n3.cell (p:=⟨Rw,k2,none⟩) Ke hne).trans c1,(n3.cell (p:=⟨Rw,k2+1,none⟩) Ke hne).trans c2⟩
   have HQ:Hid (_/\_):=⟨TE.out v1 n1 n2,(TD.out.drew).trans n3⟩
   refine hK _ _ (fun _=>hS1) ?_;clear hK K n1 n2 n3 hS1;refine am ?_;go_wp2
   go_roundw
   case rel=>exact⟨k+1,by omega,by go_num,HQ.out.1,HQ.out.2⟩
   case measure=>simp[intOf];omega
  ·have hke:k=count:=by omega
   subst hke;have HR:Hid (_/\_):=⟨hS.uB,hkp⟩
   clear hS hkp;go_wp2
   go_end0
   exact⟨rfl,HR.out⟩
theorem LZ (D bh:Nat)(X:Int)(hD:D=1\/D=2\/D=4\/D=8)(hX:0<=X/\X<256):bits .and .i64 (X/2^bh) (IntKind.i64.wrap (IntKind.i64.wrap (2^D)-1))=X/2^bh%2^D:=by
 obtain⟨x,rfl⟩:=abD hX.1;have e:((x:Int)/2^bh)=((x/2^bh:Nat):Int):=by push_cast;rfl
 have hy:x/2^bh<256:=Nat.lt_of_le_of_lt (Nat.div_le_self _ _) (by omega);rw[e];generalize x/2^bh=y at *;obtain⟨a1,a2,a3,a4⟩:=Pb ⟨y,hy⟩;simp only at a1 a2 a3 a4;rcases hD with rfl|rfl|rfl|rfl
 ·rw[show IntKind.i64.wrap (IntKind.i64.wrap (2^1)-1)=1 by decide +kernel,a1];omega
 ·rw[show IntKind.i64.wrap (IntKind.i64.wrap (2^2)-1)=3 by decide +kernel,a2];omega
 ·rw[show IntKind.i64.wrap (IntKind.i64.wrap (2^4)-1)=15 by decide +kernel,a3];omega
 ·rw[show IntKind.i64.wrap (IntKind.i64.wrap (2^8)-1)=255 by decide +kernel,a4];omega
theorem TH (D:Nat)(hD:D=1\/D=2\/D=4\/D=8)(bs bp bl bt bn G off len cap st n Rw nr count:Nat)(r out:List Int)(w:World)(hB:cL w Rw r)(hr:r.length=nr)(gr:∀j,0<=Pm.ai r j/\Pm.ai r j<256)(hp:zo w bs bp bl bt bn G off len cap st n (Pm.dk (Pm.ai r) D) out 0)(ha:O9 bs bp bl bt bn G)(Cw:Rw≠G/\Rw≠bp/\Rw≠bl)(hn:1<=n/\n<=4)(hs:1<=st/\st<=8)(hin:∀k,k<count->k*D/8<nr/\Pm.oN n st k<len/\off+Pm.oN n st k<out.length)(hbig:out.length<=1000000000)(hnr:nr<=1000000)(hcn:count<=1000000): Calls Tryz.prog 66 #[.slice (some ⟨Rw,0,none⟩) nr nr,.int .i64 (D:Nat),.int .i64 (count:Nat),Pa bs bp bl bt bn] w fun e w' =>
   e=.returned (.tuple #[])/\aS w' G (Pm.sK off n st (Pm.dk (Pm.ai r) D) out count)/\Kp (fun k=>k=G\/k=bp\/k=bl) w w':=by
 have hcall:=Bz;have uc:Hid (_):=hin;have HP:Hid (_):=hp;have HB:Hid (_):=hB;have QO:Hid (D=1\/D=2\/D=4\/D=8):=hD;have d16:((D:Int)==16)=false:=by rw[aa2];omega
 have d8:1<=D/\D<=8:=by omega
 clear hin hp hB hD
 go_enter Tryz.func66,Tryz.ntmps66
 go_wp2
 go_loopw [12] (fun ix wr=>∃k:Nat,k<=count/\ix=.int .i64 k/\zo wr bs bp bl bt bn G off len cap st n (Pm.dk (Pm.ai r) D) out k/\Kp (fun k=>k=G\/k=bp\/k=bl) w wr) (fun ix _=>count-(intOf ix).toNat)
 case atStart=>exact⟨0,aao _,rfl,HP.out,Kp.refl _ _⟩
 case round =>
  obtain⟨k,hk,rfl,hS,hkp⟩:=hrel;by_cases hlt:k<count
  ·have hlt':(k:Int)<(count:Int):=by omega
   obtain⟨i1,i2,i3⟩:=uc.out k hlt;have hBr:cL wr Rw r:=(hkp.block Rw (aac HB.out) (fun e=>by rcases e with e|e|e;exact Cw.1 e;exact Cw.2.1 e;exact Cw.2.2 e)).trans HB.out;have c1:=hBr.cell (k*D/8) (by omega);have lw:=aac hBr;have g1:=gr (k*D/8);have hv:Pm.dk (Pm.ai r) D k=Pm.ai r (k*D/8)/2^(8-k*D%8-D)%2^D:=by rw[Pm.dk,aag (by omega)]
   have sq:=fun u (hPu:sO u bs bp bl bt bn (.slice (some ⟨G,off,none⟩) len cap) (Pm.oN n st k) (n-k%n) st n) (hLu:aS u G (Pm.sK off n st (Pm.dk (Pm.ai r) D) out k))=>QN bs bp bl bt bn G off len cap (Pm.oN n st k) (n-k%n) st n (Pm.dk (Pm.ai r) D k) _ u hPu ha hLu i2 (by rw[Pm.nJ];exact i3) (by have:=acV k (show 0<n by omega);omega) hs hn (by rw[Pm.nJ];exact hbig) (by omega);have mF:=fun u h1 h2=>zo.next (w':=u) (k:=k) (cap:=cap) (out:=out) (v:=Pm.dk (Pm.ai r) D) (bs:=bs) (bp:=bp) (bl:=bl) (bt:=bt) (bn:=bn) (G:=G) (off:=off) (len:=len) (show 0<n by omega) hs.1 h1 h2;generalize Pm.dk (Pm.ai r) D k=V at *;generalize Pm.ai r (k*D/8)=X at *;have hSd:Hid (_):=hS;have TD:Hid (_):=hkp;have TE:Hid (_):=mF;obtain⟨f,hf⟩:∃f,f=k*D:=⟨_,rfl⟩
   rw[<-hf]at c1 i1 hv
   have hf8:f<=8000000:=by
    rw[hf];have:k*D<=1000000*8:=abf (by omega) d8.2;omega
   have hfd:f%8+D<=8:=by
    rw[hf];rcases QO.out with rfl|rfl|rfl|rfl<;>omega
   have ek:(k:Int)*(D:Int)=(f:Int):=by rw[hf];push_cast;rfl
   have wf:IntKind.i64.wrap (f:Int)=(f:Int):=aan _ (by omega);obtain⟨q,hq⟩:∃q,q=f/8:=⟨_,rfl⟩
   rw[<-hq]at c1 i1;have eq8:(f:Int)/8=(q:Int):=by omega
   obtain⟨bh,Xy⟩:∃bh,bh=8-f%8-D:=⟨_,rfl⟩
   rw[<-Xy]at hv;have ebh:8-(f:Int)%8-(D:Int)=(bh:Int):=by omega
   have hqn:(q:Int)<(nr:Int):=by omega
   have x1:IntKind.i64.wrap X=X:=aan _ (by omega);have wq:IntKind.i64.wrap (q:Int)=(q:Int):=aan _ (by omega);have wb:IntKind.i64.wrap (bh:Int)=(bh:Int):=aan _ (by omega);have o1:bits .and .i64 (X/2^bh) (IntKind.i64.wrap (IntKind.i64.wrap (2^D)-1))=V:=by rw[hv];exact LZ D bh X QO.out g1
   clear mF hkp hS hBr gr hv hf hq Xy;go_wp2;have hS:wr.drew.cell? ⟨Rw,q,none⟩=some (.int .u8 X):=c1;refine ax (fun w'=>w'.cell? ⟨Rw,q,none⟩=some (.int .u8 X)) 99 ?_;refine ap [0,1,2,3,4,5,6,7,8,9,10,11,12] ?_
   iterate 13 (refine ay (v:=?_) (T:=?_) ?ht ?hy hS ?_;(case hy=>intro w hSw;(try dsimp only at hSw); go_simp;try with_reducible rfl);case ht=>go_simp;try with_reducible rfl)
   refine aj ?_;refine ag 13 fun K hK=>?_;go_simp;have hLd:aS wr.drew G _:=hSd.out.uB;refine (sq wr.drew hSd.out.put.drew hLd).mono ?_;rintro e v1 ⟨rfl,n1,n2,n3⟩
   have hS1:v1.cell? ⟨Rw,q,none⟩=some (.int .u8 X):=by
    have hne:¬(Rw=G\/Rw=bp\/Rw=bl):=fun e=>by rcases e with e|e|e;exact Cw.1 e;exact Cw.2.1 e;exact Cw.2.2 e
    exact (n3.cell (p:=⟨Rw,q,none⟩) lw hne).trans c1
   have HQ:Hid (_/\_):=⟨TE.out v1 n1 n2,(TD.out.drew).trans n3⟩
   refine hK _ _ (fun _=>hS1) ?_;clear hK K n1 n2 n3 hS1;refine am ?_;go_wp2
   go_roundw
   case rel=>exact⟨k+1,by omega,by go_num,HQ.out.1,HQ.out.2⟩
   case measure=>simp[intOf];omega
  ·have hke:k=count:=by omega
   subst hke;have HR:Hid (_/\_):=⟨hS.uB,hkp⟩
   clear hS hkp;go_wp2
   go_end0
   exact⟨rfl,HR.out⟩
abbrev L0 (p:Pm.Ps):Value:=.agg #[.int .i64 (p.c0:Nat),.int .i64 (p.r0:Nat),.int .i64 (p.cs:Nat),.int .i64 (p.rs:Nat),.int .i64 (p.C:Nat),.int .i64 (p.R:Nat)]
theorem qp {w:World}{T:Nat}{a b c d e f:Value}{t:TypeId}(h:w.heap[T]?=some (.cells #[a,b,c,d,e,f] t (0,0))): w.cell? ⟨T,0,none⟩=some a/\w.cell? ⟨T,1,none⟩=some b/\w.cell? ⟨T,2,none⟩=some c/\w.cell? ⟨T,3,none⟩=some d/\w.cell? ⟨T,4,none⟩=some e/\w.cell? ⟨T,5,none⟩=some f/\T<w.heap.size :=
 ⟨aas _ _ _ _ _ _ h,aas _ _ _ _ _ _ h,aas _ _ _ _ _ _ h,aas _ _ _ _ _ _ h,aas _ _ _ _ _ _ h,aas _ _ _ _ _ _ h,aac h⟩
structure oC (w:World) (M bS bN G N W H n:Nat) (kd:Int) (dp:Nat) (ps:Bool) (pv sv:Value):Prop where
 m:w.heap[M]?=some (.cells #[.int .i64 (W:Nat),.int .i64 (H:Nat),.int .i64 kd,.int .i64 (dp:Nat),.bool ps,pv,sv] 24 (0,0))
 s:bK w bS (.slice (some ⟨G,0,none⟩) N N) 22
 n:bK w bN (.int .i64 (n:Nat)) 3
structure TI (M bS bN G Rw:Nat):Prop where
 gm:M≠G
 gs:bS≠G
 gn:bN≠G
 gr:Rw≠G
theorem oC.kept {w w':World}{M bS bN G N W H n:Nat}{kd:Int}{dp:Nat}{ps:Bool}{pv sv:Value}(h:oC w M bS bN G N W H n kd dp ps pv sv)(k:∀j,j=M\/j=bS\/j=bN->w'.heap[j]?=w.heap[j]?):oC w' M bS bN G N W H n kd dp ps pv sv :=
 ⟨(k _ (.inl rfl)).trans h.m,(k _ (.inr (.inl rfl))).trans h.s,(k _ (.inr (.inr rfl))).trans h.n⟩
theorem oC.below {w w':World}{M bS bN G N W H n:Nat}{kd:Int}{dp:Nat}{ps:Bool}{pv sv:Value}(h:oC w M bS bN G N W H n kd dp ps pv sv)(k:Below w.heap.size w w'):oC w' M bS bN G N W H n kd dp ps pv sv :=
 h.kept (fun j hj=>k.block j (by rcases hj with rfl|rfl|rfl;exact aac h.m;exact aac h.s;exact aac h.n))
theorem kX (kd:Int)(dp:Nat)(h:Pm.chan kd dp≠0):dp=1\/dp=2\/dp=4\/dp=8\/dp=16:=by
 unfold Pm.chan at h
 repeat' split at h
 all_goals omega
theorem Eg {u:World}{M bS bN G N W H n B0:Nat}{kd:Int}{dp:Nat}{ps:Bool}{pv sv a b c d e f:Value}(h:oC u M bS bN G N W H n kd dp ps pv sv/\u.heap[B0]?=some (.cells #[a,b,c,d,e,f] 93 (0,0))): (u.cell? ⟨M,0,none⟩=some (.int .i64 (W:Nat))/\u.cell? ⟨M,1,none⟩=some (.int .i64 (H:Nat))/\u.cell? ⟨M,2,none⟩=some (.int .i64 kd)/\u.cell? ⟨M,3,none⟩=some (.int .i64 (dp:Nat))/\u.cell? ⟨M,4,none⟩=some (.bool ps)/\u.cell? ⟨M,5,none⟩=some pv/\u.cell? ⟨M,6,none⟩=some sv) /\ u.cell? ⟨bS,0,none⟩=some (.slice (some ⟨G,0,none⟩) N N)/\u.cell? ⟨bN,0,none⟩=some (.int .i64 (n:Nat)) /\ (u.cell? ⟨B0,0,none⟩=some a/\u.cell? ⟨B0,1,none⟩=some b/\u.cell? ⟨B0,2,none⟩=some c/\u.cell? ⟨B0,3,none⟩=some d/\u.cell? ⟨B0,4,none⟩=some e/\u.cell? ⟨B0,5,none⟩=some f):=by
 obtain⟨x0,x1,x2,x3,x4,x5,x6⟩:=aR h.1.m;obtain⟨y0,y1,y2,y3,y4,y5,_⟩:=qp h.2;exact⟨⟨x0,x1,x2,x3,x4,x5,x6⟩,h.1.s.cell,h.1.n.cell,y0,y1,y2,y3,y4,y5⟩
theorem Im (W H n j dp:Nat)(kd:Int)(ps:Bool)(pv sv:Value)(p:Pm.Ps)(M bS bN G N Rw nr:Nat)(r out:List Int)(w:World)(hE:oC w M bS bN G N W H n kd dp ps pv sv)(hap:TI M bS bN G Rw)(hG:aS w G out)(hB:cL w Rw r)(hr:r.length=nr)(gr:∀j,0<=Pm.ai r j/\Pm.ai r j<256)(hnr:nr=Pm.rowLen p.C (n*dp))(hN:out.length=N)(hNe:N=W*H*n)(hin:p.In W H)(hj:j<p.R)(hch:Pm.chan kd dp=(n:Int))(hn:1<=n/\n<=4)(hW:W<=5000)(hH:H<=5000)(hps:p.c0<=8/\p.r0<=8/\p.rs<=8)(hcs:1<=p.cs/\p.cs<=8)(hC:1<=p.C/\p.C<=5000)(hR:p.R<=5000): Calls Tryz.prog 63 #[L0 p,.int .i64 (j:Nat),.slice (some ⟨Rw,0,none⟩) nr nr,.pointer (some ⟨bS,0,none⟩),.pointer (some ⟨M,0,none⟩),.pointer (some ⟨bN,0,none⟩)] w fun e w' =>
   e=.returned (.tuple #[])/\aS w' G (Pm.py p W n j (Pm.dk (Pm.ai r) dp) out (p.C*n))/\Kp (·=G) w w':=by
 have hfs:=fun u=>qo W H n j kd dp ps pv sv p u hch hW (by omega) hps hn.2
 have hidx:∀k,k<p.C*n->Pm.dP p W n j+Pm.oN n p.cs k<N:=fun k hk=>by
  rw[<-Pm.tr,hNe];exact Pm.Ps.D2 hin hj hk
 have QH:Pm.dP p W n j<N:=by
  have:=hidx 0 (Nat.mul_pos hC.1 hn.1);omega
 have hNb:N<=100000000:=by
  rw[hNe];have:W*H*n<=5000*5000*4:=abf (abf hW hH) hn.2;omega
 have hput:=fun u=>Pc (.slice (some ⟨G,Pm.dP p W n j,none⟩) (N-Pm.dP p W n j) (N-Pm.dP p W n j)) n p.cs u ⟨_,_,_,rfl⟩;have HL:=Pm.Lu p W n j (Pm.dk (Pm.ai r) dp) out (p.C*n);obtain⟨F,hF⟩:∃F,F=Pm.dP p W n j:=⟨_,rfl⟩
 rw[<-hF]at hfs hidx QH hput HL;have k0:=ae w (.cells #[.int .i64 (p.c0:Nat),.int .i64 (p.r0:Nat),.int .i64 (p.cs:Nat),.int .i64 (p.rs:Nat),.int .i64 (p.C:Nat),.int .i64 (p.R:Nat)] 93);have q0:=ah w (.cells #[.int .i64 (p.c0:Nat),.int .i64 (p.r0:Nat),.int .i64 (p.cs:Nat),.int .i64 (p.rs:Nat),.int .i64 (p.C:Nat),.int .i64 (p.R:Nat)] 93);have E0:=hE.below k0;have U9:=aac hG;have Tm:Hid (nr=Pm.rowLen p.C (n*dp)):=hnr;have HN:Hid (out.length=N):=hN;have Va:=aac hB;clear hF hNe hN hnr
 go_enter Tryz.func63,Tryz.ntmps63
 go_wp2_with fail;have k1:=k0.drew;have q1:(w.alloc (.cells #[.int .i64 (p.c0:Nat),.int .i64 (p.r0:Nat),.int .i64 (p.cs:Nat),.int .i64 (p.rs:Nat),.int .i64 (p.C:Nat),.int .i64 (p.R:Nat)] 93)).drew.heap[w.heap.size]?=_:=q0;have E1:oC (w.alloc (.cells #[.int .i64 (p.c0:Nat),.int .i64 (p.r0:Nat),.int .i64 (p.cs:Nat),.int .i64 (p.rs:Nat),.int .i64 (p.C:Nat),.int .i64 (p.R:Nat)] 93)).drew M bS bN G N W H n kd dp ps pv sv:=E0.kept (fun _ _=>rfl);have s1:(w.alloc (.cells #[.int .i64 (p.c0:Nat),.int .i64 (p.r0:Nat),.int .i64 (p.cs:Nat),.int .i64 (p.rs:Nat),.int .i64 (p.C:Nat),.int .i64 (p.R:Nat)] 93)).drew.heap.size=w.heap.size+1:=by simp
 refine ax (fun u=>oC u M bS bN G N W H n kd dp ps pv sv/\u.heap[w.heap.size]?=some (.cells #[.int .i64 (p.c0:Nat),.int .i64 (p.r0:Nat),.int .i64 (p.cs:Nat),.int .i64 (p.rs:Nat),.int .i64 (p.C:Nat),.int .i64 (p.R:Nat)] 93 (0,0))) 99 ?_;generalize (w.alloc (.cells #[.int .i64 (p.c0:Nat),.int .i64 (p.r0:Nat),.int .i64 (p.cs:Nat),.int .i64 (p.rs:Nat),.int .i64 (p.C:Nat),.int .i64 (p.R:Nat)] 93)).drew=v0 at *;have hS:oC v0 M bS bN G N W H n kd dp ps pv sv/\v0.heap[w.heap.size]?=some (.cells #[.int .i64 (p.c0:Nat),.int .i64 (p.r0:Nat),.int .i64 (p.cs:Nat),.int .i64 (p.rs:Nat),.int .i64 (p.C:Nat),.int .i64 (p.R:Nat)] 93 (0,0)):=⟨E1,q1⟩
 refine ap [0,1,2,3,6,7,8] ?_
 iterate 7 (refine ay (v:=?_) (T:=?_) ?ht ?hy hS ?_;(case hy=>intro w hSw;have xP := Eg hSw; go_simp;try with_reducible rfl);case ht=>go_simp;try with_reducible rfl)
 refine aj ?_;refine ag 4 fun K hK=>?_;go_simp;refine (hfs _).mono ?_;rintro e v1 ⟨rfl,b1⟩;have S1:oC v1 M bS bN G N W H n kd dp ps pv sv/\v1.heap[w.heap.size]?=some (.cells #[.int .i64 (p.c0:Nat),.int .i64 (p.r0:Nat),.int .i64 (p.cs:Nat),.int .i64 (p.rs:Nat),.int .i64 (p.C:Nat),.int .i64 (p.R:Nat)] 93 (0,0)):=⟨E1.below b1,(b1.block _ (aac q1)).trans q1⟩
 refine hK _ _ (fun _=>S1) ?_;clear hK K;have hFN:(F:Int)<=(N:Int):=by omega
 have ab0:N≠F:=by omega
 have eFN:(N:Int)-(F:Int)=((N-F:Nat):Int):=by omega
 refine ap [5] ?_
 iterate 1 (refine ay (v:=?_) (T:=?_) ?ht ?hy S1 ?_;(case hy=>intro w hSw;have xP := Eg hSw; go_simp;try with_reducible rfl);case ht=>go_simp;try with_reducible rfl)
 refine aj ?_;refine ag 9 fun K hK=>?_;go_simp;refine (hput _).mono ?_;rintro e v2 ⟨bp,bl,rfl,hP2,hbb,b2⟩;have S2:oC v2 M bS bN G N W H n kd dp ps pv sv/\v2.heap[w.heap.size]?=some (.cells #[.int .i64 (p.c0:Nat),.int .i64 (p.r0:Nat),.int .i64 (p.cs:Nat),.int .i64 (p.rs:Nat),.int .i64 (p.C:Nat),.int .i64 (p.R:Nat)] 93 (0,0)):=⟨S1.1.below b2,(b2.block _ (aac S1.2)).trans S1.2⟩
 refine hK _ _ (fun _=>S2) ?_;clear hK K;refine ap [10] ?_
 iterate 1 (refine ay (v:=?_) (T:=?_) ?ht ?hy S2 ?_;(case hy=>intro w hSw;(try dsimp only at hSw); go_simp;try with_reducible rfl);case ht=>go_simp;try with_reducible rfl)
 refine aj ?_;refine am ?_;have z1:=b1.size;have zp:Below w.heap.size w v1:=k1.trans (b1.mono (by omega));have Cx:Below w.heap.size w v2:=zp.trans (b2.mono (by omega));have hG2:aS v2 G out:=(Cx.block _ U9).trans hG;have hB2:cL v2 Rw r:=(Cx.block _ Va).trans hB
 have hPS:zo v2 v1.heap.size bp bl (v1.heap.size+2) (v1.heap.size+1) G F (N-F) (N-F) p.cs n (Pm.dk (Pm.ai r) dp) out 0:=by
  refine⟨?_,hG2⟩;rw[show Pm.oN n p.cs 0=0 by unfold Pm.oN;simp,show n-0%n=n by simp];exact hP2
 have hPA:O9 v1.heap.size bp bl (v1.heap.size+2) (v1.heap.size+1) G:=by
  constructor<;>omega
 have Cw:Rw≠G/\Rw≠bp/\Rw≠bl:=⟨hap.gr,by omega,by omega⟩
 have Xz:nr<=1000000:=by
  rw[Tm.out];unfold Pm.rowLen;have Am:dp<=16:=by rcases kX kd dp (by rw[hch];omega) with h|h|h|h|h<;>omega
  have h1:n*dp<=4*16:=abf hn.2 Am;have h2:p.C*(n*dp)<=5000*64:=abf hC.2 h1;omega
 have hcnt:p.C*n<=5000*4:=abf hC.2 hn.2
 have hes:Calls Tryz.prog 66 #[.slice (some ⟨Rw,0,none⟩) nr nr,.int .i64 (dp:Nat),.int .i64 ((p.C*n:Nat):Int),Pa v1.heap.size bp bl (v1.heap.size+2) (v1.heap.size+1)] v2 fun e w' =>
   e=.returned (.tuple #[])/\aS w' G (Pm.sK F n p.cs (Pm.dk (Pm.ai r) dp) out (p.C*n))/\Kp (fun k=>k=G\/k=bp\/k=bl) v2 w':=by
  have hdp:=kX kd dp (by rw[hch];omega);have hsi:=fun k hk=>Pm.y9 p.C n dp k hdp hk;by_cases h16:dp=16
  ·subst h16;refine Pd _ _ _ _ _ G F (N-F) (N-F) p.cs n Rw nr (p.C*n) r out v2 hB2 hr gr hPS hPA Cw hn hcs (fun k hk=>⟨?_,?_,?_⟩) (by have:=HN.out;omega) Xz (by omega)
   ·rw[Tm.out];exact (hsi k hk).1 rfl
   ·have:=hidx k hk;have:=HN.out;omega
   ·have:=hidx k hk;have:=HN.out;omega
  ·refine TH dp (by omega) _ _ _ _ _ G F (N-F) (N-F) p.cs n Rw nr (p.C*n) r out v2 hB2 hr gr hPS hPA Cw hn hcs (fun k hk=>⟨?_,?_,?_⟩) (by have:=HN.out;omega) Xz (by omega)
   ·rw[Tm.out];exact (hsi k hk).2 h16
   ·have:=hidx k hk;have:=HN.out;omega
   ·have:=hidx k hk;have:=HN.out;omega
 have ecn:(p.C:Int)*(n:Int)=((p.C*n:Nat):Int):=by push_cast;rfl
 obtain⟨cn,hcn⟩:∃cn,cn=p.C*n:=⟨_,rfl⟩
 rw[<-hcn]at hes ecn hcnt;have wcn:IntKind.i64.wrap (cn:Int)=(cn:Int):=aan _ (by omega);have HCN:Hid (cn=p.C*n):=hcn;clear hcn;have HKW:Hid (Below w.heap.size w v2):=Cx;obtain⟨⟨x0,x1,x2,x3,x4,x5,x6⟩,x7,x8,y0,y1,y2,y3,y4,y5⟩:=Eg S2;have HLL:Hid (_):=HL;clear hPS hPA hB2 hG2 zp Cx S1 S2 hidx HL hput hfs hB hG hE hin E0 E1 k0 k1 q0 q1 hP2 b1 b2;go_wp2_with fail;refine hes.mono ?_;rintro e v3 ⟨rfl,l3,Cv⟩;go_wp2
 go_end0
 refine⟨rfl,?_,?_⟩
 ·rw[HLL.out,<-HCN.out];exact l3
 ·exact (Kp.aH HKW.out).then Cv (fun i hi e=>by rcases e with e|e|e;exact e;omega;omega)
theorem XA:(Tryz.prog.info? 5).map (·.size)=some 1:=by kernel_rfl
theorem zq (n:Nat)(hn:n<=1000000000)(Z:List Value)(hZ:Z=List.replicate n (.int .u8 0))(u:World): (Instr.makeSlice 36 (.int .i64 (n:Int)) (.int .i64 (n:Int))).run Tryz.prog u=.ok (.slice (some ⟨u.heap.size,0,none⟩) n n) (u.alloc (.cells Z.toArray 5)):=by
 obtain⟨i0,hi,hz0,hz1,hz2⟩:=abx Tryz.info5;have h:=run_make (P:=Tryz.prog) u 36 5 i0 (.int .u8 0) Tryz.underlying36 hi hz0 .i64 .i64 (n:Int) (n:Int) (by omega) (ab2 _) (by rw[hz2];omega) (by omega)
 have e2:(madeCells #[Value.int .u8 0] n)=Z.toArray:=by
  rw[hZ,<-toList_madeCells_one]
 simpa[hz1,Value.cells,e2]using h
theorem wi {P:Program}(w:World)(dT sT ty elem:TypeId)(g n dCap:Nat)(s:ByteArray)(cur:List Value)(t:TypeId)(hu:P.underlying dT=some (.slice elem))(hs:(P.info? elem).map (·.size)=some 1)(hg:w.heap[g]?=some (.cells cur.toArray t (0,0)))(hle:n<=s.size)(hcur:cur.length=n): (Builtin.copy_ #[dT,sT] ty #[.slice (some ⟨g,0,none⟩) n dCap,.string s]).run P w=.ok (goInt n) (w.setRow g ((s.data.toList.take n).map fun b:UInt8=>Value.int IntKind.u8 (b.toNat:Int)).toArray):=by
 have hlen:((s.data.toList.take n).map fun b:UInt8=>Value.int IntKind.u8 (b.toNat:Int)).length=n:=by
  rw[abZ,aaX];have:s.data.toList.length=s.size:=rfl;omega
 have hst:=run_storeCells_at P g 0 t ((s.data.toList.take n).map fun b:UInt8=>Value.int IntKind.u8 (b.toNat:Int)) 0 cur.toArray w hg (by rw[hlen];simp[hcur]) (fun v hv=>by
  rw[adj]at hv;obtain⟨b,_,rfl⟩:=hv
  rfl)
 have hmin:Nat.min s.size n=n:=Nat.min_eq_right hle;rw[hlen]at hst;simp only[acq,List.take_zero,aa9,List.drop_of_length_le (Nat.le_of_eq hcur),abm,aaR]at hst;cases hq:P.info? elem with
 | none=>simp[hq]at hs
 | some i =>
  simp[Builtin.copy_,run_underlying hu,Builtin.lenOf,Builtin.firstCells,sizeOf,typeInfo,hq,hmin];rw[<-List.map_take,hst];simp[Result.andThen]
theorem Kp.setRow {S:Nat->Prop}{a w:World}(h:Kp S a w){g:Nat}(hg:S g\/a.heap.size<=g)(cs:Array Value):Kp S a (w.setRow g cs) :=
 ⟨h.os,h.tape,h.output,by have:=h.size;simpa[World.setRow]using this,fun k hk hs=>(setRow_other w g k cs (fun e=>by
  subst e;rcases hg with hg|hg
  ·exact hs hg
  ·omega)).trans (h.block k hk hs)⟩
theorem Eh (s:ByteArray)(n:Nat)(h:n<=s.size):((s.data.toList.take n).map fun b:UInt8=>Value.int IntKind.u8 (b.toNat:Int))=cZ ((List.range n).map fun i=>(af s i:Int)):=by
 have hl:s.data.toList.length=s.size:=rfl;refine ace (by simp[cZ];omega) fun j h1 h2=>?_;simp only[abZ,aaX]at h1;simp only[cZ,acI,List.getElem_take,acQ];unfold af;rw[aad,aaj (by omega)];rfl
theorem L5 {P F:Nat->Nat->World->Prop}{G:Prop}(h1:(∀a b u,F a b u->P a b u)->G)(h2:∀a b u,F a b u->P a b u):G:=h1 h2
theorem L6 (args:Array Value)(w:World):(callFunc 63 args).run Tryz.prog w=.ok (.enter 63 args) w:=by kernel_rfl
abbrev Pe (M bS bN:Nat):Value:=.func (.func 63) #[] #[.pointer (some ⟨bS,0,none⟩),.pointer (some ⟨M,0,none⟩),.pointer (some ⟨bN,0,none⟩)]
abbrev aG (W H:Nat)(kd:Int)(dp:Nat)(ps:Bool)(pv sv:Value):Array Value:=#[.int .i64 (W:Nat),.int .i64 (H:Nat),.int .i64 kd,.int .i64 (dp:Nat),.bool ps,pv,sv]
structure nS (w:World) (E bL bD M bS bN G N W H n:Nat) (kd:Int) (dp:Nat) (ps:Bool) (pv sv:Value) (lead:Nat):Prop where
 m:w.heap[E]?=some (.cells (aG W H kd dp ps pv sv) 24 (0,0))
 l:bK w bL (.int .i64 (lead:Nat)) 3
 d:bK w bD (Pe M bS bN) 102
 s:oC w M bS bN G N W H n kd dp ps pv sv
structure vh (E bR bL bD M bS bN G:Nat):Prop where
 g:E≠G/\bR≠G/\bL≠G/\bD≠G/\M≠G/\bS≠G/\bN≠G
 r:E≠bR/\bL≠bR/\bD≠bR/\M≠bR/\bS≠bR/\bN≠bR
theorem nS.kept {w w':World}{E bL bD M bS bN G N W H n:Nat}{kd:Int}{dp:Nat}{ps:Bool}{pv sv:Value}{lead:Nat}(h:nS w E bL bD M bS bN G N W H n kd dp ps pv sv lead)(k:∀j,j=E\/j=bL\/j=bD\/j=M\/j=bS\/j=bN->w'.heap[j]?=w.heap[j]?):nS w' E bL bD M bS bN G N W H n kd dp ps pv sv lead :=
 ⟨(k _ (.inl rfl)).trans h.m,(k _ (.inr (.inl rfl))).trans h.l,(k _ (.inr (.inr (.inl rfl)))).trans h.d,h.s.kept (fun j hj=>k j (.inr (.inr (.inr hj))))⟩
theorem nS.lt {w:World}{E bL bD M bS bN G N W H n:Nat}{kd:Int}{dp:Nat}{ps:Bool}{pv sv:Value}{lead:Nat}(h:nS w E bL bD M bS bN G N W H n kd dp ps pv sv lead)(j:Nat)(hj:j=E\/j=bL\/j=bD\/j=M\/j=bS\/j=bN):j<w.heap.size:=by
 rcases hj with rfl|rfl|rfl|rfl|rfl|rfl
 ·exact aac h.m
 ·exact aac h.l
 ·exact aac h.d
 ·exact aac h.s.m
 ·exact aac h.s.s
 ·exact aac h.s.n
theorem nS.kp {w w':World}{E bR bL bD M bS bN G N W H n:Nat}{kd:Int}{dp:Nat}{ps:Bool}{pv sv:Value}{lead:Nat}(h:nS w E bL bD M bS bN G N W H n kd dp ps pv sv lead)(ha:vh E bR bL bD M bS bN G)(k:Kp (fun k=>k=G\/k=bR) w w'):nS w' E bL bD M bS bN G N W H n kd dp ps pv sv lead:=by
 obtain⟨⟨g1,g2,g3,g4,g5,g6,g7⟩,r1,r2,r3,r4,r5,r6⟩:=ha;refine h.kept (fun j hj=>k.block j (h.lt j hj) (fun e=>?_));rcases hj with rfl|rfl|rfl|rfl|rfl|rfl<;>rcases e with e|e<;>contradiction
theorem nS.below {w w':World}{E bL bD M bS bN G N W H n:Nat}{kd:Int}{dp:Nat}{ps:Bool}{pv sv:Value}{lead:Nat}(h:nS w E bL bD M bS bN G N W H n kd dp ps pv sv lead)(k:Below w.heap.size w w'):nS w' E bL bD M bS bN G N W H n kd dp ps pv sv lead :=
 h.kept (fun j hj=>k.block j (h.lt j hj))
structure RInv (w wr:World) (m:Pm.dA) (T:ByteArray) (p:Pm.Ps) (o G bR ra aa size j:Nat) (out:List Int) (s:Pm.RS):Prop where
 at_:Pm.fE m (af T) p o out j=some s
 uB:aS wr G s.out
 raw:bK wr bR (.string (T.extract (o+j*(1+size)) T.size)) 9
 ab:∃al,cL wr aa al/\al.length=size/\Pm.ai al=s.above
 ro:∃rl,cL wr ra rl/\rl.length=size
 kp:Kp (fun k=>k=G\/k=bR) w wr
 fresh:w.heap.size<ra/\w.heap.size<aa/\ra≠aa
 pa:wr.heap[w.heap.size]?=some (.cells #[.int .i64 (p.c0:Nat),.int .i64 (p.r0:Nat),.int .i64 (p.cs:Nat),.int .i64 (p.rs:Nat),.int .i64 (p.C:Nat),.int .i64 (p.R:Nat)] 93 (0,0))
inductive FV (m:Pm.dA) (T:ByteArray) (p:Pm.Ps) (o G bR:Nat) (out:List Int) (w:World):Ending->World->Prop
 | no {w'}:Pm.fE m (af T) p o out p.R=none->Kp (fun k=>k=G\/k=bR) w w'->FV m T p o G bR out w (dies 15) w'
 | ok {w' s}:Pm.fE m (af T) p o out p.R=some s->aS w' G s.out->bK w' bR (.string (T.extract (o+p.R*(1+Pm.rowLen p.C m.bits)) T.size)) 9->Kp (fun k=>k=G\/k=bR) w w'->FV m T p o G bR out w (.returned (.tuple #[])) w'
theorem Ei (n:Nat):Pm.ai (List.replicate n (0:Int))=fun _=>0:=by
 funext i
 unfold Pm.ai;rw[aad,aci];split<;>rfl
theorem su (T:ByteArray)(q i:Nat)(h:q+i<T.size):af (T.extract q T.size) i=af T (q+i):=bU T q T.size i h (aaf _)
theorem tail_size (T:ByteArray)(q:Nat):(T.extract q T.size).size=T.size-q:=by rw[aaO];omega
theorem xQ (T:ByteArray)(q d:Nat)(_h:q+d<=T.size):(T.extract q T.size).extract d (T.extract q T.size).size=T.extract (q+d) T.size:=by
 rw[tail_size,ByteArray.extract_extract]
 congr 1
 omega
theorem L7 (T:ByteArray)(q size ra:Nat)(rl:List Int)(wr:World)(hq:q+1+size<=T.size)(hB:cL wr ra rl)(hl:rl.length=size): ∃v1,(Builtin.copy_ #[36,9] 3 #[.slice (some ⟨ra,0,none⟩) size size,.string ((T.extract q T.size).extract 1 (T.extract q T.size).size)]).run Tryz.prog wr=.ok (goInt size) v1 /\ cL v1 ra ((List.range size).map fun i=>((af T (q+1+i):Nat):Int))/\Kp (·=ra) wr v1:=by
 rw[xQ T q 1 (by omega)];have hsz:=tail_size T (q+1);refine⟨_,wi (P:=Tryz.prog) wr 36 9 3 5 ra size size (T.extract (q+1) T.size) (cZ rl) 5 Tryz.underlying36 XA hB (by omega) (by simp[cZ,hl]),?_,Kp.setRow (S:=(·=ra)) (Kp.refl _ _) (.inl rfl) _⟩;refine (setRow_heap wr ra _ _ 5 (0,0) hB).trans ?_;rw[Eh _ _ (by omega)]
 have e:(List.range size).map (fun i=>(af (T.extract (q+1) T.size) i:Int))=(List.range size).map fun i=>((af T (q+1+i):Nat):Int):=by
  refine acS fun i hi=>?_;rw[List.mem_range]at hi;rw[su _ _ _ (by omega)]
 rw[e]
theorem vj (W H n dp:Nat)(hn:1<=n/\n<=4)(hdp:dp=1\/dp=2\/dp=4\/dp=8\/dp=16):1<=Pm.dA.lead ⟨W,H,n,dp⟩/\Pm.dA.lead ⟨W,H,n,dp⟩<=8:=by
 unfold Pm.dA.lead Pm.dA.bits;dsimp only;have h1:n*dp<=4*16:=abf hn.2 (by omega);have h2:1*1<=n*dp:=abf hn.1 (by omega);omega
theorem QP (W H n dp:Nat)(kd:Int)(ps:Bool)(pv sv:Value)(T:ByteArray)(p:Pm.Ps)(E bR bL bD M bS bN G N o:Nat)(out:List Int)(w:World)(hE:nS w E bL bD M bS bN G N W H n kd dp ps pv sv (Pm.dA.lead ⟨W,H,n,dp⟩))(hap:vh E bR bL bD M bS bN G)(hG:aS w G out)(hraw:bK w bR (.string (T.extract o T.size)) 9)(hin:p.In W H)(hol:o+Pm.c9 ⟨W,H,n,dp⟩ p<=T.size)(_hT:T.size<=5000000)(hN:out.length=N)(hNe:N=W*H*n)(hpos:∀y∈out,0<=y)(hch:Pm.chan kd dp=(n:Int))(hn:1<=n/\n<=4)(hW:W<=5000)(hH:H<=5000)(hps:p.c0<=8/\p.r0<=8/\p.rs<=8)(hcs:1<=p.cs/\p.cs<=8)(hC:1<=p.C/\p.C<=5000)(hR:p.R<=5000): Calls Tryz.prog 94 #[L0 p,.pointer (some ⟨E,0,none⟩),.pointer (some ⟨bR,0,none⟩),.pointer (some ⟨bL,0,none⟩),.pointer (some ⟨bD,0,none⟩)] w fun e w'=>FV ⟨W,H,n,dp⟩ T p o G bR out w e w':=by
 have hdp:=kX kd dp (by rw[hch];omega);obtain⟨lead,hlead⟩:∃l,l=Pm.dA.lead ⟨W,H,n,dp⟩:=⟨_,rfl⟩
 rw[<-hlead]at hE;have hld:1<=lead/\lead<=8:=by rw[hlead];exact vj W H n dp hn hdp
 have Vb:Hid (lead=Pm.dA.lead ⟨W,H,n,dp⟩):=hlead;clear hlead;have hcall:=L6;have hrb:=fun u=>vb W H kd dp ps pv sv (p.c0:Nat) (p.r0:Nat) (p.cs:Nat) (p.rs:Nat) (p.C:Nat) (p.R:Nat) u (by omega) (by rw[hch];omega)
 have TJ:(((p.C:Nat):Int)*(Pm.chan kd dp*(dp:Int))+7)/8=((Pm.rowLen p.C (n*dp):Nat):Int):=by
  rw[hch];unfold Pm.rowLen;push_cast;rfl
 rw[TJ]at hrb;have Am:dp<=16:=by rcases hdp with h|h|h|h|h<;>omega
 have hsz:Pm.rowLen p.C (n*dp)<=1000000:=by
  unfold Pm.rowLen;have h1:n*dp<=4*16:=abf hn.2 Am;have h2:p.C*(n*dp)<=5000*64:=abf hC.2 h1;omega
 have XB:Hid (∃size,size=Pm.rowLen p.C (n*dp)):=⟨_,rfl⟩
 obtain⟨size,hsize⟩:=XB.out;rw[<-hsize]at hrb hsz;have tS:Hid (size=Pm.rowLen p.C (n*dp)):=hsize;obtain⟨Z,hZ⟩:∃Z:List Value,Z=List.replicate size (.int .u8 0):=⟨_,rfl⟩
 have hmk:=fun u=>zq size (by omega) Z hZ u;have HZ:Hid (Z=cZ (List.replicate size 0)):=by show _=_;rw[hZ];simp[cZ]
 have k0:=ae w (.cells #[.int .i64 (p.c0:Nat),.int .i64 (p.r0:Nat),.int .i64 (p.cs:Nat),.int .i64 (p.rs:Nat),.int .i64 (p.C:Nat),.int .i64 (p.R:Nat)] 93);have q0:=ah w (.cells #[.int .i64 (p.c0:Nat),.int .i64 (p.r0:Nat),.int .i64 (p.cs:Nat),.int .i64 (p.rs:Nat),.int .i64 (p.C:Nat),.int .i64 (p.R:Nat)] 93);have E0:=hE.below k0;have z0:=aR E0.m;have L8:Hid (_/\_/\_/\_):=⟨hE,hG,hraw,q0⟩
 have uc:Hid (_/\_/\_/\_/\_):=⟨hin,hol,hN,hNe,hpos⟩
 clear hsize hZ XB hE hG hraw q0 E0 hin hol hN hNe hpos TJ
 go_enter Tryz.func94,Tryz.ntmps94
 go_wp2_with fail;refine (hrb _).mono ?_;rintro e w1 ⟨rfl,b1⟩;go_wp2_with fail;have zp:Below w.heap.size w w1:=k0.trans (b1.mono (by simp));have q1:=(b1.block _ (by simp)).trans L8.out.2.2.2;have hlt1:=aac q1;have yv:Hid (_/\_):=⟨zp,q1⟩
 clear zp q1 b1 k0 z0 hrb;apply L5 (F:=fun A B u=>Below w.heap.size w u/\u.heap[w.heap.size]?=some (.cells #[.int .i64 (p.c0:Nat),.int .i64 (p.r0:Nat),.int .i64 (p.cs:Nat),.int .i64 (p.rs:Nat),.int .i64 (p.C:Nat),.int .i64 (p.R:Nat)] 93 (0,0))/\cL u A (List.replicate size 0)/\cL u B (List.replicate size 0)/\w.heap.size<A/\w.heap.size<B/\A≠B)
 ·intro rest;obtain⟨kk,y0,y1⟩:=bM w1 (.cells Z.toArray 5) (.cells Z.toArray 5);have z0z:Hid (Below w1.heap.size w1 _/\_/\_):=⟨kk,y0,y1⟩
  clear kk y0 y1
  go_region
  ·have hF:Below w.heap.size w ((w1.alloc (.cells Z.toArray 5)).alloc (.cells Z.toArray 5)).drew/\((w1.alloc (.cells Z.toArray 5)).alloc (.cells Z.toArray 5)).drew.heap[w.heap.size]?=some (.cells #[.int .i64 (p.c0:Nat),.int .i64 (p.r0:Nat),.int .i64 (p.cs:Nat),.int .i64 (p.rs:Nat),.int .i64 (p.C:Nat),.int .i64 (p.R:Nat)] 93 (0,0))/\cL ((w1.alloc (.cells Z.toArray 5)).alloc (.cells Z.toArray 5)).drew w1.heap.size (List.replicate size 0)/\cL ((w1.alloc (.cells Z.toArray 5)).alloc (.cells Z.toArray 5)).drew (w1.heap.size+1) (List.replicate size 0)/\w.heap.size<w1.heap.size/\w.heap.size<w1.heap.size+1/\w1.heap.size≠w1.heap.size+1:=by
    obtain⟨kk,y0,y1⟩:=z0z.out;rw[HZ.out]at y0 y1 kk ⊢;exact⟨(yv.out.1.trans (kk.mono (by omega))).drew,(kk.block _ hlt1).trans yv.out.2,y0,y1,by omega,by omega,by omega⟩
   revert hF;generalize World.drew _=u;generalize w1.heap.size+1=A2;generalize w1.heap.size=A1;intro hF;have r:=rest A1 A2 u hF;exact r
  ·have hF:Below w.heap.size w ((w1.alloc (.cells Z.toArray 5)).alloc (.cells Z.toArray 5)).drew/\((w1.alloc (.cells Z.toArray 5)).alloc (.cells Z.toArray 5)).drew.heap[w.heap.size]?=some (.cells #[.int .i64 (p.c0:Nat),.int .i64 (p.r0:Nat),.int .i64 (p.cs:Nat),.int .i64 (p.rs:Nat),.int .i64 (p.C:Nat),.int .i64 (p.R:Nat)] 93 (0,0))/\cL ((w1.alloc (.cells Z.toArray 5)).alloc (.cells Z.toArray 5)).drew (w1.heap.size+1) (List.replicate size 0)/\cL ((w1.alloc (.cells Z.toArray 5)).alloc (.cells Z.toArray 5)).drew w1.heap.size (List.replicate size 0)/\w.heap.size<w1.heap.size+1/\w.heap.size<w1.heap.size/\w1.heap.size+1≠w1.heap.size:=by
    obtain⟨kk,y0,y1⟩:=z0z.out;rw[HZ.out]at y0 y1 kk ⊢;exact⟨(yv.out.1.trans (kk.mono (by omega))).drew,(kk.block _ hlt1).trans yv.out.2,y1,y0,by omega,by omega,by omega⟩
   revert hF;generalize World.drew _=u;generalize w1.heap.size+1=A2;generalize w1.heap.size=A1;intro hF;have r:=rest A2 A1 u hF;exact r
 ·intro A1 A2 u hu;clear yv hlt1 hmk HZ;obtain⟨ku,pu,u1,u2,l1,l2,ZK⟩:=hu;obtain⟨x0,x1,x2,x3,x4,x5,xl⟩:=qp pu;have HKU:Hid (_/\_/\_/\_):=⟨ku,pu,u1,u2⟩
  clear ku pu u1 u2;go_wp2
  go_loopw [7,8,20] (fun rv av ix wr=>∃(j ra aa:Nat) (s:Pm.RS),j<=p.R/\ix=.int .i64 j/\rv=.slice (some ⟨ra,0,none⟩) size size/\av=.slice (some ⟨aa,0,none⟩) size size/\Hid (RInv w wr ⟨W,H,n,dp⟩ T p o G bR ra aa size j out s)) (fun _ _ ix _=>p.R-(intOf ix).toNat)
  case atStart =>
   refine⟨0,A1,A2,⟨fun _=>0,out⟩,aao _,rfl,rfl,rfl,?_⟩;obtain⟨ku,pu,u1,u2⟩:=HKU.out;obtain⟨hE,hG,hraw,_⟩:=L8.out;exact⟨rfl,(ku.block _ (aac hG)).trans hG,(ku.block _ (aac hraw)).trans (by rw[Nat.zero_mul,acq];exact hraw),⟨_,u2,by simp,Ei size⟩,⟨_,u1,by simp⟩,Kp.aH ku,⟨l1,l2,ZK⟩,pu⟩
  case round =>
   obtain⟨j,ra,aa,s,hj,rfl,rfl,rfl,HI⟩:=hrel;by_cases hlt:j<p.R
   ·have hlt':(j:Int)<(p.R:Int):=by omega
    obtain⟨hin,hol,hN,hNe,hpos⟩:=uc.out;have hat:=HI.out.at_;have vk:=Pm.me _ _ _ _ _ hpos _ _ hat;obtain⟨al,hBa,hal,hga⟩:=HI.out.ab;obtain⟨rl,hBr,hrl⟩:=HI.out.ro;have hkp:=HI.out.kp;have hraw:=HI.out.raw;have Io:=HI.out.uB;obtain⟨f1,f2,f3⟩:=HI.out.fresh;have hEr:=L8.out.1.kp hap hkp;have hri:=Pm.row_in ⟨W,H,n,dp⟩ p o j hlt hol;have hmb:Pm.rowLen p.C (Pm.dA.bits ⟨W,H,n,dp⟩)=size:=tS.out.symm;rw[hmb]at hri;obtain⟨q,hq⟩:∃q,q=o+j*(1+size):=⟨_,rfl⟩
    rw[<-hq]at hri hraw;have hgr:∀i,0<=Pm.ai al i/\Pm.ai al i<256:=fun i=>by rw[hga];exact vk.2.2 i
    have L9:Hid (∀u:World,∀l':List Int,4<af T q->Pm.fE ⟨W,H,n,dp⟩ (af T) p o out p.R=none):=fun _ _ h4=>by
     have h0:Pm.fE ⟨W,H,n,dp⟩ (af T) p o out (j+1)=none:=by
      show (Pm.fE _ _ _ _ _ j).bind _=none;rw[hat];show Pm.jT _ _ _ _ _ _=none;unfold Pm.jT;rw[hmb,<-hq,aai h4]
     have:=Pm.uQ _ _ _ _ _ (j+1) h0 (p.R-(j+1));rw[show j+1+(p.R-(j+1))=p.R by omega]at this;exact this
    have HGo:Hid (¬4<af T q->Pm.fE ⟨W,H,n,dp⟩ (af T) p o out (j+1)=some ⟨Pm.ai (Pm.nG (af T q) lead (Pm.ai al) (fun i=>((af T (q+1+i):Nat):Int)) size),Pm.py p W n j (Pm.dk (Pm.ai (Pm.nG (af T q) lead (Pm.ai al) (fun i=>((af T (q+1+i):Nat):Int)) size)) dp) s.out (p.C*n)⟩):=fun h4=>by
     show (Pm.fE _ _ _ _ _ j).bind _=_;rw[hat];show Pm.jT _ _ _ _ _ _=_;unfold Pm.jT;rw[hmb,<-hq,aag h4,hga,<-Vb.out]
    obtain⟨R,hRr⟩:∃R,R=T.extract q T.size:=⟨_,rfl⟩
    have hRs:R.size=T.size-q:=by rw[hRr];exact tail_size T q
    have hf0:af R 0=af T q:=by rw[hRr,su _ _ _ (by omega)];rfl
    have ab9:0<R.size:=by omega
    have g0:=ct R 0 ab9;have hR0:(0:Int)<(R.size:Int):=by omega
    have htk:=fun u=>vg (af R 0) u;obtain⟨v1,hcp,hB1,ly⟩:=L7 T q size ra rl wr (by omega) hBr hrl;have htt:=xQ T q (1+size) (by omega);rw[<-hRr]at hraw hcp htt;have xB:Hid (R.extract (1+size) R.size=T.extract (q+(1+size)) T.size):=htt;rw[hf0]at g0 htk;obtain⟨f,hf⟩:∃f,f=af T q:=⟨_,rfl⟩
    rw[<-hf]at g0 htk L9 HGo;obtain⟨r0,rf,RA⟩:=one_cell hraw;have HQQ:Hid (q+(1+size)=o+(j+1)*(1+size)):=by show _=_;rw[hq,acr];omega
    have HW:Hid (_/\_/\_/\_/\_/\_/\_/\_):=⟨hBa,hB1,Io,hkp,ly,hEr,HI.out.pa,hraw⟩
    have HV:Hid (_/\_/\_/\_):=⟨hgr,hal,hin,And.intro (vk.1.trans hN) hNe⟩
    have ahD:(1:Int)+(size:Int)<=(R.size:Int):=by omega
    have ZN:(1:Int)<=(R.size:Int):=by omega
    clear hat vk hBa hga hBr hkp hraw Io hEr hmb hq hgr hf0 hRr hRs hB1 ly htt hf hin hol hN hNe hpos;go_wp2_with fail;refine (htk _).mono ?_;intro e w' he;cases he with
    | no h4 =>
     go_wp2;exact⟨rfl,.no (L9.out wr out h4) HW.out.2.2.2.1⟩
    | ok h4 =>
     have h4':¬4<f:=by omega
     have HG2:Hid (_):=HGo.out h4';clear htk L9 HGo;obtain⟨hBa,hB1,Io,hkp,ly,hEr,hpa,hraw⟩:=HW.out;obtain⟨hgr,hal,hin,hN,hNe⟩:=HV.out;obtain⟨hgg,hrr⟩:=And.intro hap.g hap.r;have Vc:=L8.out.1.lt;have U9:=aac L8.out.2.1;have Va:=aac L8.out.2.2.1;have zkp:=hkp.size;have Ip:bK v1 bR (.string R) 9:=(ly.block bR RA (by omega)).trans hraw;have TK:nS v1 E bL bD M bS bN G N W H n kd dp ps pv sv lead:=hEr.kept (fun j hj=>ly.block j (hEr.lt j hj) (by have:=Vc j hj;omega));have XC:aS v1 G s.out:=(ly.block G (aac Io) (by omega)).trans Io;have ba1:cL v1 aa al:=(ly.block aa (aac hBa) (by omega)).trans hBa;have pa1:=(ly.block w.heap.size (aac hpa) (by omega)).trans hpa;have k1:Kp (fun k=>k=G\/k=bR) w v1:=hkp.then ly (fun i hi e=>by omega)
     have sP:=one_set Ip (.string (R.extract (1+size) R.size));have Iq:=fun g (hg:g≠bR)=>aI v1 bR 0 (.string (R.extract (1+size) R.size)) g hg;have Ir:=TK.kept (w':=v1.setCell ⟨bR,0,none⟩ (.string (R.extract (1+size) R.size))) (fun j hj=>Iq j (by rcases hj with rfl|rfl|rfl|rfl|rfl|rfl;exact hrr.1;exact hrr.2.1;exact hrr.2.2.1;exact hrr.2.2.2.1;exact hrr.2.2.2.2.1;exact hrr.2.2.2.2.2));have Iu:aS (v1.setCell ⟨bR,0,none⟩ (.string (R.extract (1+size) R.size))) G s.out:=(Iq G (by have:=hgg.2.1;omega)).trans XC;have TL:cL (v1.setCell ⟨bR,0,none⟩ (.string (R.extract (1+size) R.size))) aa al:=(Iq aa (by omega)).trans ba1;have br2:cL (v1.setCell ⟨bR,0,none⟩ (.string (R.extract (1+size) R.size))) ra _:=(Iq ra (by omega)).trans hB1;have Vd:=(Iq w.heap.size (by omega)).trans pa1;have k2:Kp (fun k=>k=G\/k=bR) w (v1.setCell ⟨bR,0,none⟩ (.string (R.extract (1+size) R.size))):=k1.setCell (p:=⟨bR,0,none⟩) (.inl (.inr rfl)) _;have hres:=LW (ig f) f lead size ra aa al (fun i=>((af T (q+1+i):Nat):Int)) _ (pG f h4) br2 TL hal hgr (fun i=>by have:=cu T (q+1+i);omega) hld (fun e=>f3 e.symm) hsz;obtain⟨c1,z1,_⟩:=one_cell Ip;have c2:=TK.l.cell;have nLR:=hrr.2.1;have HX:Hid (_/\_/\_/\_/\_/\_):=⟨Ir,Iu,TL,sP,Vd,k2⟩
     have qr:Hid (_/\_/\_/\_):=⟨Vc,U9,Va,hgg⟩
     clear hBa hB1 Io hkp ly hEr hpa hraw Ip TK XC ba1 pa1 k1 sP Iq Ir Iu TL br2 Vd k2 HW hgg hrr Vc U9 Va zkp hgr;go_wp2_with fail;refine hres.mono ?_;rintro e v3 ⟨rfl,hB3,Cv⟩;obtain⟨Ir,Iu,TL,sP,Vd,k2⟩:=HX.out;obtain⟨Vc,U9,Va,hgg⟩:=qr.out;have k2z:=k2.size;have TM:nS v3 E bL bD M bS bN G N W H n kd dp ps pv sv lead:=Ir.kept (fun j hj=>Cv.block j (Ir.lt j hj) (by have:=Vc j hj;omega));have XD:aS v3 G s.out:=(Cv.block G (aac Iu) (by omega)).trans Iu;have Ve:cL v3 aa al:=(Cv.block aa (aac TL) (by omega)).trans TL;have mN:=(Cv.block bR (aac sP) (by omega)).trans sP;have TN:=(Cv.block w.heap.size (aac Vd) (by omega)).trans Vd;have k3:Kp (fun k=>k=G\/k=bR) w v3:=k2.then Cv (fun i hi e=>by omega)
     have hsm:=Im W H n j dp kd ps pv sv p M bS bN G N ra size _ s.out v3 TM.s ⟨hgg.2.2.2.2.1,hgg.2.2.2.2.2.1,hgg.2.2.2.2.2.2,by omega⟩ XD hB3 (Pm.qf _ _ _ _ _) (fun i=>Pm.nH _ _ _ _ _ i) tS.out hN hNe hin hlt hch hn hW hH hps hcs hC hR;have d3:=TM.d.cell;obtain⟨y0,y1,y2,y3,y4,y5,yl⟩:=qp TN;have FW:Hid (_/\_/\_/\_/\_):=⟨hB3,Ve,mN,TN,k3⟩
     clear Ir Iu TL sP Vd k2 HX TM XD Ve mN TN k3 hB3 Cv hres Vc hgg;go_wp2_with fail;refine hsm.mono ?_;rintro e v4 ⟨rfl,hl4,Pf⟩;obtain⟨hB3,Ve,mN,TN,k3⟩:=FW.out
     have HF:Hid (RInv w v4 ⟨W,H,n,dp⟩ T p o G bR aa ra size (j+1) out ⟨Pm.ai (Pm.nG f lead (Pm.ai al) (fun i=>((af T (q+1+i):Nat):Int)) size),Pm.py p W n j (Pm.dk (Pm.ai (Pm.nG f lead (Pm.ai al) (fun i=>((af T (q+1+i):Nat):Int)) size)) dp) s.out (p.C*n)⟩):=by
      refine⟨HG2.out,hl4,?_,⟨_,(Pf.block ra (aac hB3) (by omega)).trans hB3,Pm.qf _ _ _ _ _,rfl⟩,⟨al,(Pf.block aa (aac Ve) (by omega)).trans Ve,hal⟩,k3.then Pf (fun i hi e=>.inl e),⟨f2,f1,fun e=>f3 e.symm⟩,(Pf.block w.heap.size (aac TN) (by omega)).trans TN⟩;rw[<-HQQ.out,<-xB.out];exact (Pf.block bR (aac mN) (by have:=hap.g.2.1;omega)).trans mN
     clear hsm hl4 Pf hB3 Ve mN TN k3 FW HG2;go_wp2
     go_roundw
     case rel=>exact⟨j+1,aa,ra,_,by omega,by go_num,rfl,rfl,HF⟩
     case measure=>simp[intOf];omega
   ·have J3:j=p.R:=by omega
    subst J3;have HD:Hid (_):=HI.out;clear HI;go_wp2
    go_end0
    exact .ok HD.out.at_ HD.out.uB (by have:=HD.out.raw;rw[tS.out]at this;exact this) HD.out.kp
theorem QQ (k:Nat)(hk:k<7)(w:World):(Instr.index 142 (.agg cY) (.int .i64 (k:Int))).run Tryz.prog w=.ok (zk (Pm.oM k:Nat) (Pm.px k:Nat) (Pm.kG k:Nat) (Pm.mM k:Nat)) w:=by
 match k,hk with
 | 0,_=>exact FH w
 | 1,_=>exact FI w
 | 2,_=>exact FJ w
 | 3,_=>exact FK w
 | 4,_=>exact FL w
 | 5,_=>exact FM w
 | 6,_=>exact FO w
theorem BA (k:Nat):Pm.oM k<=4/\Pm.px k<=4/\(1<=Pm.kG k/\Pm.kG k<=8)/\(1<=Pm.mM k/\Pm.mM k<=8):=by
 refine⟨?_,?_,⟨?_,?_⟩,?_,?_⟩
 ·unfold Pm.oM;split<;>omega
 ·unfold Pm.px;split<;>omega
 ·unfold Pm.kG;split<;>omega
 ·unfold Pm.kG;split<;>omega
 ·unfold Pm.mM;split<;>omega
 ·unfold Pm.mM;split<;>omega
theorem kY (s t e:Nat)(h:s<t):(e+(t-1-s))/t<=e:=by
 rcases Nat.eq_zero_or_pos ((e+(t-1-s))/t) with h0|h0
 ·omega
 ·have:=Pm.uR s t e ((e+(t-1-s))/t-1) h (by omega);have h2:((e+(t-1-s))/t-1)*1<=((e+(t-1-s))/t-1)*t:=Nat.mul_le_mul_left _ (by omega);omega
inductive xR (m:Pm.dA) (T:ByteArray) (on:Bool) (G bR:Nat) (w:World):Ending->World->Prop
 | no {w'}:Pm.mf m (af T) on=none->Kp (fun k=>k=G\/k=bR) w w'->xR m T on G bR w (dies 15) w'
 | ok {w' l}:Pm.mf m (af T) on=some l->aS w' G l->Kp (fun k=>k=G\/k=bR) w w'->xR m T on G bR w (.returned (.tuple #[])) w'
theorem BB (args:Array Value)(w:World):(callFunc 94 args).run Tryz.prog w=.ok (.enter 94 args) w:=by kernel_rfl
abbrev TP (E bR bL bD:Nat):Value:=.func (.func 94) #[] #[.pointer (some ⟨E,0,none⟩),.pointer (some ⟨bR,0,none⟩),.pointer (some ⟨bL,0,none⟩),.pointer (some ⟨bD,0,none⟩)]
theorem XE (W H n dp:Nat)(kd:Int)(pv sv:Value)(T:ByteArray)(E bR bL bD M bS bN G N:Nat)(out:List Int)(w:World)(hE:nS w E bL bD M bS bN G N W H n kd dp false pv sv (Pm.dA.lead ⟨W,H,n,dp⟩))(hap:vh E bR bL bD M bS bN G)(hG:aS w G out)(hraw:bK w bR (.string T) 9)(hol:Pm.raw W H (Pm.dA.bits ⟨W,H,n,dp⟩:Nat) false=(T.size:Int))(hT:T.size<=5000000)(hN:out=List.replicate N 0)(hNe:N=W*H*n)(hch:Pm.chan kd dp=(n:Int))(hn:1<=n/\n<=4)(hW:1<=W/\W<=5000)(hH:1<=H/\H<=5000): Calls Tryz.prog 58 #[img W H kd dp false pv sv,TP E bR bL bD] w fun e w'=>xR ⟨W,H,n,dp⟩ T false G bR w e w':=by
 have hcall:=BB;have hk0:=ae w (.cells #[.int .i64 (W:Nat),.int .i64 (H:Nat),.int .i64 kd,.int .i64 (dp:Nat),.bool false,pv,sv] 24);have hrn:=Pm.oq ⟨W,H,n,dp⟩ false
 have hsz:Pm.c9 ⟨W,H,n,dp⟩ (Pm.kO ⟨W,H,n,dp⟩)=T.size:=by
  have:=hrn.symm.trans hol;simp only[ach,if_false]at this;omega
 have hT0:T.extract 0 T.size=T:=by
  apply ByteArray.ext;simp
 have hp:=QP W H n dp kd false pv sv T (Pm.kO ⟨W,H,n,dp⟩) E bR bL bD M bS bN G N 0 out _ (hE.below hk0) hap ((hk0.block _ (aac hG)).trans hG) (by rw[hT0];exact (hk0.block _ (aac hraw)).trans hraw) (Pm.uS _) (by rw[hsz,aaR];exact aaf _) hT (by rw[hN];simp) hNe (by rw[hN];exact Pm.mg _) hch hn hW.2 hH.2 ⟨by show 0<=8;omega,by show 0<=8;omega,by show 1<=8;omega⟩ ⟨by show 1<=1;omega,by show 1<=8;omega⟩ hW hH.2;have hq:=Pm.mf ⟨W,H,n,dp⟩ (af T) false
 have HP:Hid (∀x,Pm.fE ⟨W,H,n,dp⟩ (af T) (Pm.kO ⟨W,H,n,dp⟩) 0 out H=x->Pm.mf ⟨W,H,n,dp⟩ (af T) false=x.map Pm.RS.out):=fun x hx=>by
  unfold Pm.mf;rw[aag (by decide),<-hx,hN,hNe]
 have zR:Hid (_):=hk0;clear hE hG hraw hk0 hrn hsz hT0 hol hq hN hNe
 go_enter Tryz.func58,Tryz.ntmps58
 go_wp2_with fail;refine hp.mono ?_;intro e w1 he;cases he with
 | no h1 k1 =>
  go_wp2;exact⟨rfl,.no (HP.out _ h1) ((Kp.aH zR.out).then k1 (fun i hi e=>e))⟩
 | @ok _ s h1 l1 r1 k1 =>
  have HD:Hid (_/\_/\_):=⟨HP.out _ h1,l1,(Kp.aH (S:=fun k=>k=G\/k=bR) zR.out).then k1 (fun i hi e=>e)⟩
  clear h1 l1 r1 k1 hp;go_wp2
  go_end0
  exact .ok HD.out.1 HD.out.2.1 HD.out.2.2
theorem TQ (W H n dp:Nat)(kd:Int)(pv sv:Value)(T:ByteArray)(E bR bL bD M bS bN G N:Nat)(w:World)(tt:TypeId)(fr:Nat×Nat)(jX:w.heap[0]?=some (.cells cY tt fr))(hE:nS w E bL bD M bS bN G N W H n kd dp true pv sv (Pm.dA.lead ⟨W,H,n,dp⟩))(hap:vh E bR bL bD M bS bN G)(hG:aS w G (List.replicate N 0))(hraw:bK w bR (.string T) 9)(hol:Pm.raw W H (Pm.dA.bits ⟨W,H,n,dp⟩:Nat) true=(T.size:Int))(hT:T.size<=5000000)(hNe:N=W*H*n)(hch:Pm.chan kd dp=(n:Int))(hn:1<=n/\n<=4)(hW:1<=W/\W<=5000)(hH:1<=H/\H<=5000): Calls Tryz.prog 58 #[img W H kd dp true pv sv,TP E bR bL bD] w fun e w'=>xR ⟨W,H,n,dp⟩ T true G bR w e w':=by
 have hcall:=BB;have Nd:Hid (w.heap[0]?=some (.cells cY tt fr)):=jX
 have hT0:T.extract 0 T.size=T:=by
  apply ByteArray.ext;simp
 have hsz:Pm.cI ⟨W,H,n,dp⟩ 7=T.size:=by
  have:=(Pm.oq ⟨W,H,n,dp⟩ true).symm.trans hol;simp only[if_true]at this;omega
 have HH:Hid (_/\_/\_/\_/\_/\_):=⟨hE,hap,hG,hraw,hsz,hNe⟩
 have HT0:Hid (_):=hT0;have U9:=aac hG;have Va:=aac hraw;clear jX hE hG hraw hT0 hsz hol hNe
 go_enter Tryz.func58,Tryz.ntmps58
 go_wp2_with (refine wpList_load_row rfl 142 _ rfl 0 rfl tt cY fr _ (ak Nd.out _) Tryz.underlying142 rfl vd ?_)
 go_loopw [17] (fun i wr=>∃(k:Nat) (l:List Int),k<=7/\i=.int .i64 k/\Hid (Pm.fc ⟨W,H,n,dp⟩ (af T) k=some l)/\Hid (aS wr G l)/\Hid (bK wr bR (.string (T.extract (Pm.cI ⟨W,H,n,dp⟩ k) T.size)) 9)/\Kp (fun k=>k=G\/k=bR) (w.alloc (.cells #[.int .i64 (W:Nat),.int .i64 (H:Nat),.int .i64 kd,.int .i64 (dp:Nat),.bool true,pv,sv] 24)) wr) (fun i _=>7-(intOf i).toNat)
 case atStart =>
  obtain⟨hE,hap,hG,hraw,hsz,hNe⟩:=HH.out;refine⟨0,List.replicate N 0,aao _,rfl,?_,ak hG _,?_,Kp.refl _ _⟩
  ·show some _=some _;rw[hNe]
  ·show bK _ _ _ _;rw[show Pm.cI ⟨W,H,n,dp⟩ 0=0 from rfl,HT0.out];exact ak hraw _
 case round =>
  obtain⟨k,l,hk,rfl,HPk,HL,HR,hkp⟩:=hrel;by_cases hlt:k<7
  ·obtain⟨hE,XG,hG,hraw,hsz,hNe⟩:=HH.out;obtain⟨s1,s2,s3,s4⟩:=BA k;have t1:=Pm.xD k;have t2:=Pm.xF k;have hidx:=fun u=>QQ k hlt u;have hsz':=hkp.size;rw[aap]at hsz';have m0:wr.cell? ⟨w.heap.size,0,none⟩=some (.int .i64 (W:Nat)):=(hkp.cell (by simp) (by simp;omega)).trans (by simp);have m1:wr.cell? ⟨w.heap.size,1,none⟩=some (.int .i64 (H:Nat)):=(hkp.cell (by simp) (by simp;omega)).trans (by simp);have hlt2:w.heap.size<wr.heap.size:=by omega
   have e1:=Pm.rp (Pm.oM k) (Pm.kG k) W t1;have e2:=Pm.rp (Pm.px k) (Pm.mM k) H t2;have ZA:=kY (Pm.oM k) (Pm.kG k) W t1;have ZN:=kY (Pm.px k) (Pm.mM k) H t2;have p9:=fun u=>jl (Pm.oM k:Nat) (Pm.kG k:Nat) (W:Nat) u (by omega) (by omega) (by omega) (by omega);have zr:=fun u=>jl (Pm.px k:Nat) (Pm.mM k:Nat) (H:Nat) u (by omega) (by omega) (by omega) (by omega);rw[e1]at p9;rw[e2]at zr;have vk:=Pm.nI _ _ _ _ HPk.out;have hon:=Pm.kQ ⟨W,H,n,dp⟩ k hlt
   have mF:Hid (Pm.fc ⟨W,H,n,dp⟩ (af T) (k+1)=Pm.kP ⟨W,H,n,dp⟩ (af T) k l):=by
    show (Pm.fc _ _ k).bind _=_;rw[HPk.out];rfl
   have hps:((Pm.cD ⟨W,H,n,dp⟩ k).C=(W+(Pm.kG k-1-Pm.oM k))/Pm.kG k)/\((Pm.cD ⟨W,H,n,dp⟩ k).R=(H+(Pm.mM k-1-Pm.px k))/Pm.mM k):=⟨rfl,rfl⟩
   obtain⟨C,hC⟩:∃C,C=(W+(Pm.kG k-1-Pm.oM k))/Pm.kG k:=⟨_,rfl⟩
   obtain⟨R,hR⟩:∃R,R=(H+(Pm.mM k-1-Pm.px k))/Pm.mM k:=⟨_,rfl⟩
   rw[<-hC]at p9 ZA hps;rw[<-hR]at zr ZN hps;have XH:=hE.below (ae w (.cells #[.int .i64 (W:Nat),.int .i64 (H:Nat),.int .i64 kd,.int .i64 (dp:Nat),.bool true,pv,sv] 24));have QR:=XH.kp XG hkp
   have BD:0<C->0<R->∀u,Below wr.heap.size wr u->Calls Tryz.prog 94 #[.agg #[.int .i64 (Pm.oM k:Nat),.int .i64 (Pm.px k:Nat),.int .i64 (Pm.kG k:Nat),.int .i64 (Pm.mM k:Nat),.int .i64 (C:Nat),.int .i64 (R:Nat)],.pointer (some ⟨E,0,none⟩),.pointer (some ⟨bR,0,none⟩),.pointer (some ⟨bL,0,none⟩),.pointer (some ⟨bD,0,none⟩)] u fun e w'=>FV ⟨W,H,n,dp⟩ T (Pm.cD ⟨W,H,n,dp⟩ k) (Pm.cI ⟨W,H,n,dp⟩ k) G bR l u e w':=fun h1 h2 u hu=>by
    have:=QP W H n dp kd true pv sv T (Pm.cD ⟨W,H,n,dp⟩ k) E bR bL bD M bS bN G N (Pm.cI ⟨W,H,n,dp⟩ k) l u (QR.below hu) XG ((hu.block _ (aac HL.out)).trans HL.out) ((hu.block _ (aac HR.out)).trans HR.out) (Pm.yZ _ _) (by
     have:=Pm.Fx ⟨W,H,n,dp⟩ k hlt ⟨by rw[hps.1];exact h1,by rw[hps.2];exact h2⟩;rw[hsz]at this
     exact this) hT (by rw[vk.1,hNe]) hNe vk.2 hch hn hW.2 hH.2 ⟨by show Pm.oM k<=8;omega,by show Pm.px k<=8;omega,s4.2⟩ s3 ⟨by rw[hps.1];omega,by rw[hps.1];omega⟩ (by rw[hps.2];omega)
    rw[show L0 (Pm.cD ⟨W,H,n,dp⟩ k)=.agg #[.int .i64 (Pm.oM k:Nat),.int .i64 (Pm.px k:Nat),.int .i64 (Pm.kG k:Nat),.int .i64 (Pm.mM k:Nat),.int .i64 ((Pm.cD ⟨W,H,n,dp⟩ k).C:Nat),.int .i64 ((Pm.cD ⟨W,H,n,dp⟩ k).R:Nat)] from rfl,hps.1,hps.2]at this;exact this
   have pN:Hid (¬(0<C/\0<R)->Pm.fc ⟨W,H,n,dp⟩ (af T) (k+1)=some l/\Pm.cI ⟨W,H,n,dp⟩ (k+1)=Pm.cI ⟨W,H,n,dp⟩ k):=fun hno=>by
    rw[hps.1,hps.2,aag hno]at hon;refine⟨?_,by rw[hon];rfl⟩;rw[mF.out,Pm.kP,hps.1,hps.2,aag hno]
   have qP:Hid (0<C/\0<R->Pm.fc ⟨W,H,n,dp⟩ (af T) (k+1)=(Pm.fE ⟨W,H,n,dp⟩ (af T) (Pm.cD ⟨W,H,n,dp⟩ k) (Pm.cI ⟨W,H,n,dp⟩ k) l (Pm.cD ⟨W,H,n,dp⟩ k).R).map Pm.RS.out/\Pm.cI ⟨W,H,n,dp⟩ (k+1)=Pm.cI ⟨W,H,n,dp⟩ k+(Pm.cD ⟨W,H,n,dp⟩ k).R*(1+Pm.rowLen (Pm.cD ⟨W,H,n,dp⟩ k).C (Pm.dA.bits ⟨W,H,n,dp⟩))):=fun Iv=>by
    have FX:0<(Pm.cD ⟨W,H,n,dp⟩ k).C/\0<(Pm.cD ⟨W,H,n,dp⟩ k).R:=by rw[hps.1,hps.2];exact Iv
    rw[aai FX]at hon;refine⟨?_,hon⟩;rw[mF.out,Pm.kP,aai FX]
   have TD:Hid (_):=hkp;have BF:Hid (_):=BD;obtain⟨c0,hc0⟩:∃c0,c0=Pm.oM k:=⟨_,rfl⟩
   obtain⟨r0,hr0⟩:∃r0,r0=Pm.px k:=⟨_,rfl⟩
   obtain⟨cs,hcs⟩:∃cs,cs=Pm.kG k:=⟨_,rfl⟩
   obtain⟨rs,hrs⟩:∃rs,rs=Pm.mM k:=⟨_,rfl⟩
   rw[<-hc0,<-hr0,<-hcs,<-hrs]at BF hidx;rw[<-hc0,<-hcs]at p9;rw[<-hr0,<-hrs]at zr;clear hps hon vk hE hG hraw hsz hNe e1 e2 hC hR XH QR BD mF t1 t2 s1 s2 s3 s4 hkp hc0 hr0 hcs hrs;go_wp2_with fail;refine (p9 _).mono ?_;rintro e w' ⟨rfl,rfl⟩;go_wp2_with fail;refine (zr _).mono ?_;rintro e w' ⟨rfl,rfl⟩;have XI:Kp (fun k=>k=G\/k=bR) (w.alloc (.cells #[.int .i64 (W:Nat),.int .i64 (H:Nat),.int .i64 kd,.int .i64 (dp:Nat),.bool true,pv,sv] 24)) (wr.alloc (.cells #[.int .i64 (c0:Nat),.int .i64 (r0:Nat),.int .i64 (cs:Nat),.int .i64 (rs:Nat),.int .i64 (C:Nat),.int .i64 (R:Nat)] 93)):=TD.out.alloc _;have bA:=ae wr (.cells #[.int .i64 (c0:Nat),.int .i64 (r0:Nat),.int .i64 (cs:Nat),.int .i64 (rs:Nat),.int .i64 (C:Nat),.int .i64 (R:Nat)] 93);have HA:Hid (_/\_):=⟨XI,bA⟩
   clear XI bA;by_cases d1:0<C
   ·by_cases d2:0<R
    ·have Iv:=qP.out ⟨d1,d2⟩;have HY:Hid (_/\_):=Iv;have hcl:=BF.out d1 d2 _ HA.out.2;clear Iv qP pN;go_wp2_with fail;refine hcl.mono ?_;intro e w1 he;cases he with
     | no h1 k1 =>
      have HN:Hid (Pm.fc ⟨W,H,n,dp⟩ (af T) 7=none):=by
       have h0:Pm.fc ⟨W,H,n,dp⟩ (af T) (k+1)=none:=by rw[HY.out.1,h1];rfl
       have:=Pm.se _ _ (k+1) h0 (7-(k+1));rw[show k+1+(7-(k+1))=7 by omega]at this;exact this
      have HKK:Hid (Kp (fun k=>k=G\/k=bR) w w1):=((Kp.aH (S:=fun k=>k=G\/k=bR) (ae w (.cells #[.int .i64 (W:Nat),.int .i64 (H:Nat),.int .i64 kd,.int .i64 (dp:Nat),.bool true,pv,sv] 24))).trans HA.out.1).trans k1;clear h1 k1 hcl;go_wp2;exact⟨rfl,.no (by unfold Pm.mf;rw[aai rfl];exact HN.out) HKK.out⟩
     | @ok _ s h1 l1 r1 k1 =>
      have HD:Hid (_/\_/\_/\_):=⟨(HY.out.1.trans (by rw[h1];rfl):Pm.fc ⟨W,H,n,dp⟩ (af T) (k+1)=some s.out),l1,(by rw[HY.out.2];exact r1:bK w1 bR (.string (T.extract (Pm.cI ⟨W,H,n,dp⟩ (k+1)) T.size)) 9),HA.out.1.trans k1⟩
      clear h1 l1 r1 k1 hcl;go_wp2
      go_roundw
      case rel=>exact⟨k+1,s.out,by omega,by go_num,HD.out.1,HD.out.2.1,HD.out.2.2.1,HD.out.2.2.2⟩
      case measure=>simp[intOf];omega
    ·have hno:=pN.out (fun h=>d2 h.2);have HD:Hid (_/\_/\_/\_):=⟨hno.1,(HA.out.2.block _ (aac HL.out)).trans HL.out,(by rw[hno.2];exact (HA.out.2.block _ (aac HR.out)).trans HR.out:bK _ bR (.string (T.extract (Pm.cI ⟨W,H,n,dp⟩ (k+1)) T.size)) 9),HA.out.1⟩
     clear hno qP pN;go_wp2
     go_roundw
     case rel=>exact⟨k+1,l,by omega,by go_num,HD.out.1,HD.out.2.1,HD.out.2.2.1,HD.out.2.2.2⟩
     case measure=>simp[intOf];omega
   ·have hno:=pN.out (fun h=>d1 h.1);have HD:Hid (_/\_/\_/\_):=⟨hno.1,(HA.out.2.block _ (aac HL.out)).trans HL.out,(by rw[hno.2];exact (HA.out.2.block _ (aac HR.out)).trans HR.out:bK _ bR (.string (T.extract (Pm.cI ⟨W,H,n,dp⟩ (k+1)) T.size)) 9),HA.out.1⟩
    clear hno qP pN;go_wp2
    go_roundw
    case rel=>exact⟨k+1,l,by omega,by go_num,HD.out.1,HD.out.2.1,HD.out.2.2.1,HD.out.2.2.2⟩
    case measure=>simp[intOf];omega
  ·have hke:k=7:=by omega
   subst hke;have HD:Hid (_/\_/\_):=⟨HPk.out,HL.out,(Kp.aH (S:=fun k=>k=G\/k=bR) (ae w (.cells #[.int .i64 (W:Nat),.int .i64 (H:Nat),.int .i64 kd,.int .i64 (dp:Nat),.bool true,pv,sv] 24))).trans hkp⟩
   go_wp2
   go_end0
   exact .ok (by unfold Pm.mf;rw[aai rfl];exact HD.out.1) HD.out.2.1 HD.out.2.2
theorem jY (w:World)(o0 o1 o2:Obj):Below w.heap.size w (((w.alloc o0).alloc o1).alloc o2)/\(((w.alloc o0).alloc o1).alloc o2).heap[w.heap.size]?=some o0/\(((w.alloc o0).alloc o1).alloc o2).heap[w.heap.size+1]?=some o1/\(((w.alloc o0).alloc o1).alloc o2).heap[w.heap.size+2]?=some o2:=by
 obtain⟨k0,q0,q1⟩:=bM w o0 o1;have q2:=ah ((w.alloc o0).alloc o1) o2;rw[aap,aap]at q2;exact⟨k0.alloc (by simp;omega) _,ak q0 _,ak q1 _,q2⟩
theorem Iw (W H n dp:Nat)(kd:Int)(hch:Pm.chan kd dp=(n:Int))(hn:1<=n):max (((n*dp:Nat):Int)/8) 1=((Pm.dA.lead ⟨W,H,n,dp⟩:Nat):Int):=by
 unfold Pm.dA.lead Pm.dA.bits;dsimp only;unfold Pm.chan at hch
 repeat' split at hch
 ·obtain rfl:n=1:=by omega
  rename_i h;obtain⟨_,h⟩:=h;omega
 ·obtain rfl:n=3:=by omega
  rename_i h;obtain⟨_,h⟩:=h;omega
 ·obtain rfl:n=1:=by omega
  rename_i h;obtain⟨_,h⟩:=h;omega
 ·obtain rfl:n=2:=by omega
  rename_i h;obtain⟨_,h⟩:=h;omega
 ·obtain rfl:n=4:=by omega
  rename_i h;obtain⟨_,h⟩:=h;omega
 ·omega
theorem QS (W H n dp:Nat)(kd:Int)(ps:Bool)(pv sv:Value)(w:World)(hch:Pm.chan kd dp=(n:Int))(hn:1<=n): Calls Tryz.prog 82 #[img W H kd dp ps pv sv] w fun e w'=>e=.returned (.int .i64 ((Pm.dA.lead ⟨W,H,n,dp⟩:Nat):Int))/\Below w.heap.size w w':=by
 have hpb:=fun u=>FG W H kd dp ps pv sv u (by rw[hch];omega);have hl:=Iw W H n dp kd hch hn;have hbd:=Pm.jB kd dp (by rw[hch];omega);have e1:Pm.chan kd dp*(dp:Int)=((n*dp:Nat):Int):=by rw[hch];push_cast;rfl
 rw[e1]at hpb hbd;have HL:Hid (_):=hl;generalize n*dp=b at *;have k0:=ae w (.cells #[.int .i64 (W:Nat),.int .i64 (H:Nat),.int .i64 kd,.int .i64 (dp:Nat),.bool ps,pv,sv] 24);clear hl e1
 go_enter Tryz.func82,Tryz.ntmps82
 go_wp2_with fail;refine (hpb _).mono ?_;rintro e w1 ⟨rfl,b1⟩;have HB:Hid (Below w.heap.size w w1):=k0.trans (b1.mono (by simp));clear b1 hpb k0;go_wp2
 all_goals go_ret
 all_goals exact⟨aK (by have:=HL.out;omega),HB.out⟩
theorem Ma (W H n dp:Nat)(kd:Int)(ps:Bool)(pv sv:Value)(T:ByteArray)(M bS bN G N:Nat)(w:World)(tt:TypeId)(fr:Nat×Nat)(jX:w.heap[0]?=some (.cells cY tt fr))(hE:oC w M bS bN G N W H n kd dp ps pv sv)(hap:M≠G/\bS≠G/\bN≠G)(hG:aS w G (List.replicate N 0))(hol:Pm.raw W H ((n*dp:Nat):Int) ps=(T.size:Int))(hT:T.size<=5000000)(hNe:N=W*H*n)(hch:Pm.chan kd dp=(n:Int))(hn:1<=n/\n<=4)(hW:1<=W/\W<=5000)(hH:1<=H/\H<=5000): Calls Tryz.prog 62 #[img W H kd dp ps pv sv,.string T,Pe M bS bN] w fun e w'=>∃bR,w.heap.size<=bR/\∃u,Below w.heap.size w u/\xR ⟨W,H,n,dp⟩ T ps G bR u e w':=by
 have hld:=fun u=>QS W H n dp kd ps pv sv u hch hn.1;obtain⟨lead,hlead⟩:∃l,l=Pm.dA.lead ⟨W,H,n,dp⟩:=⟨_,rfl⟩
 rw[<-hlead]at hld;have Vb:Hid (lead=Pm.dA.lead ⟨W,H,n,dp⟩):=hlead;have q:=jY w (.cells (aG W H kd dp ps pv sv) 24) (.cells #[.string T] 9) (.cells #[Pe M bS bN] 102);have HQ:Hid (_):=q;have HH:Hid (_/\_/\_/\_/\_):=⟨hE,hap,hG,hol,jX⟩
 obtain⟨k0,q0,q1,q2⟩:=q;obtain⟨m0,m1,m2,m3,m4,m5,m6⟩:=aR q0;clear hE hG hol jX q0 q1 q2 hlead
 go_enter Tryz.func62,Tryz.ntmps62
 go_wp2_with fail;refine (hld _).mono ?_;rintro e w1 ⟨rfl,b1⟩;have zp:Below w.heap.size w w1:=HQ.out.1.trans (b1.mono HQ.out.1.size);have z3:(((w.alloc (.cells (aG W H kd dp ps pv sv) 24)).alloc (.cells #[.string T] 9)).alloc (.cells #[Pe M bS bN] 102)).heap.size=w.heap.size+3:=by simp
 have zb:=b1.size;rw[z3]at zb;have kb:=ae w1 (.cells #[.int .i64 (lead:Nat)] 3);have r0:=ah w1 (.cells #[.int .i64 (lead:Nat)] 3);have e0:=(kb.block w.heap.size (by omega)).trans ((b1.block w.heap.size (by rw[z3];omega)).trans HQ.out.2.1);have e1:=(kb.block (w.heap.size+1) (by omega)).trans ((b1.block (w.heap.size+1) (by rw[z3];omega)).trans HQ.out.2.2.1);have e2:=(kb.block (w.heap.size+2) (by omega)).trans ((b1.block (w.heap.size+2) (by rw[z3];omega)).trans HQ.out.2.2.2);have Cx:Below w.heap.size w (w1.alloc (.cells #[.int .i64 (lead:Nat)] 3)):=zp.trans (kb.mono (by omega));obtain⟨hE,hap,hG,hol,jX⟩:=HH.out;have lM:=aac hE.m;have lS:=aac hE.s;have lN:=aac hE.n;have lG:=aac hG;have lT:=aac jX;have hR:nS (w1.alloc (.cells #[.int .i64 (lead:Nat)] 3)) w.heap.size w1.heap.size (w.heap.size+2) M bS bN G N W H n kd dp ps pv sv (Pm.dA.lead ⟨W,H,n,dp⟩):=⟨e0,by rw[<-Vb.out];exact r0,e2,hE.below Cx⟩
 have hA:vh w.heap.size (w.heap.size+1) w1.heap.size (w.heap.size+2) M bS bN G:=⟨⟨by omega,by omega,by omega,by omega,hap.1,hap.2.1,hap.2.2⟩,by omega,by omega,by omega,by omega,by omega,by omega⟩
 have hG2:aS (w1.alloc (.cells #[.int .i64 (lead:Nat)] 3)) G (List.replicate N 0):=(Cx.block _ lG).trans hG;have XJ:=(Cx.block _ lT).trans jX
 have Ej:Calls Tryz.prog 58 #[img W H kd dp ps pv sv,TP w.heap.size (w.heap.size+1) w1.heap.size (w.heap.size+2)] (w1.alloc (.cells #[.int .i64 (lead:Nat)] 3)) fun e w'=>xR ⟨W,H,n,dp⟩ T ps G (w.heap.size+1) (w1.alloc (.cells #[.int .i64 (lead:Nat)] 3)) e w':=by
  cases ps with
  | false=>exact XE W H n dp kd pv sv T w.heap.size (w.heap.size+1) w1.heap.size (w.heap.size+2) M bS bN G N _ _ hR hA hG2 e1 hol hT rfl hNe hch hn hW hH
  | true=>exact TQ W H n dp kd pv sv T w.heap.size (w.heap.size+1) w1.heap.size (w.heap.size+2) M bS bN G N _ tt fr XJ hR hA hG2 e1 hol hT hNe hch hn hW hH
 obtain⟨x0,x1,x2,x3,x4,x5,x6⟩:=aR e0;have y0:=aR ((b1.block w.heap.size (by rw[z3];omega)).trans HQ.out.2.1);obtain⟨y0,y1,y2,y3,y4,y5,y6⟩:=y0;have Ho:Hid (Below w.heap.size w (w1.alloc (.cells #[.int .i64 (lead:Nat)] 3))):=Cx;clear hR hA hG2 XJ hE hG hol jX zp Cx kb r0 e0 e1 e2 b1 hld HQ HH m0 m1 m2 m3 m4 m5 m6 k0;go_wp2_with fail;refine Ej.mono ?_;intro e w2 he;cases he with
 | no h1 k1 =>
  have HE:Hid (_/\_):=⟨h1,k1⟩
  clear h1 k1 Ej;go_wp2;exact⟨rfl,w.heap.size+1,by omega,_,Ho.out,.no HE.out.1 HE.out.2⟩
 | @ok _ l h1 l1 k1 =>
  have HE:Hid (_/\_/\_):=⟨h1,l1,k1⟩
  clear h1 l1 k1 Ej;go_wp2
  go_end0
  exact⟨w.heap.size+1,by omega,_,Ho.out,.ok HE.out.1 HE.out.2.1 HE.out.2.2⟩
end Go.Proofs.YtmfijackgekioabGreatDoor
