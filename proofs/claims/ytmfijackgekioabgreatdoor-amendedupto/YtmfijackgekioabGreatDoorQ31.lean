import Derived.Test.YtmfijackgekioabGreatDoorQ30
set_option maxHeartbeats 2000000
set_option maxRecDepth 100000
namespace Go.Proofs.YtmfijackgekioabGreatDoor
open Go.RowKit Go.Maps
theorem aG (w:World)(b j:Nat)(u:Value)(g:Nat)(h:g≠b):(w.setCell ⟨b,j,none⟩ u).heap[g]?=w.heap[g]?:=aak w ⟨b,j,none⟩ u g h
structure se (w:World) (bs bp bl bt bn:Nat) (sv:Value) (pl lf st pt:Nat):Prop where
 s:bG w bs sv 22
 p:bG w bp (.int .i64 (pl:Nat)) 3
 l:bG w bl (.int .i64 (lf:Nat)) 3
 t:bG w bt (.int .i64 (st:Nat)) 3
 n:bG w bn (.int .i64 (pt:Nat)) 3
structure Ox (bs bp bl bt bn G:Nat):Prop where
 pl:bp≠bl
 ps:bs≠bp
 pt:bt≠bp
 pn:bn≠bp
 ls:bs≠bl
 lt:bt≠bl
 ln:bn≠bl
 gs:bs≠G
 gp:bp≠G
 gl:bl≠G
 gt:bt≠G
 gn:bn≠G
abbrev Oy (bs bp bl bt bn:Nat):Value:=.func (.func 97) #[] #[.pointer (some ⟨bs,0,none⟩),.pointer (some ⟨bp,0,none⟩),.pointer (some ⟨bl,0,none⟩),.pointer (some ⟨bt,0,none⟩),.pointer (some ⟨bn,0,none⟩)]
theorem Ba (args:Array Value)(w:World):(callFunc 97 args).run Tryz.prog w=.ok (.enter 97 args) w:=by kernel_rfl
theorem Qn (bs bp bl bt bn G off len cap pl lf st pt:Nat)(v:Int)(out:List Int)(w:World)(h:se w bs bp bl bt bn (.slice (some ⟨G,off,none⟩) len cap) pl lf st pt)(ha:Ox bs bp bl bt bn G)(hG:aQ w G out)(hp:pl<len)(ho:off+pl<out.length)(hl:1<=lf)(hs:1<=st/\st<=8)(hpt:1<=pt/\pt<=4)(hbig:out.length<=1000000000)(hlf:lf<=4): Calls Tryz.prog 97 #[.int .i64 v,.pointer (some ⟨bs,0,none⟩),.pointer (some ⟨bp,0,none⟩),.pointer (some ⟨bl,0,none⟩),.pointer (some ⟨bt,0,none⟩),.pointer (some ⟨bn,0,none⟩)] w fun e w' =>
   e=.returned (.tuple #[])/\se w' bs bp bl bt bn (.slice (some ⟨G,off,none⟩) len cap) (if lf=1 then pl+1+(st-1)*pt else pl+1) (if lf=1 then pt else lf-1) st pt/\aQ w' G (out.set (off+pl) v)/\Kp (fun k=>k=G\/k=bp\/k=bl) w w':=by
 obtain⟨a1,a2,a3,a4,a5,a6,a7,a8,a9,UB,a11,a12⟩:=ha;obtain⟨s0,sf,sl⟩:=one_cell h.s;obtain⟨p0,pf,pll⟩:=one_cell h.p;obtain⟨l0,lfz,ll⟩:=one_cell h.l;obtain⟨t0,tf,tl⟩:=one_cell h.t;obtain⟨n0,nf,nl⟩:=one_cell h.n;have gl:=aaa hG;obtain⟨old,g0⟩:∃x,w.cell? ⟨G,off+pl,none⟩=some (.int .i64 x):=⟨_,hG.cell _ ho⟩
 have gf:w.frozen? ⟨G,off+pl,none⟩=false:=aaI w G _ _ _ hG;have WK:(pl:Int)<(len:Int):=by omega
 have s1:=acN a1;have s9:=acN a9;have s10:=acN UB;by_cases h1:lf=1
 ·subst h1;obtain⟨q,hq⟩:∃q:Nat,q=(st-1)*pt:=⟨_,rfl⟩
  have hq2:((st:Int)-1)*(pt:Int)=(q:Int):=by rw[hq];push_cast;rw[Int.natCast_sub hs.1];rfl
  have hq3:q<=28:=by
   rw[hq];have:(st-1)*pt<=7*4:=abh (by omega) hpt.2;omega
  rw[aaj rfl,aaj rfl,<-hq]
  have HQ:Hid (se (((((w.setCell ⟨G,off+pl,none⟩ (.int .i64 v)).setCell ⟨bp,0,none⟩ (.int .i64 ((pl:Int)+1))).setCell ⟨bl,0,none⟩ (.int .i64 0)).setCell ⟨bp,0,none⟩ (.int .i64 ((pl:Int)+1+(q:Int)))).setCell ⟨bl,0,none⟩ (.int .i64 (pt:Nat))) bs bp bl bt bn (.slice (some ⟨G,off,none⟩) len cap) (pl+1+q) pt st pt /\
    aQ (((((w.setCell ⟨G,off+pl,none⟩ (.int .i64 v)).setCell ⟨bp,0,none⟩ (.int .i64 ((pl:Int)+1))).setCell ⟨bl,0,none⟩ (.int .i64 0)).setCell ⟨bp,0,none⟩ (.int .i64 ((pl:Int)+1+(q:Int)))).setCell ⟨bl,0,none⟩ (.int .i64 (pt:Nat))) G (out.set (off+pl) v) /\
    Kp (fun k=>k=G\/k=bp\/k=bl) w (((((w.setCell ⟨G,off+pl,none⟩ (.int .i64 v)).setCell ⟨bp,0,none⟩ (.int .i64 ((pl:Int)+1))).setCell ⟨bl,0,none⟩ (.int .i64 0)).setCell ⟨bp,0,none⟩ (.int .i64 ((pl:Int)+1+(q:Int)))).setCell ⟨bl,0,none⟩ (.int .i64 (pt:Nat)))):=by
   have f0:∀g,g≠G->g≠bp->g≠bl->(((((w.setCell ⟨G,off+pl,none⟩ (.int .i64 v)).setCell ⟨bp,0,none⟩ (.int .i64 ((pl:Int)+1))).setCell ⟨bl,0,none⟩ (.int .i64 0)).setCell ⟨bp,0,none⟩ (.int .i64 ((pl:Int)+1+(q:Int)))).setCell ⟨bl,0,none⟩ (.int .i64 (pt:Nat))).heap[g]?=w.heap[g]?:=fun g e1 e2 e3=>by
    rw[aG _ _ _ _ _ e3,aG _ _ _ _ _ e2,aG _ _ _ _ _ e3,aG _ _ _ _ _ e2,aG _ _ _ _ _ e1]
   refine⟨⟨(f0 bs a8 a2 a5).trans h.s,?_,?_,(f0 bt a11 a3 a6).trans h.t,(f0 bn a12 a4 a7).trans h.n⟩,?_,?_⟩
   ·refine (aG _ _ _ _ _ a1).trans ?_;have e1:((w.setCell ⟨G,off+pl,none⟩ (.int .i64 v)).setCell ⟨bp,0,none⟩ (.int .i64 ((pl:Int)+1))).heap[bp]?=some (.cells #[.int .i64 ((pl:Int)+1)] 3 (0,0)):=one_set ((aG _ _ _ _ _ a9).trans h.p) _;exact one_set ((aG _ _ _ _ _ a1).trans e1) _
   ·have e1:(((w.setCell ⟨G,off+pl,none⟩ (.int .i64 v)).setCell ⟨bp,0,none⟩ (.int .i64 ((pl:Int)+1))).setCell ⟨bl,0,none⟩ (.int .i64 0)).heap[bl]?=some (.cells #[.int .i64 0] 3 (0,0)):=one_set ((aG _ _ _ _ _ (acN a1)).trans ((aG _ _ _ _ _ UB).trans h.l)) _;exact one_set ((aG _ _ _ _ _ (acN a1)).trans e1) _
   ·refine (aG _ _ _ _ _ (acN UB)).trans ((aG _ _ _ _ _ (acN a9)).trans ((aG _ _ _ _ _ (acN UB)).trans ((aG _ _ _ _ _ (acN a9)).trans ?_)));exact hG.set _ v
   ·exact (((((Kp.refl _ _).setCell (p:=⟨G,off+pl,none⟩) (.inl (.inl rfl)) _).setCell (p:=⟨bp,0,none⟩) (.inl (.inr (.inl rfl))) _).setCell (p:=⟨bl,0,none⟩) (.inl (.inr (.inr rfl))) _).setCell (p:=⟨bp,0,none⟩) (.inl (.inr (.inl rfl))) _).setCell (p:=⟨bl,0,none⟩) (.inl (.inr (.inr rfl))) _
  have l0':w.cell? ⟨bl,0,none⟩=some (.int .i64 1):=l0;clear h hG l0 hq
  go_enter Tryz.func97,Tryz.ntmps97
  go_wp2
  go_end0
  exact⟨rfl,HQ.out⟩
 ·rw[aai h1,aai h1];obtain⟨l,rfl⟩:∃l,lf=l+2:=⟨lf-2,by omega⟩
  have e2:((l+2:Nat):Int)-1=((l+1:Nat):Int):=by omega
  have e3:(((l+1:Nat):Int)==0)=false:=by rw[aaP];omega
  have HQ:Hid (se (((w.setCell ⟨G,off+pl,none⟩ (.int .i64 v)).setCell ⟨bp,0,none⟩ (.int .i64 ((pl:Int)+1))).setCell ⟨bl,0,none⟩ (.int .i64 ((l+1:Nat):Int))) bs bp bl bt bn (.slice (some ⟨G,off,none⟩) len cap) (pl+1) (l+1) st pt /\
    aQ (((w.setCell ⟨G,off+pl,none⟩ (.int .i64 v)).setCell ⟨bp,0,none⟩ (.int .i64 ((pl:Int)+1))).setCell ⟨bl,0,none⟩ (.int .i64 ((l+1:Nat):Int))) G (out.set (off+pl) v) /\
    Kp (fun k=>k=G\/k=bp\/k=bl) w (((w.setCell ⟨G,off+pl,none⟩ (.int .i64 v)).setCell ⟨bp,0,none⟩ (.int .i64 ((pl:Int)+1))).setCell ⟨bl,0,none⟩ (.int .i64 ((l+1:Nat):Int)))):=by
   have f0:∀g,g≠G->g≠bp->g≠bl->(((w.setCell ⟨G,off+pl,none⟩ (.int .i64 v)).setCell ⟨bp,0,none⟩ (.int .i64 ((pl:Int)+1))).setCell ⟨bl,0,none⟩ (.int .i64 ((l+1:Nat):Int))).heap[g]?=w.heap[g]?:=fun g e1 e2 e3=>by
    rw[aG _ _ _ _ _ e3,aG _ _ _ _ _ e2,aG _ _ _ _ _ e1]
   refine⟨⟨(f0 bs a8 a2 a5).trans h.s,?_,?_,(f0 bt a11 a3 a6).trans h.t,(f0 bn a12 a4 a7).trans h.n⟩,?_,?_⟩
   ·refine (aG _ _ _ _ _ a1).trans ?_;exact one_set ((aG _ _ _ _ _ a9).trans h.p) _
   ·exact one_set ((aG _ _ _ _ _ (acN a1)).trans ((aG _ _ _ _ _ UB).trans h.l)) _
   ·refine (aG _ _ _ _ _ (acN UB)).trans ((aG _ _ _ _ _ (acN a9)).trans ?_);exact hG.set _ v
   ·exact (((Kp.refl _ _).setCell (p:=⟨G,off+pl,none⟩) (.inl (.inl rfl)) _).setCell (p:=⟨bp,0,none⟩) (.inl (.inr (.inl rfl))) _).setCell (p:=⟨bl,0,none⟩) (.inl (.inr (.inr rfl))) _
  clear h hG h1
  go_enter Tryz.func97,Tryz.ntmps97
  go_wp2
  go_end0
  have e5:(l:Int)+2-1=((l+1:Nat):Int):=by omega
  rw[e5];exact⟨rfl,HQ.out⟩
theorem Oz:∀(x:Fin 256),bits .and .i64 ((x.val:Nat):Int) 1=((x.val%2:Nat):Int)/\bits .and .i64 ((x.val:Nat):Int) 3=((x.val%4:Nat):Int)/\bits .and .i64 ((x.val:Nat):Int) 15=((x.val%16:Nat):Int)/\bits .and .i64 ((x.val:Nat):Int) 255=((x.val%256:Nat):Int):=by decide +kernel
theorem pZ (W ht n j:Nat)(kd dp:Int)(ps:Bool)(pv sv:Value)(p:Pm.Ps)(w:World)(hn:Pm.chan kd dp=(n:Int))(hW:W<=5000)(hj:j<=5000)(h0:p.c0<=8/\p.r0<=8/\p.rs<=8)(hn4:n<=4): Calls Tryz.prog 65 #[img W ht kd dp ps pv sv,.agg #[.int .i64 (p.c0:Nat),.int .i64 (p.r0:Nat),.int .i64 (p.cs:Nat),.int .i64 (p.rs:Nat),.int .i64 (p.C:Nat),.int .i64 (p.R:Nat)],.int .i64 (j:Nat)] w fun e w' =>
   e=.returned (.int .i64 ((Pm.dO p W n j:Nat):Int))/\Below w.heap.size w w':=by
 obtain⟨c0,r0,cs,rs,C,R⟩:=p;simp only at h0 ⊢;have a1:j*rs<=5000*8:=abh hj h0.2.2;have a2:(r0+j*rs)*W<=40008*5000:=abh (by omega) hW;have a3:((r0+j*rs)*W+c0)*n<=200040008*4:=abh (by omega) hn4;have e1:(j:Int)*(rs:Int)=((j*rs:Nat):Int):=by push_cast;rfl
 obtain⟨A,hA⟩:∃A,A=j*rs:=⟨_,rfl⟩
 rw[<-hA]at a1 a2 a3 e1;have e2:((r0:Int)+(A:Int))*(W:Int)=(((r0+A)*W:Nat):Int):=by push_cast;rfl
 obtain⟨B,hB⟩:∃B,B=(r0+A)*W:=⟨_,rfl⟩
 rw[<-hB]at a2 a3 e2;have e3:((B:Int)+(c0:Int))*(n:Int)=(((B+c0)*n:Nat):Int):=by push_cast;rfl
 have HF:Hid (Pm.dO ⟨c0,r0,cs,rs,C,R⟩ W n j=(B+c0)*n):=by show _=_;unfold Pm.dO;rw[hB,hA]
 obtain⟨D,hD⟩:∃D,D=(B+c0)*n:=⟨_,rfl⟩
 rw[<-hD]at a3 e3 HF;have hch:=fun u=>lZ kd dp u;rw[hn]at hch;clear hA hB hD
 go_enter Tryz.func65,Tryz.ntmps65
 go_wp2_with fail;refine (hch _).mono ?_;rintro e w' ⟨rfl,rfl⟩;go_wp2
 go_ret
 exact⟨aI (by rw[HF.out]),((aav _ _).alloc (aah _) _).alloc (by simp) _⟩
theorem OA (sv:Value)(pt st:Nat)(w:World)(hsv:∃a l c,sv=.slice (some a) l c): Calls Tryz.prog 64 #[sv,.int .i64 (pt:Nat),.int .i64 (st:Nat)] w fun e w'=>∃bp bl,e=.returned (Oy w.heap.size bp bl (w.heap.size+2) (w.heap.size+1)) /\ se w' w.heap.size bp bl (w.heap.size+2) (w.heap.size+1) sv 0 pt st pt/\(bp=w.heap.size+3/\bl=w.heap.size+4\/bp=w.heap.size+4/\bl=w.heap.size+3)/\Below w.heap.size w w':=by
 obtain⟨a,l,c,rfl⟩:=hsv
 go_enter Tryz.func64,Tryz.ntmps64
 go_wp2
 go_region
 ·obtain⟨k0,q0,q1,q2,q3,q4⟩:=kW w (.cells #[.slice (some a) l c] 22) (.cells #[.int .i64 (pt:Nat)] 3) (.cells #[.int .i64 (st:Nat)] 3) (.cells #[.int .i64 0] 3) (.cells #[.int .i64 (pt:Nat)] 3);go_wp2
  go_ret
  exact⟨_,_,rfl,⟨q0,q3,q4,q2,q1⟩,.inl ⟨rfl,rfl⟩,k0.drew⟩
 ·obtain⟨k0,q0,q1,q2,q3,q4⟩:=kW w (.cells #[.slice (some a) l c] 22) (.cells #[.int .i64 (pt:Nat)] 3) (.cells #[.int .i64 (st:Nat)] 3) (.cells #[.int .i64 (pt:Nat)] 3) (.cells #[.int .i64 0] 3);go_wp2
  go_ret
  exact⟨_,_,rfl,⟨q0,q4,q3,q2,q1⟩,.inr ⟨rfl,rfl⟩,k0.drew⟩
theorem se.drew {w:World}{bs bp bl bt bn:Nat}{sv:Value}{pl lf st pt:Nat}(h:se w bs bp bl bt bn sv pl lf st pt):se w.drew bs bp bl bt bn sv pl lf st pt:=⟨h.s,h.p,h.l,h.t,h.n⟩
structure yO (w:World) (bs bp bl bt bn G off len cap st n:Nat) (v:Nat->Int) (out:List Int) (k:Nat):Prop where
 put:se w bs bp bl bt bn (.slice (some ⟨G,off,none⟩) len cap) (Pm.oy n st k) (n-k%n) st n
 tZ:aQ w G (Pm.rX off n st v out k)
theorem yO.next {w':World}{bs bp bl bt bn G off len cap st n:Nat}{v:Nat->Int}{out:List Int}{k:Nat}(hn:0<n)(hs:1<=st)(h1:se w' bs bp bl bt bn (.slice (some ⟨G,off,none⟩) len cap) (if n-k%n=1 then Pm.oy n st k+1+(st-1)*n else Pm.oy n st k+1) (if n-k%n=1 then n else n-k%n-1) st n)(h2:aQ w' G ((Pm.rX off n st v out k).set (off+Pm.oy n st k) (v k))):yO w' bs bp bl bt bn G off len cap st n v out (k+1):=by
 have hm:=acL k hn;refine⟨?_,h2⟩;by_cases h:n-k%n=1
 ·rw[aaj h,aaj h]at h1;rw[Pm.KV st hn (by omega) hs,(Pm.pS hn (show k%n+1=n by omega)).2];exact h1
 ·rw[aai h,aai h]at h1;rw[Pm.KW st hn (by omega),(Pm.pT hn (show k%n+1<n by omega)).2];exact h1
theorem OB (bs bp bl bt bn G off len cap st n Rw nr count:Nat)(r out:List Int)(w:World)(hB:cH w Rw r)(hr:r.length=nr)(gr:∀j,0<=Pm.ai r j/\Pm.ai r j<256)(hp:yO w bs bp bl bt bn G off len cap st n (Pm.dk (Pm.ai r) 16) out 0)(ha:Ox bs bp bl bt bn G)(BT:Rw≠G/\Rw≠bp/\Rw≠bl)(hn:1<=n/\n<=4)(hs:1<=st/\st<=8)(hin:∀k,k<count->2*k+1<nr/\Pm.oy n st k<len/\off+Pm.oy n st k<out.length)(hbig:out.length<=1000000000)(hnr:nr<=1000000)(hcn:count<=1000000): Calls Tryz.prog 66 #[.slice (some ⟨Rw,0,none⟩) nr nr,.int .i64 16,.int .i64 (count:Nat),Oy bs bp bl bt bn] w fun e w' =>
   e=.returned (.tuple #[])/\aQ w' G (Pm.rX off n st (Pm.dk (Pm.ai r) 16) out count)/\Kp (fun k=>k=G\/k=bp\/k=bl) w w':=by
 have hcall:=Ba;have tJ:Hid (_):=hin;have HP:Hid (_):=hp;have HB:Hid (_):=hB;clear hin hp hB
 go_enter Tryz.func66,Tryz.ntmps66
 go_wp2
 go_loopw [12] (fun ix wr=>∃k:Nat,k<=count/\ix=.int .i64 k/\yO wr bs bp bl bt bn G off len cap st n (Pm.dk (Pm.ai r) 16) out k/\Kp (fun k=>k=G\/k=bp\/k=bl) w wr) (fun ix _=>count-(intOf ix).toNat)
 case atStart=>exact⟨0,aaq _,rfl,HP.out,Kp.refl _ _⟩
 case round =>
  obtain⟨k,hk,rfl,hS,hkp⟩:=hrel;by_cases hlt:k<count
  ·have hlt':(k:Int)<(count:Int):=by omega
   obtain⟨i1,i2,i3⟩:=tJ.out k hlt;have hBr:cH wr Rw r:=(hkp.block Rw (aaa HB.out) (fun e=>by rcases e with e|e|e;exact BT.1 e;exact BT.2.1 e;exact BT.2.2 e)).trans HB.out;have c1:=hBr.cell (2*k) (by omega);have c2:=hBr.cell (2*k+1) (by omega);have lw:=aaa hBr;have g1:=gr (2*k);have g2:=gr (2*k+1);have hv:Pm.dk (Pm.ai r) 16 k=256*Pm.ai r (2*k)+Pm.ai r (2*k+1):=by rw[Pm.dk,aaj rfl]
   have rL:=fun u (hPu:se u bs bp bl bt bn (.slice (some ⟨G,off,none⟩) len cap) (Pm.oy n st k) (n-k%n) st n) (hLu:aQ u G (Pm.rX off n st (Pm.dk (Pm.ai r) 16) out k))=>Qn bs bp bl bt bn G off len cap (Pm.oy n st k) (n-k%n) st n (Pm.dk (Pm.ai r) 16 k) _ u hPu ha hLu i2 (by rw[Pm.nu];exact i3) (by have:=acL k (show 0<n by omega);omega) hs hn (by rw[Pm.nu];exact hbig) (by omega);have mo:=fun u h1 h2=>yO.next (w':=u) (k:=k) (cap:=cap) (out:=out) (v:=Pm.dk (Pm.ai r) 16) (bs:=bs) (bp:=bp) (bl:=bl) (bt:=bt) (bn:=bn) (G:=G) (off:=off) (len:=len) (show 0<n by omega) hs.1 h1 h2;generalize Pm.dk (Pm.ai r) 16 k=V at *;generalize Pm.ai r (2*k)=X at *;generalize Pm.ai r (2*k+1)=Y at *;have hSd:Hid (_):=hS;have SW:Hid (_):=hkp;have SX:Hid (_):=mo;obtain⟨k2,hk2⟩:∃k2,k2=2*k:=⟨_,rfl⟩
   rw[<-hk2]at c1 c2 i1;have ek:(2:Int)*(k:Int)=(k2:Int):=by omega
   have hkn:(k2:Int)+1<(nr:Int):=by omega
   have hkm:(k2:Int)<(nr:Int):=by omega
   have kp0:(0:Int)<=(k2:Int)+1:=by omega
   have wk2:IntKind.i64.wrap (k2:Int)=(k2:Int):=aao _ (by omega);have wk3:IntKind.i64.wrap ((k2:Int)+1)=(k2:Int)+1:=aao _ (by omega);clear hk2;have x1:IntKind.i64.wrap X=X:=aao _ (by omega);have x2:IntKind.i64.wrap Y=Y:=aao _ (by omega);have x3:IntKind.i64.wrap (X*256)=X*256:=aao _ (by omega)
   have o1:bits .or .i64 (X*256) Y=V:=by
    rw[fN (X*256) Y (X.toNat*256) Y.toNat 8 (by omega) (by omega) (by omega) (by omega) (by omega) (by omega),hv];omega
   clear mo hkp hS hBr gr hv;go_wp2;have hS:wr.drew.cell? ⟨Rw,k2,none⟩=some (.int .u8 X)/\wr.drew.cell? ⟨Rw,k2+1,none⟩=some (.int .u8 Y):=⟨c1,c2⟩
   refine ax (fun w'=>w'.cell? ⟨Rw,k2,none⟩=some (.int .u8 X)/\w'.cell? ⟨Rw,k2+1,none⟩=some (.int .u8 Y)) 99 ?_;refine ap [0,1,2,3,4,5,6,7,8,9,10,11,12,13,14,15] ?_
   iterate 16 refine aT hS ?_
   refine aj ?_;refine ag 16 fun K hK=>?_;go_simp;have hLd:aQ wr.drew G _:=hSd.out.tZ;refine (rL wr.drew hSd.out.put.drew hLd).mono ?_;rintro e v1 ⟨rfl,n1,n2,n3⟩
   have hS1:v1.cell? ⟨Rw,k2,none⟩=some (.int .u8 X)/\v1.cell? ⟨Rw,k2+1,none⟩=some (.int .u8 Y):=by
    have hne:¬(Rw=G\/Rw=bp\/Rw=bl):=fun e=>by rcases e with e|e|e;exact BT.1 e;exact BT.2.1 e;exact BT.2.2 e
    have JR:=lw;exact⟨(n3.cell (p:=⟨Rw,k2,none⟩) JR hne).trans c1,(n3.cell (p:=⟨Rw,k2+1,none⟩) JR hne).trans c2⟩
   have HQ:Hid (_/\_):=⟨SX.out v1 n1 n2,(SW.out.drew).trans n3⟩
   refine hK _ _ (fun _=>hS1) ?_;clear hK K n1 n2 n3 hS1;refine am ?_;go_wp2
   go_roundw
   case rel=>exact⟨k+1,by omega,by go_num,HQ.out.1,HQ.out.2⟩
   case measure=>simp[intOf];omega
  ·have hke:k=count:=by omega
   subst hke;have HR:Hid (_/\_):=⟨hS.tZ,hkp⟩
   clear hS hkp;go_wp2
   go_end0
   exact⟨rfl,HR.out⟩
theorem LA (D bh:Nat)(X:Int)(hD:D=1\/D=2\/D=4\/D=8)(hX:0<=X/\X<256):bits .and .i64 (X/2^bh) (IntKind.i64.wrap (IntKind.i64.wrap (2^D)-1))=X/2^bh%2^D:=by
 obtain⟨x,rfl⟩:=abz hX.1;have e:((x:Int)/2^bh)=((x/2^bh:Nat):Int):=by push_cast;rfl
 have hy:x/2^bh<256:=Nat.lt_of_le_of_lt (Nat.div_le_self _ _) (by omega);rw[e];generalize x/2^bh=y at *;obtain⟨a1,a2,a3,a4⟩:=Oz ⟨y,hy⟩;simp only at a1 a2 a3 a4;rcases hD with rfl|rfl|rfl|rfl
 ·rw[show IntKind.i64.wrap (IntKind.i64.wrap (2^1)-1)=1 by decide +kernel,a1];omega
 ·rw[show IntKind.i64.wrap (IntKind.i64.wrap (2^2)-1)=3 by decide +kernel,a2];omega
 ·rw[show IntKind.i64.wrap (IntKind.i64.wrap (2^4)-1)=15 by decide +kernel,a3];omega
 ·rw[show IntKind.i64.wrap (IntKind.i64.wrap (2^8)-1)=255 by decide +kernel,a4];omega
theorem SZ (D:Nat)(hD:D=1\/D=2\/D=4\/D=8)(bs bp bl bt bn G off len cap st n Rw nr count:Nat)(r out:List Int)(w:World)(hB:cH w Rw r)(hr:r.length=nr)(gr:∀j,0<=Pm.ai r j/\Pm.ai r j<256)(hp:yO w bs bp bl bt bn G off len cap st n (Pm.dk (Pm.ai r) D) out 0)(ha:Ox bs bp bl bt bn G)(BT:Rw≠G/\Rw≠bp/\Rw≠bl)(hn:1<=n/\n<=4)(hs:1<=st/\st<=8)(hin:∀k,k<count->k*D/8<nr/\Pm.oy n st k<len/\off+Pm.oy n st k<out.length)(hbig:out.length<=1000000000)(hnr:nr<=1000000)(hcn:count<=1000000): Calls Tryz.prog 66 #[.slice (some ⟨Rw,0,none⟩) nr nr,.int .i64 (D:Nat),.int .i64 (count:Nat),Oy bs bp bl bt bn] w fun e w' =>
   e=.returned (.tuple #[])/\aQ w' G (Pm.rX off n st (Pm.dk (Pm.ai r) D) out count)/\Kp (fun k=>k=G\/k=bp\/k=bl) w w':=by
 have hcall:=Ba;have tJ:Hid (_):=hin;have HP:Hid (_):=hp;have HB:Hid (_):=hB;have Qo:Hid (D=1\/D=2\/D=4\/D=8):=hD;have d16:((D:Int)==16)=false:=by rw[aaP];omega
 have d8:1<=D/\D<=8:=by omega
 clear hin hp hB hD
 go_enter Tryz.func66,Tryz.ntmps66
 go_wp2
 go_loopw [12] (fun ix wr=>∃k:Nat,k<=count/\ix=.int .i64 k/\yO wr bs bp bl bt bn G off len cap st n (Pm.dk (Pm.ai r) D) out k/\Kp (fun k=>k=G\/k=bp\/k=bl) w wr) (fun ix _=>count-(intOf ix).toNat)
 case atStart=>exact⟨0,aaq _,rfl,HP.out,Kp.refl _ _⟩
 case round =>
  obtain⟨k,hk,rfl,hS,hkp⟩:=hrel;by_cases hlt:k<count
  ·have hlt':(k:Int)<(count:Int):=by omega
   obtain⟨i1,i2,i3⟩:=tJ.out k hlt;have hBr:cH wr Rw r:=(hkp.block Rw (aaa HB.out) (fun e=>by rcases e with e|e|e;exact BT.1 e;exact BT.2.1 e;exact BT.2.2 e)).trans HB.out;have c1:=hBr.cell (k*D/8) (by omega);have lw:=aaa hBr;have g1:=gr (k*D/8);have hv:Pm.dk (Pm.ai r) D k=Pm.ai r (k*D/8)/2^(8-k*D%8-D)%2^D:=by rw[Pm.dk,aai (by omega)]
   have rL:=fun u (hPu:se u bs bp bl bt bn (.slice (some ⟨G,off,none⟩) len cap) (Pm.oy n st k) (n-k%n) st n) (hLu:aQ u G (Pm.rX off n st (Pm.dk (Pm.ai r) D) out k))=>Qn bs bp bl bt bn G off len cap (Pm.oy n st k) (n-k%n) st n (Pm.dk (Pm.ai r) D k) _ u hPu ha hLu i2 (by rw[Pm.nu];exact i3) (by have:=acL k (show 0<n by omega);omega) hs hn (by rw[Pm.nu];exact hbig) (by omega);have mo:=fun u h1 h2=>yO.next (w':=u) (k:=k) (cap:=cap) (out:=out) (v:=Pm.dk (Pm.ai r) D) (bs:=bs) (bp:=bp) (bl:=bl) (bt:=bt) (bn:=bn) (G:=G) (off:=off) (len:=len) (show 0<n by omega) hs.1 h1 h2;generalize Pm.dk (Pm.ai r) D k=V at *;generalize Pm.ai r (k*D/8)=X at *;have hSd:Hid (_):=hS;have SW:Hid (_):=hkp;have SX:Hid (_):=mo;obtain⟨f,hf⟩:∃f,f=k*D:=⟨_,rfl⟩
   rw[<-hf]at c1 i1 hv
   have hf8:f<=8000000:=by
    rw[hf];have:k*D<=1000000*8:=abh (by omega) d8.2;omega
   have hfd:f%8+D<=8:=by
    rw[hf];rcases Qo.out with rfl|rfl|rfl|rfl<;>omega
   have ek:(k:Int)*(D:Int)=(f:Int):=by rw[hf];push_cast;rfl
   have wf:IntKind.i64.wrap (f:Int)=(f:Int):=aao _ (by omega);obtain⟨q,hq⟩:∃q,q=f/8:=⟨_,rfl⟩
   rw[<-hq]at c1 i1;have eq8:(f:Int)/8=(q:Int):=by omega
   obtain⟨bh,WL⟩:∃bh,bh=8-f%8-D:=⟨_,rfl⟩
   rw[<-WL]at hv;have ebh:8-(f:Int)%8-(D:Int)=(bh:Int):=by omega
   have hqn:(q:Int)<(nr:Int):=by omega
   have x1:IntKind.i64.wrap X=X:=aao _ (by omega);have wq:IntKind.i64.wrap (q:Int)=(q:Int):=aao _ (by omega);have wb:IntKind.i64.wrap (bh:Int)=(bh:Int):=aao _ (by omega);have o1:bits .and .i64 (X/2^bh) (IntKind.i64.wrap (IntKind.i64.wrap (2^D)-1))=V:=by rw[hv];exact LA D bh X Qo.out g1
   clear mo hkp hS hBr gr hv hf hq WL;go_wp2;have hS:wr.drew.cell? ⟨Rw,q,none⟩=some (.int .u8 X):=c1;refine ax (fun w'=>w'.cell? ⟨Rw,q,none⟩=some (.int .u8 X)) 99 ?_;refine ap [0,1,2,3,4,5,6,7,8,9,10,11,12] ?_
   iterate 13 refine aT hS ?_
   refine aj ?_;refine ag 13 fun K hK=>?_;go_simp;have hLd:aQ wr.drew G _:=hSd.out.tZ;refine (rL wr.drew hSd.out.put.drew hLd).mono ?_;rintro e v1 ⟨rfl,n1,n2,n3⟩
   have hS1:v1.cell? ⟨Rw,q,none⟩=some (.int .u8 X):=by
    have hne:¬(Rw=G\/Rw=bp\/Rw=bl):=fun e=>by rcases e with e|e|e;exact BT.1 e;exact BT.2.1 e;exact BT.2.2 e
    exact (n3.cell (p:=⟨Rw,q,none⟩) lw hne).trans c1
   have HQ:Hid (_/\_):=⟨SX.out v1 n1 n2,(SW.out.drew).trans n3⟩
   refine hK _ _ (fun _=>hS1) ?_;clear hK K n1 n2 n3 hS1;refine am ?_;go_wp2
   go_roundw
   case rel=>exact⟨k+1,by omega,by go_num,HQ.out.1,HQ.out.2⟩
   case measure=>simp[intOf];omega
  ·have hke:k=count:=by omega
   subst hke;have HR:Hid (_/\_):=⟨hS.tZ,hkp⟩
   clear hS hkp;go_wp2
   go_end0
   exact⟨rfl,HR.out⟩
abbrev LC (p:Pm.Ps):Value:=.agg #[.int .i64 (p.c0:Nat),.int .i64 (p.r0:Nat),.int .i64 (p.cs:Nat),.int .i64 (p.rs:Nat),.int .i64 (p.C:Nat),.int .i64 (p.R:Nat)]
theorem p6 {w:World}{T:Nat}{a b c d e f:Value}{t:TypeId}(h:w.heap[T]?=some (.cells #[a,b,c,d,e,f] t (0,0))): w.cell? ⟨T,0,none⟩=some a/\w.cell? ⟨T,1,none⟩=some b/\w.cell? ⟨T,2,none⟩=some c/\w.cell? ⟨T,3,none⟩=some d/\w.cell? ⟨T,4,none⟩=some e/\w.cell? ⟨T,5,none⟩=some f/\T<w.heap.size :=
 ⟨aat _ _ _ _ _ _ h,aat _ _ _ _ _ _ h,aat _ _ _ _ _ _ h,aat _ _ _ _ _ _ h,aat _ _ _ _ _ _ h,aat _ _ _ _ _ _ h,aaa h⟩
structure od (w:World) (M bS bN G N W H n:Nat) (kd:Int) (dp:Nat) (ps:Bool) (pv sv:Value):Prop where
 m:w.heap[M]?=some (.cells #[.int .i64 (W:Nat),.int .i64 (H:Nat),.int .i64 kd,.int .i64 (dp:Nat),.bool ps,pv,sv] 24 (0,0))
 s:bG w bS (.slice (some ⟨G,0,none⟩) N N) 22
 n:bG w bN (.int .i64 (n:Nat)) 3
structure S8 (M bS bN G Rw:Nat):Prop where
 gm:M≠G
 gs:bS≠G
 gn:bN≠G
 gr:Rw≠G
theorem od.kept {w w':World}{M bS bN G N W H n:Nat}{kd:Int}{dp:Nat}{ps:Bool}{pv sv:Value}(h:od w M bS bN G N W H n kd dp ps pv sv)(k:∀j,j=M\/j=bS\/j=bN->w'.heap[j]?=w.heap[j]?):od w' M bS bN G N W H n kd dp ps pv sv :=
 ⟨(k _ (.inl rfl)).trans h.m,(k _ (.inr (.inl rfl))).trans h.s,(k _ (.inr (.inr rfl))).trans h.n⟩
theorem od.below {w w':World}{M bS bN G N W H n:Nat}{kd:Int}{dp:Nat}{ps:Bool}{pv sv:Value}(h:od w M bS bN G N W H n kd dp ps pv sv)(k:Below w.heap.size w w'):od w' M bS bN G N W H n kd dp ps pv sv :=
 h.kept (fun j hj=>k.block j (by rcases hj with rfl|rfl|rfl;exact aaa h.m;exact aaa h.s;exact aaa h.n))
theorem kE (kd:Int)(dp:Nat)(h:Pm.chan kd dp≠0):dp=1\/dp=2\/dp=4\/dp=8\/dp=16:=by
 unfold Pm.chan at h
 repeat' split at h
 all_goals omega
theorem DL {u:World}{M bS bN G N W H n B0:Nat}{kd:Int}{dp:Nat}{ps:Bool}{pv sv a b c d e f:Value}(h:od u M bS bN G N W H n kd dp ps pv sv/\u.heap[B0]?=some (.cells #[a,b,c,d,e,f] 93 (0,0))): (u.cell? ⟨M,0,none⟩=some (.int .i64 (W:Nat))/\u.cell? ⟨M,1,none⟩=some (.int .i64 (H:Nat))/\u.cell? ⟨M,2,none⟩=some (.int .i64 kd)/\u.cell? ⟨M,3,none⟩=some (.int .i64 (dp:Nat))/\u.cell? ⟨M,4,none⟩=some (.bool ps)/\u.cell? ⟨M,5,none⟩=some pv/\u.cell? ⟨M,6,none⟩=some sv) /\ u.cell? ⟨bS,0,none⟩=some (.slice (some ⟨G,0,none⟩) N N)/\u.cell? ⟨bN,0,none⟩=some (.int .i64 (n:Nat)) /\ (u.cell? ⟨B0,0,none⟩=some a/\u.cell? ⟨B0,1,none⟩=some b/\u.cell? ⟨B0,2,none⟩=some c/\u.cell? ⟨B0,3,none⟩=some d/\u.cell? ⟨B0,4,none⟩=some e/\u.cell? ⟨B0,5,none⟩=some f):=by
 obtain⟨x0,x1,x2,x3,x4,x5,x6⟩:=aP h.1.m;obtain⟨y0,y1,y2,y3,y4,y5,_⟩:=p6 h.2;exact⟨⟨x0,x1,x2,x3,x4,x5,x6⟩,h.1.s.cell,h.1.n.cell,y0,y1,y2,y3,y4,y5⟩
theorem Hp (W H n j dp:Nat)(kd:Int)(ps:Bool)(pv sv:Value)(p:Pm.Ps)(M bS bN G N Rw nr:Nat)(r out:List Int)(w:World)(hE:od w M bS bN G N W H n kd dp ps pv sv)(hap:S8 M bS bN G Rw)(hG:aQ w G out)(hB:cH w Rw r)(hr:r.length=nr)(gr:∀j,0<=Pm.ai r j/\Pm.ai r j<256)(hnr:nr=Pm.rowLen p.C (n*dp))(hN:out.length=N)(hNe:N=W*H*n)(hin:p.In W H)(hj:j<p.R)(hch:Pm.chan kd dp=(n:Int))(hn:1<=n/\n<=4)(hW:W<=5000)(hH:H<=5000)(hps:p.c0<=8/\p.r0<=8/\p.rs<=8)(hcs:1<=p.cs/\p.cs<=8)(hC:1<=p.C/\p.C<=5000)(hR:p.R<=5000): Calls Tryz.prog 63 #[LC p,.int .i64 (j:Nat),.slice (some ⟨Rw,0,none⟩) nr nr,.pointer (some ⟨bS,0,none⟩),.pointer (some ⟨M,0,none⟩),.pointer (some ⟨bN,0,none⟩)] w fun e w' =>
   e=.returned (.tuple #[])/\aQ w' G (Pm.oZ p W n j (Pm.dk (Pm.ai r) dp) out (p.C*n))/\Kp (·=G) w w':=by
 have hfs:=fun u=>pZ W H n j kd dp ps pv sv p u hch hW (by omega) hps hn.2
 have hidx:∀k,k<p.C*n->Pm.dO p W n j+Pm.oy n p.cs k<N:=fun k hk=>by
  rw[<-Pm.sM,hNe];exact Pm.Ps.Du hin hj hk
 have Qh:Pm.dO p W n j<N:=by
  have:=hidx 0 (Nat.mul_pos hC.1 hn.1);omega
 have hNb:N<=100000000:=by
  rw[hNe];have:W*H*n<=5000*5000*4:=abh (abh hW hH) hn.2;omega
 have hput:=fun u=>OA (.slice (some ⟨G,Pm.dO p W n j,none⟩) (N-Pm.dO p W n j) (N-Pm.dO p W n j)) n p.cs u ⟨_,_,_,rfl⟩;have HL:=Pm.KX p W n j (Pm.dk (Pm.ai r) dp) out (p.C*n);obtain⟨F,hF⟩:∃F,F=Pm.dO p W n j:=⟨_,rfl⟩
 rw[<-hF]at hfs hidx Qh hput HL;have k0:=ae w (.cells #[.int .i64 (p.c0:Nat),.int .i64 (p.r0:Nat),.int .i64 (p.cs:Nat),.int .i64 (p.rs:Nat),.int .i64 (p.C:Nat),.int .i64 (p.R:Nat)] 93);have q0:=ah w (.cells #[.int .i64 (p.c0:Nat),.int .i64 (p.r0:Nat),.int .i64 (p.cs:Nat),.int .i64 (p.rs:Nat),.int .i64 (p.C:Nat),.int .i64 (p.R:Nat)] 93);have E0:=hE.below k0;have UC:=aaa hG;have SE:Hid (nr=Pm.rowLen p.C (n*dp)):=hnr;have HN:Hid (out.length=N):=hN;have UD:=aaa hB;clear hF hNe hN hnr
 go_enter Tryz.func63,Tryz.ntmps63
 go_wp2_with fail;have k1:=k0.drew;have q1:(w.alloc (.cells #[.int .i64 (p.c0:Nat),.int .i64 (p.r0:Nat),.int .i64 (p.cs:Nat),.int .i64 (p.rs:Nat),.int .i64 (p.C:Nat),.int .i64 (p.R:Nat)] 93)).drew.heap[w.heap.size]?=_:=q0;have E1:od (w.alloc (.cells #[.int .i64 (p.c0:Nat),.int .i64 (p.r0:Nat),.int .i64 (p.cs:Nat),.int .i64 (p.rs:Nat),.int .i64 (p.C:Nat),.int .i64 (p.R:Nat)] 93)).drew M bS bN G N W H n kd dp ps pv sv:=E0.kept (fun _ _=>rfl);have s1:(w.alloc (.cells #[.int .i64 (p.c0:Nat),.int .i64 (p.r0:Nat),.int .i64 (p.cs:Nat),.int .i64 (p.rs:Nat),.int .i64 (p.C:Nat),.int .i64 (p.R:Nat)] 93)).drew.heap.size=w.heap.size+1:=by simp
 refine ax (fun u=>od u M bS bN G N W H n kd dp ps pv sv/\u.heap[w.heap.size]?=some (.cells #[.int .i64 (p.c0:Nat),.int .i64 (p.r0:Nat),.int .i64 (p.cs:Nat),.int .i64 (p.rs:Nat),.int .i64 (p.C:Nat),.int .i64 (p.R:Nat)] 93 (0,0))) 99 ?_;generalize (w.alloc (.cells #[.int .i64 (p.c0:Nat),.int .i64 (p.r0:Nat),.int .i64 (p.cs:Nat),.int .i64 (p.rs:Nat),.int .i64 (p.C:Nat),.int .i64 (p.R:Nat)] 93)).drew=v0 at *;have hS:od v0 M bS bN G N W H n kd dp ps pv sv/\v0.heap[w.heap.size]?=some (.cells #[.int .i64 (p.c0:Nat),.int .i64 (p.r0:Nat),.int .i64 (p.cs:Nat),.int .i64 (p.rs:Nat),.int .i64 (p.C:Nat),.int .i64 (p.R:Nat)] 93 (0,0)):=⟨E1,q1⟩
 refine ap [0,1,2,3,6,7,8] ?_
 iterate 7 (refine bU (v:=?_) (T:=?_) ?ht ?hy hS ?_;(case hy=>intro w hSw;have xr := DL hSw; go_simp;try with_reducible rfl);case ht=>go_simp;try with_reducible rfl)
 refine aj ?_;refine ag 4 fun K hK=>?_;go_simp;refine (hfs _).mono ?_;rintro e v1 ⟨rfl,b1⟩;have S1:od v1 M bS bN G N W H n kd dp ps pv sv/\v1.heap[w.heap.size]?=some (.cells #[.int .i64 (p.c0:Nat),.int .i64 (p.r0:Nat),.int .i64 (p.cs:Nat),.int .i64 (p.rs:Nat),.int .i64 (p.C:Nat),.int .i64 (p.R:Nat)] 93 (0,0)):=⟨E1.below b1,(b1.block _ (aaa q1)).trans q1⟩
 refine hK _ _ (fun _=>S1) ?_;clear hK K;have hFN:(F:Int)<=(N:Int):=by omega
 have abl:N≠F:=by omega
 have eFN:(N:Int)-(F:Int)=((N-F:Nat):Int):=by omega
 refine ap [5] ?_
 iterate 1 (refine bU (v:=?_) (T:=?_) ?ht ?hy S1 ?_;(case hy=>intro w hSw;have xr := DL hSw; go_simp;try with_reducible rfl);case ht=>go_simp;try with_reducible rfl)
 refine aj ?_;refine ag 9 fun K hK=>?_;go_simp;refine (hput _).mono ?_;rintro e v2 ⟨bp,bl,rfl,hP2,hbb,b2⟩;have S2:od v2 M bS bN G N W H n kd dp ps pv sv/\v2.heap[w.heap.size]?=some (.cells #[.int .i64 (p.c0:Nat),.int .i64 (p.r0:Nat),.int .i64 (p.cs:Nat),.int .i64 (p.rs:Nat),.int .i64 (p.C:Nat),.int .i64 (p.R:Nat)] 93 (0,0)):=⟨S1.1.below b2,(b2.block _ (aaa S1.2)).trans S1.2⟩
 refine hK _ _ (fun _=>S2) ?_;clear hK K;refine ap [10] ?_
 iterate 1 refine aT S2 ?_
 refine aj ?_;refine am ?_;have z1:=b1.size;have yP:Below w.heap.size w v1:=k1.trans (b1.mono (by omega));have BV:Below w.heap.size w v2:=yP.trans (b2.mono (by omega));have hG2:aQ v2 G out:=(BV.block _ UC).trans hG;have hB2:cH v2 Rw r:=(BV.block _ UD).trans hB
 have hPS:yO v2 v1.heap.size bp bl (v1.heap.size+2) (v1.heap.size+1) G F (N-F) (N-F) p.cs n (Pm.dk (Pm.ai r) dp) out 0:=by
  refine⟨?_,hG2⟩;rw[show Pm.oy n p.cs 0=0 by unfold Pm.oy;simp,show n-0%n=n by simp];exact hP2
 have hPA:Ox v1.heap.size bp bl (v1.heap.size+2) (v1.heap.size+1) G:=by
  constructor<;>omega
 have BT:Rw≠G/\Rw≠bp/\Rw≠bl:=⟨hap.gr,by omega,by omega⟩
 have WM:nr<=1000000:=by
  rw[SE.out];unfold Pm.rowLen;have zO:dp<=16:=by rcases kE kd dp (by rw[hch];omega) with h|h|h|h|h<;>omega
  have h1:n*dp<=4*16:=abh hn.2 zO;have h2:p.C*(n*dp)<=5000*64:=abh hC.2 h1;omega
 have hcnt:p.C*n<=5000*4:=abh hC.2 hn.2
 have hes:Calls Tryz.prog 66 #[.slice (some ⟨Rw,0,none⟩) nr nr,.int .i64 (dp:Nat),.int .i64 ((p.C*n:Nat):Int),Oy v1.heap.size bp bl (v1.heap.size+2) (v1.heap.size+1)] v2 fun e w' =>
   e=.returned (.tuple #[])/\aQ w' G (Pm.rX F n p.cs (Pm.dk (Pm.ai r) dp) out (p.C*n))/\Kp (fun k=>k=G\/k=bp\/k=bl) v2 w':=by
  have hdp:=kE kd dp (by rw[hch];omega);have hsi:=fun k hk=>Pm.yD p.C n dp k hdp hk;by_cases h16:dp=16
  ·subst h16;refine OB _ _ _ _ _ G F (N-F) (N-F) p.cs n Rw nr (p.C*n) r out v2 hB2 hr gr hPS hPA BT hn hcs (fun k hk=>⟨?_,?_,?_⟩) (by have:=HN.out;omega) WM (by omega)
   ·rw[SE.out];exact (hsi k hk).1 rfl
   ·have:=hidx k hk;have:=HN.out;omega
   ·have:=hidx k hk;have:=HN.out;omega
  ·refine SZ dp (by omega) _ _ _ _ _ G F (N-F) (N-F) p.cs n Rw nr (p.C*n) r out v2 hB2 hr gr hPS hPA BT hn hcs (fun k hk=>⟨?_,?_,?_⟩) (by have:=HN.out;omega) WM (by omega)
   ·rw[SE.out];exact (hsi k hk).2 h16
   ·have:=hidx k hk;have:=HN.out;omega
   ·have:=hidx k hk;have:=HN.out;omega
 have ecn:(p.C:Int)*(n:Int)=((p.C*n:Nat):Int):=by push_cast;rfl
 obtain⟨cn,hcn⟩:∃cn,cn=p.C*n:=⟨_,rfl⟩
 rw[<-hcn]at hes ecn hcnt;have wcn:IntKind.i64.wrap (cn:Int)=(cn:Int):=aao _ (by omega);have HCN:Hid (cn=p.C*n):=hcn;clear hcn;have HKW:Hid (Below w.heap.size w v2):=BV;obtain⟨⟨x0,x1,x2,x3,x4,x5,x6⟩,x7,x8,y0,y1,y2,y3,y4,y5⟩:=DL S2;have HLL:Hid (_):=HL;clear hPS hPA hB2 hG2 yP BV S1 S2 hidx HL hput hfs hB hG hE hin E0 E1 k0 k1 q0 q1 hP2 b1 b2;go_wp2_with fail;refine hes.mono ?_;rintro e v3 ⟨rfl,l3,BS⟩;go_wp2
 go_end0
 refine⟨rfl,?_,?_⟩
 ·rw[HLL.out,<-HCN.out];exact l3
 ·exact (Kp.aF HKW.out).then BS (fun i hi e=>by rcases e with e|e|e;exact e;omega;omega)
theorem WN:(Tryz.prog.info? 5).map (·.size)=some 1:=by kernel_rfl
theorem yQ (n:Nat)(hn:n<=1000000000)(Z:List Value)(hZ:Z=List.replicate n (.int .u8 0))(u:World): (Instr.makeSlice 36 (.int .i64 (n:Int)) (.int .i64 (n:Int))).run Tryz.prog u=.ok (.slice (some ⟨u.heap.size,0,none⟩) n n) (u.alloc (.cells Z.toArray 5)):=by
 obtain⟨i0,hi,hz0,hz1,hz2⟩:=abu Tryz.info5;have h:=run_make (P:=Tryz.prog) u 36 5 i0 (.int .u8 0) Tryz.underlying36 hi hz0 .i64 .i64 (n:Int) (n:Int) (by omega) (abU _) (by rw[hz2];omega) (by omega)
 have e2:(madeCells #[Value.int .u8 0] n)=Z.toArray:=by
  rw[hZ,<-toList_madeCells_one]
 simpa[hz1,Value.cells,e2]using h
theorem vI {P:Program}(w:World)(dT sT ty elem:TypeId)(g n dCap:Nat)(s:ByteArray)(cur:List Value)(t:TypeId)(hu:P.underlying dT=some (.slice elem))(hs:(P.info? elem).map (·.size)=some 1)(hg:w.heap[g]?=some (.cells cur.toArray t (0,0)))(hle:n<=s.size)(hcur:cur.length=n): (Builtin.copy_ #[dT,sT] ty #[.slice (some ⟨g,0,none⟩) n dCap,.string s]).run P w=.ok (goInt n) (w.setRow g ((s.data.toList.take n).map fun b:UInt8=>Value.int IntKind.u8 (b.toNat:Int)).toArray):=by
 have hlen:((s.data.toList.take n).map fun b:UInt8=>Value.int IntKind.u8 (b.toNat:Int)).length=n:=by
  rw[abO,aa7];have:s.data.toList.length=s.size:=rfl;omega
 have hst:=run_storeCells_at P g 0 t ((s.data.toList.take n).map fun b:UInt8=>Value.int IntKind.u8 (b.toNat:Int)) 0 cur.toArray w hg (by rw[hlen];simp[hcur]) (fun v hv=>by
  rw[ac3]at hv;obtain⟨b,_,rfl⟩:=hv
  rfl)
 have hmin:Nat.min s.size n=n:=Nat.min_eq_right hle;rw[hlen]at hst;simp only[acz,List.take_zero,abb,List.drop_of_length_le (Nat.le_of_eq hcur),abp,aaO]at hst;cases hq:P.info? elem with
 | none=>simp[hq]at hs
 | some i =>
  simp[Builtin.copy_,run_underlying hu,Builtin.lenOf,Builtin.firstCells,sizeOf,typeInfo,hq,hmin];rw[<-List.map_take,hst];simp[Result.andThen]
theorem Kp.setRow {S:Nat->Prop}{a w:World}(h:Kp S a w){g:Nat}(hg:S g\/a.heap.size<=g)(cs:Array Value):Kp S a (w.setRow g cs) :=
 ⟨h.os,h.tape,h.output,by have:=h.size;simpa[World.setRow]using this,fun k hk hs=>(setRow_other w g k cs (fun e=>by
  subst e;rcases hg with hg|hg
  ·exact hs hg
  ·omega)).trans (h.block k hk hs)⟩
theorem DM (s:ByteArray)(n:Nat)(h:n<=s.size):((s.data.toList.take n).map fun b:UInt8=>Value.int IntKind.u8 (b.toNat:Int))=cY ((List.range n).map fun i=>(af s i:Int)):=by
 have hl:s.data.toList.length=s.size:=rfl;refine aca (by simp[cY];omega) fun j h1 h2=>?_;simp only[abO,aa7]at h1;simp only[cY,acB,List.getElem_take,acG];unfold af;rw[aab,aan (by omega)];rfl
theorem LD {P F:Nat->Nat->World->Prop}{G:Prop}(h1:(∀a b u,F a b u->P a b u)->G)(h2:∀a b u,F a b u->P a b u):G:=h1 h2
theorem LE (args:Array Value)(w:World):(callFunc 63 args).run Tryz.prog w=.ok (.enter 63 args) w:=by kernel_rfl
abbrev OC (M bS bN:Nat):Value:=.func (.func 63) #[] #[.pointer (some ⟨bS,0,none⟩),.pointer (some ⟨M,0,none⟩),.pointer (some ⟨bN,0,none⟩)]
abbrev aD (W H:Nat)(kd:Int)(dp:Nat)(ps:Bool)(pv sv:Value):Array Value:=#[.int .i64 (W:Nat),.int .i64 (H:Nat),.int .i64 kd,.int .i64 (dp:Nat),.bool ps,pv,sv]
structure nF (w:World) (E bL bD M bS bN G N W H n:Nat) (kd:Int) (dp:Nat) (ps:Bool) (pv sv:Value) (lead:Nat):Prop where
 m:w.heap[E]?=some (.cells (aD W H kd dp ps pv sv) 24 (0,0))
 l:bG w bL (.int .i64 (lead:Nat)) 3
 d:bG w bD (OC M bS bN) 102
 s:od w M bS bN G N W H n kd dp ps pv sv
structure uM (E bR bL bD M bS bN G:Nat):Prop where
 g:E≠G/\bR≠G/\bL≠G/\bD≠G/\M≠G/\bS≠G/\bN≠G
 r:E≠bR/\bL≠bR/\bD≠bR/\M≠bR/\bS≠bR/\bN≠bR
theorem nF.kept {w w':World}{E bL bD M bS bN G N W H n:Nat}{kd:Int}{dp:Nat}{ps:Bool}{pv sv:Value}{lead:Nat}(h:nF w E bL bD M bS bN G N W H n kd dp ps pv sv lead)(k:∀j,j=E\/j=bL\/j=bD\/j=M\/j=bS\/j=bN->w'.heap[j]?=w.heap[j]?):nF w' E bL bD M bS bN G N W H n kd dp ps pv sv lead :=
 ⟨(k _ (.inl rfl)).trans h.m,(k _ (.inr (.inl rfl))).trans h.l,(k _ (.inr (.inr (.inl rfl)))).trans h.d,h.s.kept (fun j hj=>k j (.inr (.inr (.inr hj))))⟩
theorem nF.lt {w:World}{E bL bD M bS bN G N W H n:Nat}{kd:Int}{dp:Nat}{ps:Bool}{pv sv:Value}{lead:Nat}(h:nF w E bL bD M bS bN G N W H n kd dp ps pv sv lead)(j:Nat)(hj:j=E\/j=bL\/j=bD\/j=M\/j=bS\/j=bN):j<w.heap.size:=by
 rcases hj with rfl|rfl|rfl|rfl|rfl|rfl
 ·exact aaa h.m
 ·exact aaa h.l
 ·exact aaa h.d
 ·exact aaa h.s.m
 ·exact aaa h.s.s
 ·exact aaa h.s.n
theorem nF.kp {w w':World}{E bR bL bD M bS bN G N W H n:Nat}{kd:Int}{dp:Nat}{ps:Bool}{pv sv:Value}{lead:Nat}(h:nF w E bL bD M bS bN G N W H n kd dp ps pv sv lead)(ha:uM E bR bL bD M bS bN G)(k:Kp (fun k=>k=G\/k=bR) w w'):nF w' E bL bD M bS bN G N W H n kd dp ps pv sv lead:=by
 obtain⟨⟨g1,g2,g3,g4,g5,g6,g7⟩,r1,r2,r3,r4,r5,r6⟩:=ha;refine h.kept (fun j hj=>k.block j (h.lt j hj) (fun e=>?_));rcases hj with rfl|rfl|rfl|rfl|rfl|rfl<;>rcases e with e|e<;>contradiction
theorem nF.below {w w':World}{E bL bD M bS bN G N W H n:Nat}{kd:Int}{dp:Nat}{ps:Bool}{pv sv:Value}{lead:Nat}(h:nF w E bL bD M bS bN G N W H n kd dp ps pv sv lead)(k:Below w.heap.size w w'):nF w' E bL bD M bS bN G N W H n kd dp ps pv sv lead :=
 h.kept (fun j hj=>k.block j (h.lt j hj))
structure RInv (w wr:World) (m:Pm.dA) (T:ByteArray) (p:Pm.Ps) (o G bR ra aa size j:Nat) (out:List Int) (s:Pm.RS):Prop where
 at_:Pm.fx m (af T) p o out j=some s
 tZ:aQ wr G s.out
 raw:bG wr bR (.string (T.extract (o+j*(1+size)) T.size)) 9
 ab:∃al,cH wr aa al/\al.length=size/\Pm.ai al=s.above
 ro:∃rl,cH wr ra rl/\rl.length=size
 kp:Kp (fun k=>k=G\/k=bR) w wr
 fresh:w.heap.size<ra/\w.heap.size<aa/\ra≠aa
 pa:wr.heap[w.heap.size]?=some (.cells #[.int .i64 (p.c0:Nat),.int .i64 (p.r0:Nat),.int .i64 (p.cs:Nat),.int .i64 (p.rs:Nat),.int .i64 (p.C:Nat),.int .i64 (p.R:Nat)] 93 (0,0))
inductive Fq (m:Pm.dA) (T:ByteArray) (p:Pm.Ps) (o G bR:Nat) (out:List Int) (w:World):Ending->World->Prop
 | no {w'}:Pm.fx m (af T) p o out p.R=none->Kp (fun k=>k=G\/k=bR) w w'->Fq m T p o G bR out w (dies 15) w'
 | ok {w' s}:Pm.fx m (af T) p o out p.R=some s->aQ w' G s.out->bG w' bR (.string (T.extract (o+p.R*(1+Pm.rowLen p.C m.bits)) T.size)) 9->Kp (fun k=>k=G\/k=bR) w w'->Fq m T p o G bR out w (.returned (.tuple #[])) w'
theorem DQ (n:Nat):Pm.ai (List.replicate n (0:Int))=fun _=>0:=by
 funext i
 unfold Pm.ai;rw[aab,ach];split<;>rfl
theorem rN (T:ByteArray)(q i:Nat)(h:q+i<T.size):af (T.extract q T.size) i=af T (q+i):=bM T q T.size i h (aah _)
theorem tail_size (T:ByteArray)(q:Nat):(T.extract q T.size).size=T.size-q:=by rw[aaL];omega
theorem xt (T:ByteArray)(q d:Nat)(_h:q+d<=T.size):(T.extract q T.size).extract d (T.extract q T.size).size=T.extract (q+d) T.size:=by
 rw[tail_size,ByteArray.extract_extract]
 congr 1
 omega
theorem LF (T:ByteArray)(q size ra:Nat)(rl:List Int)(wr:World)(hq:q+1+size<=T.size)(hB:cH wr ra rl)(hl:rl.length=size): ∃v1,(Builtin.copy_ #[36,9] 3 #[.slice (some ⟨ra,0,none⟩) size size,.string ((T.extract q T.size).extract 1 (T.extract q T.size).size)]).run Tryz.prog wr=.ok (goInt size) v1 /\ cH v1 ra ((List.range size).map fun i=>((af T (q+1+i):Nat):Int))/\Kp (·=ra) wr v1:=by
 rw[xt T q 1 (by omega)];have hsz:=tail_size T (q+1);refine⟨_,vI (P:=Tryz.prog) wr 36 9 3 5 ra size size (T.extract (q+1) T.size) (cY rl) 5 Tryz.underlying36 WN hB (by omega) (by simp[cY,hl]),?_,Kp.setRow (S:=(·=ra)) (Kp.refl _ _) (.inl rfl) _⟩;refine (setRow_heap wr ra _ _ 5 (0,0) hB).trans ?_;rw[DM _ _ (by omega)]
 have e:(List.range size).map (fun i=>(af (T.extract (q+1) T.size) i:Int))=(List.range size).map fun i=>((af T (q+1+i):Nat):Int):=by
  refine acJ fun i hi=>?_;rw[List.mem_range]at hi;rw[rN _ _ _ (by omega)]
 rw[e]
theorem uN (W H n dp:Nat)(hn:1<=n/\n<=4)(hdp:dp=1\/dp=2\/dp=4\/dp=8\/dp=16):1<=Pm.dA.lead ⟨W,H,n,dp⟩/\Pm.dA.lead ⟨W,H,n,dp⟩<=8:=by
 unfold Pm.dA.lead Pm.dA.bits;dsimp only;have h1:n*dp<=4*16:=abh hn.2 (by omega);have h2:1*1<=n*dp:=abh hn.1 (by omega);omega
theorem Qp (W H n dp:Nat)(kd:Int)(ps:Bool)(pv sv:Value)(T:ByteArray)(p:Pm.Ps)(E bR bL bD M bS bN G N o:Nat)(out:List Int)(w:World)(hE:nF w E bL bD M bS bN G N W H n kd dp ps pv sv (Pm.dA.lead ⟨W,H,n,dp⟩))(hap:uM E bR bL bD M bS bN G)(hG:aQ w G out)(hraw:bG w bR (.string (T.extract o T.size)) 9)(hin:p.In W H)(hol:o+Pm.c8 ⟨W,H,n,dp⟩ p<=T.size)(_hT:T.size<=5000000)(hN:out.length=N)(hNe:N=W*H*n)(hpos:∀y∈out,0<=y)(hch:Pm.chan kd dp=(n:Int))(hn:1<=n/\n<=4)(hW:W<=5000)(hH:H<=5000)(hps:p.c0<=8/\p.r0<=8/\p.rs<=8)(hcs:1<=p.cs/\p.cs<=8)(hC:1<=p.C/\p.C<=5000)(hR:p.R<=5000): Calls Tryz.prog 94 #[LC p,.pointer (some ⟨E,0,none⟩),.pointer (some ⟨bR,0,none⟩),.pointer (some ⟨bL,0,none⟩),.pointer (some ⟨bD,0,none⟩)] w fun e w'=>Fq ⟨W,H,n,dp⟩ T p o G bR out w e w':=by
 have hdp:=kE kd dp (by rw[hch];omega);obtain⟨lead,hlead⟩:∃l,l=Pm.dA.lead ⟨W,H,n,dp⟩:=⟨_,rfl⟩
 rw[<-hlead]at hE;have hld:1<=lead/\lead<=8:=by rw[hlead];exact uN W H n dp hn hdp
 have UE:Hid (lead=Pm.dA.lead ⟨W,H,n,dp⟩):=hlead;clear hlead;have hcall:=LE;have hrb:=fun u=>uI W H kd dp ps pv sv (p.c0:Nat) (p.r0:Nat) (p.cs:Nat) (p.rs:Nat) (p.C:Nat) (p.R:Nat) u (by omega) (by rw[hch];omega)
 have S9:(((p.C:Nat):Int)*(Pm.chan kd dp*(dp:Int))+7)/8=((Pm.rowLen p.C (n*dp):Nat):Int):=by
  rw[hch];unfold Pm.rowLen;push_cast;rfl
 rw[S9]at hrb;have zO:dp<=16:=by rcases hdp with h|h|h|h|h<;>omega
 have hsz:Pm.rowLen p.C (n*dp)<=1000000:=by
  unfold Pm.rowLen;have h1:n*dp<=4*16:=abh hn.2 zO;have h2:p.C*(n*dp)<=5000*64:=abh hC.2 h1;omega
 have WO:Hid (∃size,size=Pm.rowLen p.C (n*dp)):=⟨_,rfl⟩
 obtain⟨size,hsize⟩:=WO.out;rw[<-hsize]at hrb hsz;have tu:Hid (size=Pm.rowLen p.C (n*dp)):=hsize;obtain⟨Z,hZ⟩:∃Z:List Value,Z=List.replicate size (.int .u8 0):=⟨_,rfl⟩
 have hmk:=fun u=>yQ size (by omega) Z hZ u;have HZ:Hid (Z=cY (List.replicate size 0)):=by show _=_;rw[hZ];simp[cY]
 have k0:=ae w (.cells #[.int .i64 (p.c0:Nat),.int .i64 (p.r0:Nat),.int .i64 (p.cs:Nat),.int .i64 (p.rs:Nat),.int .i64 (p.C:Nat),.int .i64 (p.R:Nat)] 93);have q0:=ah w (.cells #[.int .i64 (p.c0:Nat),.int .i64 (p.r0:Nat),.int .i64 (p.cs:Nat),.int .i64 (p.rs:Nat),.int .i64 (p.C:Nat),.int .i64 (p.R:Nat)] 93);have E0:=hE.below k0;have z0:=aP E0.m;have LG:Hid (_/\_/\_/\_):=⟨hE,hG,hraw,q0⟩
 have tJ:Hid (_/\_/\_/\_/\_):=⟨hin,hol,hN,hNe,hpos⟩
 clear hsize hZ WO hE hG hraw q0 E0 hin hol hN hNe hpos S9
 go_enter Tryz.func94,Tryz.ntmps94
 go_wp2_with fail;refine (hrb _).mono ?_;rintro e w1 ⟨rfl,b1⟩;go_wp2_with fail;have yP:Below w.heap.size w w1:=k0.trans (b1.mono (by simp));have q1:=(b1.block _ (by simp)).trans LG.out.2.2.2;have hlt1:=aaa q1;have xT:Hid (_/\_):=⟨yP,q1⟩
 clear yP q1 b1 k0 z0 hrb;apply LD (F:=fun A B u=>Below w.heap.size w u/\u.heap[w.heap.size]?=some (.cells #[.int .i64 (p.c0:Nat),.int .i64 (p.r0:Nat),.int .i64 (p.cs:Nat),.int .i64 (p.rs:Nat),.int .i64 (p.C:Nat),.int .i64 (p.R:Nat)] 93 (0,0))/\cH u A (List.replicate size 0)/\cH u B (List.replicate size 0)/\w.heap.size<A/\w.heap.size<B/\A≠B)
 ·intro rest;obtain⟨kk,y0,y1⟩:=bH w1 (.cells Z.toArray 5) (.cells Z.toArray 5);have NW:Hid (Below w1.heap.size w1 _/\_/\_):=⟨kk,y0,y1⟩
  clear kk y0 y1
  go_region
  ·have hF:Below w.heap.size w ((w1.alloc (.cells Z.toArray 5)).alloc (.cells Z.toArray 5)).drew/\((w1.alloc (.cells Z.toArray 5)).alloc (.cells Z.toArray 5)).drew.heap[w.heap.size]?=some (.cells #[.int .i64 (p.c0:Nat),.int .i64 (p.r0:Nat),.int .i64 (p.cs:Nat),.int .i64 (p.rs:Nat),.int .i64 (p.C:Nat),.int .i64 (p.R:Nat)] 93 (0,0))/\cH ((w1.alloc (.cells Z.toArray 5)).alloc (.cells Z.toArray 5)).drew w1.heap.size (List.replicate size 0)/\cH ((w1.alloc (.cells Z.toArray 5)).alloc (.cells Z.toArray 5)).drew (w1.heap.size+1) (List.replicate size 0)/\w.heap.size<w1.heap.size/\w.heap.size<w1.heap.size+1/\w1.heap.size≠w1.heap.size+1:=by
    obtain⟨kk,y0,y1⟩:=NW.out;rw[HZ.out]at y0 y1 kk ⊢;exact⟨(xT.out.1.trans (kk.mono (by omega))).drew,(kk.block _ hlt1).trans xT.out.2,y0,y1,by omega,by omega,by omega⟩
   revert hF;generalize World.drew _=u;generalize w1.heap.size+1=A2;generalize w1.heap.size=A1;intro hF;have r:=rest A1 A2 u hF;exact r
  ·have hF:Below w.heap.size w ((w1.alloc (.cells Z.toArray 5)).alloc (.cells Z.toArray 5)).drew/\((w1.alloc (.cells Z.toArray 5)).alloc (.cells Z.toArray 5)).drew.heap[w.heap.size]?=some (.cells #[.int .i64 (p.c0:Nat),.int .i64 (p.r0:Nat),.int .i64 (p.cs:Nat),.int .i64 (p.rs:Nat),.int .i64 (p.C:Nat),.int .i64 (p.R:Nat)] 93 (0,0))/\cH ((w1.alloc (.cells Z.toArray 5)).alloc (.cells Z.toArray 5)).drew (w1.heap.size+1) (List.replicate size 0)/\cH ((w1.alloc (.cells Z.toArray 5)).alloc (.cells Z.toArray 5)).drew w1.heap.size (List.replicate size 0)/\w.heap.size<w1.heap.size+1/\w.heap.size<w1.heap.size/\w1.heap.size+1≠w1.heap.size:=by
    obtain⟨kk,y0,y1⟩:=NW.out;rw[HZ.out]at y0 y1 kk ⊢;exact⟨(xT.out.1.trans (kk.mono (by omega))).drew,(kk.block _ hlt1).trans xT.out.2,y1,y0,by omega,by omega,by omega⟩
   revert hF;generalize World.drew _=u;generalize w1.heap.size+1=A2;generalize w1.heap.size=A1;intro hF;have r:=rest A2 A1 u hF;exact r
 ·intro A1 A2 u hu;clear xT hlt1 hmk HZ;obtain⟨ku,pu,u1,u2,l1,l2,Y7⟩:=hu;obtain⟨x0,x1,x2,x3,x4,x5,xl⟩:=p6 pu;have HKU:Hid (_/\_/\_/\_):=⟨ku,pu,u1,u2⟩
  clear ku pu u1 u2;go_wp2
  go_loopw [7,8,20] (fun rv av ix wr=>∃(j ra aa:Nat) (s:Pm.RS),j<=p.R/\ix=.int .i64 j/\rv=.slice (some ⟨ra,0,none⟩) size size/\av=.slice (some ⟨aa,0,none⟩) size size/\Hid (RInv w wr ⟨W,H,n,dp⟩ T p o G bR ra aa size j out s)) (fun _ _ ix _=>p.R-(intOf ix).toNat)
  case atStart =>
   refine⟨0,A1,A2,⟨fun _=>0,out⟩,aaq _,rfl,rfl,rfl,?_⟩;obtain⟨ku,pu,u1,u2⟩:=HKU.out;obtain⟨hE,hG,hraw,_⟩:=LG.out;exact⟨rfl,(ku.block _ (aaa hG)).trans hG,(ku.block _ (aaa hraw)).trans (by rw[Nat.zero_mul,acz];exact hraw),⟨_,u2,by simp,DQ size⟩,⟨_,u1,by simp⟩,Kp.aF ku,⟨l1,l2,Y7⟩,pu⟩
  case round =>
   obtain⟨j,ra,aa,s,hj,rfl,rfl,rfl,HI⟩:=hrel;by_cases hlt:j<p.R
   ·have hlt':(j:Int)<(p.R:Int):=by omega
    obtain⟨hin,hol,hN,hNe,hpos⟩:=tJ.out;have hat:=HI.out.at_;have uO:=Pm.lJ _ _ _ _ _ hpos _ _ hat;obtain⟨al,hBa,hal,hga⟩:=HI.out.ab;obtain⟨rl,hBr,hrl⟩:=HI.out.ro;have hkp:=HI.out.kp;have hraw:=HI.out.raw;have Hq:=HI.out.tZ;obtain⟨f1,f2,f3⟩:=HI.out.fresh;have hEr:=LG.out.1.kp hap hkp;have hri:=Pm.row_in ⟨W,H,n,dp⟩ p o j hlt hol;have hmb:Pm.rowLen p.C (Pm.dA.bits ⟨W,H,n,dp⟩)=size:=tu.out.symm;rw[hmb]at hri;obtain⟨q,hq⟩:∃q,q=o+j*(1+size):=⟨_,rfl⟩
    rw[<-hq]at hri hraw;have hgr:∀i,0<=Pm.ai al i/\Pm.ai al i<256:=fun i=>by rw[hga];exact uO.2.2 i
    have LH:Hid (∀u:World,∀l':List Int,4<af T q->Pm.fx ⟨W,H,n,dp⟩ (af T) p o out p.R=none):=fun _ _ h4=>by
     have h0:Pm.fx ⟨W,H,n,dp⟩ (af T) p o out (j+1)=none:=by
      show (Pm.fx _ _ _ _ _ j).bind _=none;rw[hat];show Pm.jG _ _ _ _ _ _=none;unfold Pm.jG;rw[hmb,<-hq,aaj h4]
     have:=Pm.uu _ _ _ _ _ (j+1) h0 (p.R-(j+1));rw[show j+1+(p.R-(j+1))=p.R by omega]at this;exact this
    have HGo:Hid (¬4<af T q->Pm.fx ⟨W,H,n,dp⟩ (af T) p o out (j+1)=some ⟨Pm.ai (Pm.nk (af T q) lead (Pm.ai al) (fun i=>((af T (q+1+i):Nat):Int)) size),Pm.oZ p W n j (Pm.dk (Pm.ai (Pm.nk (af T q) lead (Pm.ai al) (fun i=>((af T (q+1+i):Nat):Int)) size)) dp) s.out (p.C*n)⟩):=fun h4=>by
     show (Pm.fx _ _ _ _ _ j).bind _=_;rw[hat];show Pm.jG _ _ _ _ _ _=_;unfold Pm.jG;rw[hmb,<-hq,aai h4,hga,<-UE.out]
    obtain⟨R,hRr⟩:∃R,R=T.extract q T.size:=⟨_,rfl⟩
    have hRs:R.size=T.size-q:=by rw[hRr];exact tail_size T q
    have hf0:af R 0=af T q:=by rw[hRr,rN _ _ _ (by omega)];rfl
    have abr:0<R.size:=by omega
    have g0:=cD R 0 abr;have hR0:(0:Int)<(R.size:Int):=by omega
    have htk:=fun u=>uL (af R 0) u;obtain⟨v1,hcp,hB1,kQ⟩:=LF T q size ra rl wr (by omega) hBr hrl;have htt:=xt T q (1+size) (by omega);rw[<-hRr]at hraw hcp htt;have wT:Hid (R.extract (1+size) R.size=T.extract (q+(1+size)) T.size):=htt;rw[hf0]at g0 htk;obtain⟨f,hf⟩:∃f,f=af T q:=⟨_,rfl⟩
    rw[<-hf]at g0 htk LH HGo;obtain⟨r0,rf,QW⟩:=one_cell hraw;have HQQ:Hid (q+(1+size)=o+(j+1)*(1+size)):=by show _=_;rw[hq,acr];omega
    have HW:Hid (_/\_/\_/\_/\_/\_/\_/\_):=⟨hBa,hB1,Hq,hkp,kQ,hEr,HI.out.pa,hraw⟩
    have HV:Hid (_/\_/\_/\_):=⟨hgr,hal,hin,And.intro (uO.1.trans hN) hNe⟩
    have agZ:(1:Int)+(size:Int)<=(R.size:Int):=by omega
    have Za:(1:Int)<=(R.size:Int):=by omega
    clear hat uO hBa hga hBr hkp hraw Hq hEr hmb hq hgr hf0 hRr hRs hB1 kQ htt hf hin hol hN hNe hpos;go_wp2_with fail;refine (htk _).mono ?_;intro e w' he;cases he with
    | no h4 =>
     go_wp2;exact⟨rfl,.no (LH.out wr out h4) HW.out.2.2.2.1⟩
    | ok h4 =>
     have h4':¬4<f:=by omega
     have HG2:Hid (_):=HGo.out h4';clear htk LH HGo;obtain⟨hBa,hB1,Hq,hkp,kQ,hEr,hpa,hraw⟩:=HW.out;obtain⟨hgr,hal,hin,hN,hNe⟩:=HV.out;obtain⟨hgg,hrr⟩:=And.intro hap.g hap.r;have UF:=LG.out.1.lt;have UC:=aaa LG.out.2.1;have UD:=aaa LG.out.2.2.1;have zkp:=hkp.size;have Hr:bG v1 bR (.string R) 9:=(kQ.block bR QW (by omega)).trans hraw;have Ta:nF v1 E bL bD M bS bN G N W H n kd dp ps pv sv lead:=hEr.kept (fun j hj=>kQ.block j (hEr.lt j hj) (by have:=UF j hj;omega));have WP:aQ v1 G s.out:=(kQ.block G (aaa Hq) (by omega)).trans Hq;have ba1:cH v1 aa al:=(kQ.block aa (aaa hBa) (by omega)).trans hBa;have pa1:=(kQ.block w.heap.size (aaa hpa) (by omega)).trans hpa;have k1:Kp (fun k=>k=G\/k=bR) w v1:=hkp.then kQ (fun i hi e=>by omega)
     have sg:=one_set Hr (.string (R.extract (1+size) R.size));have Hs:=fun g (hg:g≠bR)=>aG v1 bR 0 (.string (R.extract (1+size) R.size)) g hg;have Ht:=Ta.kept (w':=v1.setCell ⟨bR,0,none⟩ (.string (R.extract (1+size) R.size))) (fun j hj=>Hs j (by rcases hj with rfl|rfl|rfl|rfl|rfl|rfl;exact hrr.1;exact hrr.2.1;exact hrr.2.2.1;exact hrr.2.2.2.1;exact hrr.2.2.2.2.1;exact hrr.2.2.2.2.2));have Hu:aQ (v1.setCell ⟨bR,0,none⟩ (.string (R.extract (1+size) R.size))) G s.out:=(Hs G (by have:=hgg.2.1;omega)).trans WP;have Tc:cH (v1.setCell ⟨bR,0,none⟩ (.string (R.extract (1+size) R.size))) aa al:=(Hs aa (by omega)).trans ba1;have br2:cH (v1.setCell ⟨bR,0,none⟩ (.string (R.extract (1+size) R.size))) ra _:=(Hs ra (by omega)).trans hB1;have UG:=(Hs w.heap.size (by omega)).trans pa1;have k2:Kp (fun k=>k=G\/k=bR) w (v1.setCell ⟨bR,0,none⟩ (.string (R.extract (1+size) R.size))):=k1.setCell (p:=⟨bR,0,none⟩) (.inl (.inr rfl)) _;have hres:=Lx (gY f) f lead size ra aa al (fun i=>((af T (q+1+i):Nat):Int)) _ (pg f h4) br2 Tc hal hgr (fun i=>by have:=cE T (q+1+i);omega) hld (fun e=>f3 e.symm) hsz;obtain⟨c1,z1,_⟩:=one_cell Hr;have c2:=Ta.l.cell;have nLR:=hrr.2.1;have HX:Hid (_/\_/\_/\_/\_/\_):=⟨Ht,Hu,Tc,sg,UG,k2⟩
     have p7:Hid (_/\_/\_/\_):=⟨UF,UC,UD,hgg⟩
     clear hBa hB1 Hq hkp kQ hEr hpa hraw Hr Ta WP ba1 pa1 k1 sg Hs Ht Hu Tc br2 UG k2 HW hgg hrr UF UC UD zkp hgr;go_wp2_with fail;refine hres.mono ?_;rintro e v3 ⟨rfl,hB3,BS⟩;obtain⟨Ht,Hu,Tc,sg,UG,k2⟩:=HX.out;obtain⟨UF,UC,UD,hgg⟩:=p7.out;have k2z:=k2.size;have Td:nF v3 E bL bD M bS bN G N W H n kd dp ps pv sv lead:=Ht.kept (fun j hj=>BS.block j (Ht.lt j hj) (by have:=UF j hj;omega));have WQ:aQ v3 G s.out:=(BS.block G (aaa Hu) (by omega)).trans Hu;have UH:cH v3 aa al:=(BS.block aa (aaa Tc) (by omega)).trans Tc;have mD:=(BS.block bR (aaa sg) (by omega)).trans sg;have Te:=(BS.block w.heap.size (aaa UG) (by omega)).trans UG;have k3:Kp (fun k=>k=G\/k=bR) w v3:=k2.then BS (fun i hi e=>by omega)
     have hsm:=Hp W H n j dp kd ps pv sv p M bS bN G N ra size _ s.out v3 Td.s ⟨hgg.2.2.2.2.1,hgg.2.2.2.2.2.1,hgg.2.2.2.2.2.2,by omega⟩ WQ hB3 (Pm.pR _ _ _ _ _) (fun i=>Pm.np _ _ _ _ _ i) tu.out hN hNe hin hlt hch hn hW hH hps hcs hC hR;have d3:=Td.d.cell;obtain⟨y0,y1,y2,y3,y4,y5,yl⟩:=p6 Te;have Ft:Hid (_/\_/\_/\_/\_):=⟨hB3,UH,mD,Te,k3⟩
     clear Ht Hu Tc sg UG k2 HX Td WQ UH mD Te k3 hB3 BS hres UF hgg;go_wp2_with fail;refine hsm.mono ?_;rintro e v4 ⟨rfl,hl4,OD⟩;obtain⟨hB3,UH,mD,Te,k3⟩:=Ft.out
     have HF:Hid (RInv w v4 ⟨W,H,n,dp⟩ T p o G bR aa ra size (j+1) out ⟨Pm.ai (Pm.nk f lead (Pm.ai al) (fun i=>((af T (q+1+i):Nat):Int)) size),Pm.oZ p W n j (Pm.dk (Pm.ai (Pm.nk f lead (Pm.ai al) (fun i=>((af T (q+1+i):Nat):Int)) size)) dp) s.out (p.C*n)⟩):=by
      refine⟨HG2.out,hl4,?_,⟨_,(OD.block ra (aaa hB3) (by omega)).trans hB3,Pm.pR _ _ _ _ _,rfl⟩,⟨al,(OD.block aa (aaa UH) (by omega)).trans UH,hal⟩,k3.then OD (fun i hi e=>.inl e),⟨f2,f1,fun e=>f3 e.symm⟩,(OD.block w.heap.size (aaa Te) (by omega)).trans Te⟩;rw[<-HQQ.out,<-wT.out];exact (OD.block bR (aaa mD) (by have:=hap.g.2.1;omega)).trans mD
     clear hsm hl4 OD hB3 UH mD Te k3 Ft HG2;go_wp2
     go_roundw
     case rel=>exact⟨j+1,aa,ra,_,by omega,by go_num,rfl,rfl,HF⟩
     case measure=>simp[intOf];omega
   ·have JH:j=p.R:=by omega
    subst JH;have HD:Hid (_):=HI.out;clear HI;go_wp2
    go_end0
    exact .ok HD.out.at_ HD.out.tZ (by have:=HD.out.raw;rw[tu.out]at this;exact this) HD.out.kp
theorem Qq (k:Nat)(hk:k<7)(w:World):(Instr.index 142 (.agg cX) (.int .i64 (k:Int))).run Tryz.prog w=.ok (yL (Pm.ox k:Nat) (Pm.oY k:Nat) (Pm.j5 k:Nat) (Pm.mC k:Nat)) w:=by
 match k,hk with
 | 0,_=>exact Ff w
 | 1,_=>exact Fg w
 | 2,_=>exact Fh w
 | 3,_=>exact Fi w
 | 4,_=>exact Fj w
 | 5,_=>exact Fk w
 | 6,_=>exact Fl w
theorem Bb (k:Nat):Pm.ox k<=4/\Pm.oY k<=4/\(1<=Pm.j5 k/\Pm.j5 k<=8)/\(1<=Pm.mC k/\Pm.mC k<=8):=by
 refine⟨?_,?_,⟨?_,?_⟩,?_,?_⟩
 ·unfold Pm.ox;split<;>omega
 ·unfold Pm.oY;split<;>omega
 ·unfold Pm.j5;split<;>omega
 ·unfold Pm.j5;split<;>omega
 ·unfold Pm.mC;split<;>omega
 ·unfold Pm.mC;split<;>omega
theorem kF (s t e:Nat)(h:s<t):(e+(t-1-s))/t<=e:=by
 rcases Nat.eq_zero_or_pos ((e+(t-1-s))/t) with h0|h0
 ·omega
 ·have:=Pm.uv s t e ((e+(t-1-s))/t-1) h (by omega);have h2:((e+(t-1-s))/t-1)*1<=((e+(t-1-s))/t-1)*t:=Nat.mul_le_mul_left _ (by omega);omega
inductive xu (m:Pm.dA) (T:ByteArray) (on:Bool) (G bR:Nat) (w:World):Ending->World->Prop
 | no {w'}:Pm.lO m (af T) on=none->Kp (fun k=>k=G\/k=bR) w w'->xu m T on G bR w (dies 15) w'
 | ok {w' l}:Pm.lO m (af T) on=some l->aQ w' G l->Kp (fun k=>k=G\/k=bR) w w'->xu m T on G bR w (.returned (.tuple #[])) w'
theorem Bc (args:Array Value)(w:World):(callFunc 94 args).run Tryz.prog w=.ok (.enter 94 args) w:=by kernel_rfl
abbrev Tf (E bR bL bD:Nat):Value:=.func (.func 94) #[] #[.pointer (some ⟨E,0,none⟩),.pointer (some ⟨bR,0,none⟩),.pointer (some ⟨bL,0,none⟩),.pointer (some ⟨bD,0,none⟩)]
theorem WR (W H n dp:Nat)(kd:Int)(pv sv:Value)(T:ByteArray)(E bR bL bD M bS bN G N:Nat)(out:List Int)(w:World)(hE:nF w E bL bD M bS bN G N W H n kd dp false pv sv (Pm.dA.lead ⟨W,H,n,dp⟩))(hap:uM E bR bL bD M bS bN G)(hG:aQ w G out)(hraw:bG w bR (.string T) 9)(hol:Pm.raw W H (Pm.dA.bits ⟨W,H,n,dp⟩:Nat) false=(T.size:Int))(hT:T.size<=5000000)(hN:out=List.replicate N 0)(hNe:N=W*H*n)(hch:Pm.chan kd dp=(n:Int))(hn:1<=n/\n<=4)(hW:1<=W/\W<=5000)(hH:1<=H/\H<=5000): Calls Tryz.prog 58 #[img W H kd dp false pv sv,Tf E bR bL bD] w fun e w'=>xu ⟨W,H,n,dp⟩ T false G bR w e w':=by
 have hcall:=Bc;have hk0:=ae w (.cells #[.int .i64 (W:Nat),.int .i64 (H:Nat),.int .i64 kd,.int .i64 (dp:Nat),.bool false,pv,sv] 24);have hrn:=Pm.nU ⟨W,H,n,dp⟩ false
 have hsz:Pm.c8 ⟨W,H,n,dp⟩ (Pm.kj ⟨W,H,n,dp⟩)=T.size:=by
  have:=hrn.symm.trans hol;simp only[ace,if_false]at this;omega
 have hT0:T.extract 0 T.size=T:=by
  apply ByteArray.ext;simp
 have hp:=Qp W H n dp kd false pv sv T (Pm.kj ⟨W,H,n,dp⟩) E bR bL bD M bS bN G N 0 out _ (hE.below hk0) hap ((hk0.block _ (aaa hG)).trans hG) (by rw[hT0];exact (hk0.block _ (aaa hraw)).trans hraw) (Pm.uw _) (by rw[hsz,aaO];exact aah _) hT (by rw[hN];simp) hNe (by rw[hN];exact Pm.lQ _) hch hn hW.2 hH.2 ⟨by show 0<=8;omega,by show 0<=8;omega,by show 1<=8;omega⟩ ⟨by show 1<=1;omega,by show 1<=8;omega⟩ hW hH.2;have hq:=Pm.lO ⟨W,H,n,dp⟩ (af T) false
 have HP:Hid (∀x,Pm.fx ⟨W,H,n,dp⟩ (af T) (Pm.kj ⟨W,H,n,dp⟩) 0 out H=x->Pm.lO ⟨W,H,n,dp⟩ (af T) false=x.map Pm.RS.out):=fun x hx=>by
  unfold Pm.lO;rw[aai (by decide),<-hx,hN,hNe]
 have zr:Hid (_):=hk0;clear hE hG hraw hk0 hrn hsz hT0 hol hq hN hNe
 go_enter Tryz.func58,Tryz.ntmps58
 go_wp2_with fail;refine hp.mono ?_;intro e w1 he;cases he with
 | no h1 k1 =>
  go_wp2;exact⟨rfl,.no (HP.out _ h1) ((Kp.aF zr.out).then k1 (fun i hi e=>e))⟩
 | @ok _ s h1 l1 r1 k1 =>
  have HD:Hid (_/\_/\_):=⟨HP.out _ h1,l1,(Kp.aF (S:=fun k=>k=G\/k=bR) zr.out).then k1 (fun i hi e=>e)⟩
  clear h1 l1 r1 k1 hp;go_wp2
  go_end0
  exact .ok HD.out.1 HD.out.2.1 HD.out.2.2
theorem Tg (W H n dp:Nat)(kd:Int)(pv sv:Value)(T:ByteArray)(E bR bL bD M bS bN G N:Nat)(w:World)(tt:TypeId)(fr:Nat×Nat)(jI:w.heap[0]?=some (.cells cX tt fr))(hE:nF w E bL bD M bS bN G N W H n kd dp true pv sv (Pm.dA.lead ⟨W,H,n,dp⟩))(hap:uM E bR bL bD M bS bN G)(hG:aQ w G (List.replicate N 0))(hraw:bG w bR (.string T) 9)(hol:Pm.raw W H (Pm.dA.bits ⟨W,H,n,dp⟩:Nat) true=(T.size:Int))(hT:T.size<=5000000)(hNe:N=W*H*n)(hch:Pm.chan kd dp=(n:Int))(hn:1<=n/\n<=4)(hW:1<=W/\W<=5000)(hH:1<=H/\H<=5000): Calls Tryz.prog 58 #[img W H kd dp true pv sv,Tf E bR bL bD] w fun e w'=>xu ⟨W,H,n,dp⟩ T true G bR w e w':=by
 have hcall:=Bc;have MK:Hid (w.heap[0]?=some (.cells cX tt fr)):=jI
 have hT0:T.extract 0 T.size=T:=by
  apply ByteArray.ext;simp
 have hsz:Pm.cC ⟨W,H,n,dp⟩ 7=T.size:=by
  have:=(Pm.nU ⟨W,H,n,dp⟩ true).symm.trans hol;simp only[if_true]at this;omega
 have HH:Hid (_/\_/\_/\_/\_/\_):=⟨hE,hap,hG,hraw,hsz,hNe⟩
 have HT0:Hid (_):=hT0;have UC:=aaa hG;have UD:=aaa hraw;clear jI hE hG hraw hT0 hsz hol hNe
 go_enter Tryz.func58,Tryz.ntmps58
 go_wp2_with (refine wpList_load_row rfl 142 _ rfl 0 rfl tt cX fr _ (ak MK.out _) Tryz.underlying142 rfl uJ ?_)
 go_loopw [17] (fun i wr=>∃(k:Nat) (l:List Int),k<=7/\i=.int .i64 k/\Hid (Pm.eU ⟨W,H,n,dp⟩ (af T) k=some l)/\Hid (aQ wr G l)/\Hid (bG wr bR (.string (T.extract (Pm.cC ⟨W,H,n,dp⟩ k) T.size)) 9)/\Kp (fun k=>k=G\/k=bR) (w.alloc (.cells #[.int .i64 (W:Nat),.int .i64 (H:Nat),.int .i64 kd,.int .i64 (dp:Nat),.bool true,pv,sv] 24)) wr) (fun i _=>7-(intOf i).toNat)
 case atStart =>
  obtain⟨hE,hap,hG,hraw,hsz,hNe⟩:=HH.out;refine⟨0,List.replicate N 0,aaq _,rfl,?_,ak hG _,?_,Kp.refl _ _⟩
  ·show some _=some _;rw[hNe]
  ·show bG _ _ _ _;rw[show Pm.cC ⟨W,H,n,dp⟩ 0=0 from rfl,HT0.out];exact ak hraw _
 case round =>
  obtain⟨k,l,hk,rfl,HPk,HL,HR,hkp⟩:=hrel;by_cases hlt:k<7
  ·obtain⟨hE,WS,hG,hraw,hsz,hNe⟩:=HH.out;obtain⟨s1,s2,s3,s4⟩:=Bb k;have t1:=Pm.wX k;have t2:=Pm.wY k;have hidx:=fun u=>Qq k hlt u;have hsz':=hkp.size;rw[aas]at hsz';have m0:wr.cell? ⟨w.heap.size,0,none⟩=some (.int .i64 (W:Nat)):=(hkp.cell (by simp) (by simp;omega)).trans (by simp);have m1:wr.cell? ⟨w.heap.size,1,none⟩=some (.int .i64 (H:Nat)):=(hkp.cell (by simp) (by simp;omega)).trans (by simp);have hlt2:w.heap.size<wr.heap.size:=by omega
   have e1:=Pm.qM (Pm.ox k) (Pm.j5 k) W t1;have e2:=Pm.qM (Pm.oY k) (Pm.mC k) H t2;have YW:=kF (Pm.ox k) (Pm.j5 k) W t1;have Za:=kF (Pm.oY k) (Pm.mC k) H t2;have pM:=fun u=>ja (Pm.ox k:Nat) (Pm.j5 k:Nat) (W:Nat) u (by omega) (by omega) (by omega) (by omega);have yR:=fun u=>ja (Pm.oY k:Nat) (Pm.mC k:Nat) (H:Nat) u (by omega) (by omega) (by omega) (by omega);rw[e1]at pM;rw[e2]at yR;have uO:=Pm.nt _ _ _ _ HPk.out;have hon:=Pm.ko ⟨W,H,n,dp⟩ k hlt
   have mo:Hid (Pm.eU ⟨W,H,n,dp⟩ (af T) (k+1)=Pm.kn ⟨W,H,n,dp⟩ (af T) k l):=by
    show (Pm.eU _ _ k).bind _=_;rw[HPk.out];rfl
   have hps:((Pm.cx ⟨W,H,n,dp⟩ k).C=(W+(Pm.j5 k-1-Pm.ox k))/Pm.j5 k)/\((Pm.cx ⟨W,H,n,dp⟩ k).R=(H+(Pm.mC k-1-Pm.oY k))/Pm.mC k):=⟨rfl,rfl⟩
   obtain⟨C,hC⟩:∃C,C=(W+(Pm.j5 k-1-Pm.ox k))/Pm.j5 k:=⟨_,rfl⟩
   obtain⟨R,hR⟩:∃R,R=(H+(Pm.mC k-1-Pm.oY k))/Pm.mC k:=⟨_,rfl⟩
   rw[<-hC]at pM YW hps;rw[<-hR]at yR Za hps;have WT:=hE.below (ae w (.cells #[.int .i64 (W:Nat),.int .i64 (H:Nat),.int .i64 kd,.int .i64 (dp:Nat),.bool true,pv,sv] 24));have Qr:=WT.kp WS hkp
   have Be:0<C->0<R->∀u,Below wr.heap.size wr u->Calls Tryz.prog 94 #[.agg #[.int .i64 (Pm.ox k:Nat),.int .i64 (Pm.oY k:Nat),.int .i64 (Pm.j5 k:Nat),.int .i64 (Pm.mC k:Nat),.int .i64 (C:Nat),.int .i64 (R:Nat)],.pointer (some ⟨E,0,none⟩),.pointer (some ⟨bR,0,none⟩),.pointer (some ⟨bL,0,none⟩),.pointer (some ⟨bD,0,none⟩)] u fun e w'=>Fq ⟨W,H,n,dp⟩ T (Pm.cx ⟨W,H,n,dp⟩ k) (Pm.cC ⟨W,H,n,dp⟩ k) G bR l u e w':=fun h1 h2 u hu=>by
    have:=Qp W H n dp kd true pv sv T (Pm.cx ⟨W,H,n,dp⟩ k) E bR bL bD M bS bN G N (Pm.cC ⟨W,H,n,dp⟩ k) l u (Qr.below hu) WS ((hu.block _ (aaa HL.out)).trans HL.out) ((hu.block _ (aaa HR.out)).trans HR.out) (Pm.yC _ _) (by
     have:=Pm.E6 ⟨W,H,n,dp⟩ k hlt ⟨by rw[hps.1];exact h1,by rw[hps.2];exact h2⟩;rw[hsz]at this
     exact this) hT (by rw[uO.1,hNe]) hNe uO.2 hch hn hW.2 hH.2 ⟨by show Pm.ox k<=8;omega,by show Pm.oY k<=8;omega,s4.2⟩ s3 ⟨by rw[hps.1];omega,by rw[hps.1];omega⟩ (by rw[hps.2];omega)
    rw[show LC (Pm.cx ⟨W,H,n,dp⟩ k)=.agg #[.int .i64 (Pm.ox k:Nat),.int .i64 (Pm.oY k:Nat),.int .i64 (Pm.j5 k:Nat),.int .i64 (Pm.mC k:Nat),.int .i64 ((Pm.cx ⟨W,H,n,dp⟩ k).C:Nat),.int .i64 ((Pm.cx ⟨W,H,n,dp⟩ k).R:Nat)] from rfl,hps.1,hps.2]at this;exact this
   have pq:Hid (¬(0<C/\0<R)->Pm.eU ⟨W,H,n,dp⟩ (af T) (k+1)=some l/\Pm.cC ⟨W,H,n,dp⟩ (k+1)=Pm.cC ⟨W,H,n,dp⟩ k):=fun hno=>by
    rw[hps.1,hps.2,aai hno]at hon;refine⟨?_,by rw[hon];rfl⟩;rw[mo.out,Pm.kn,hps.1,hps.2,aai hno]
   have qu:Hid (0<C/\0<R->Pm.eU ⟨W,H,n,dp⟩ (af T) (k+1)=(Pm.fx ⟨W,H,n,dp⟩ (af T) (Pm.cx ⟨W,H,n,dp⟩ k) (Pm.cC ⟨W,H,n,dp⟩ k) l (Pm.cx ⟨W,H,n,dp⟩ k).R).map Pm.RS.out/\Pm.cC ⟨W,H,n,dp⟩ (k+1)=Pm.cC ⟨W,H,n,dp⟩ k+(Pm.cx ⟨W,H,n,dp⟩ k).R*(1+Pm.rowLen (Pm.cx ⟨W,H,n,dp⟩ k).C (Pm.dA.bits ⟨W,H,n,dp⟩))):=fun Hw=>by
    have Fu:0<(Pm.cx ⟨W,H,n,dp⟩ k).C/\0<(Pm.cx ⟨W,H,n,dp⟩ k).R:=by rw[hps.1,hps.2];exact Hw
    rw[aaj Fu]at hon;refine⟨?_,hon⟩;rw[mo.out,Pm.kn,aaj Fu]
   have SW:Hid (_):=hkp;have Bf:Hid (_):=Be;obtain⟨c0,hc0⟩:∃c0,c0=Pm.ox k:=⟨_,rfl⟩
   obtain⟨r0,hr0⟩:∃r0,r0=Pm.oY k:=⟨_,rfl⟩
   obtain⟨cs,hcs⟩:∃cs,cs=Pm.j5 k:=⟨_,rfl⟩
   obtain⟨rs,hrs⟩:∃rs,rs=Pm.mC k:=⟨_,rfl⟩
   rw[<-hc0,<-hr0,<-hcs,<-hrs]at Bf hidx;rw[<-hc0,<-hcs]at pM;rw[<-hr0,<-hrs]at yR;clear hps hon uO hE hG hraw hsz hNe e1 e2 hC hR WT Qr Be mo t1 t2 s1 s2 s3 s4 hkp hc0 hr0 hcs hrs;go_wp2_with fail;refine (pM _).mono ?_;rintro e w' ⟨rfl,rfl⟩;go_wp2_with fail;refine (yR _).mono ?_;rintro e w' ⟨rfl,rfl⟩;have WW:Kp (fun k=>k=G\/k=bR) (w.alloc (.cells #[.int .i64 (W:Nat),.int .i64 (H:Nat),.int .i64 kd,.int .i64 (dp:Nat),.bool true,pv,sv] 24)) (wr.alloc (.cells #[.int .i64 (c0:Nat),.int .i64 (r0:Nat),.int .i64 (cs:Nat),.int .i64 (rs:Nat),.int .i64 (C:Nat),.int .i64 (R:Nat)] 93)):=SW.out.alloc _;have bA:=ae wr (.cells #[.int .i64 (c0:Nat),.int .i64 (r0:Nat),.int .i64 (cs:Nat),.int .i64 (rs:Nat),.int .i64 (C:Nat),.int .i64 (R:Nat)] 93);have HA:Hid (_/\_):=⟨WW,bA⟩
   clear WW bA;by_cases d1:0<C
   ·by_cases d2:0<R
    ·have Hw:=qu.out ⟨d1,d2⟩;have HY:Hid (_/\_):=Hw;have hcl:=Bf.out d1 d2 _ HA.out.2;clear Hw qu pq;go_wp2_with fail;refine hcl.mono ?_;intro e w1 he;cases he with
     | no h1 k1 =>
      have HN:Hid (Pm.eU ⟨W,H,n,dp⟩ (af T) 7=none):=by
       have h0:Pm.eU ⟨W,H,n,dp⟩ (af T) (k+1)=none:=by rw[HY.out.1,h1];rfl
       have:=Pm.rG _ _ (k+1) h0 (7-(k+1));rw[show k+1+(7-(k+1))=7 by omega]at this;exact this
      have HKK:Hid (Kp (fun k=>k=G\/k=bR) w w1):=((Kp.aF (S:=fun k=>k=G\/k=bR) (ae w (.cells #[.int .i64 (W:Nat),.int .i64 (H:Nat),.int .i64 kd,.int .i64 (dp:Nat),.bool true,pv,sv] 24))).trans HA.out.1).trans k1;clear h1 k1 hcl;go_wp2;exact⟨rfl,.no (by unfold Pm.lO;rw[aaj rfl];exact HN.out) HKK.out⟩
     | @ok _ s h1 l1 r1 k1 =>
      have HD:Hid (_/\_/\_/\_):=⟨(HY.out.1.trans (by rw[h1];rfl):Pm.eU ⟨W,H,n,dp⟩ (af T) (k+1)=some s.out),l1,(by rw[HY.out.2];exact r1:bG w1 bR (.string (T.extract (Pm.cC ⟨W,H,n,dp⟩ (k+1)) T.size)) 9),HA.out.1.trans k1⟩
      clear h1 l1 r1 k1 hcl;go_wp2
      go_roundw
      case rel=>exact⟨k+1,s.out,by omega,by go_num,HD.out.1,HD.out.2.1,HD.out.2.2.1,HD.out.2.2.2⟩
      case measure=>simp[intOf];omega
    ·have hno:=pq.out (fun h=>d2 h.2);have HD:Hid (_/\_/\_/\_):=⟨hno.1,(HA.out.2.block _ (aaa HL.out)).trans HL.out,(by rw[hno.2];exact (HA.out.2.block _ (aaa HR.out)).trans HR.out:bG _ bR (.string (T.extract (Pm.cC ⟨W,H,n,dp⟩ (k+1)) T.size)) 9),HA.out.1⟩
     clear hno qu pq;go_wp2
     go_roundw
     case rel=>exact⟨k+1,l,by omega,by go_num,HD.out.1,HD.out.2.1,HD.out.2.2.1,HD.out.2.2.2⟩
     case measure=>simp[intOf];omega
   ·have hno:=pq.out (fun h=>d1 h.1);have HD:Hid (_/\_/\_/\_):=⟨hno.1,(HA.out.2.block _ (aaa HL.out)).trans HL.out,(by rw[hno.2];exact (HA.out.2.block _ (aaa HR.out)).trans HR.out:bG _ bR (.string (T.extract (Pm.cC ⟨W,H,n,dp⟩ (k+1)) T.size)) 9),HA.out.1⟩
    clear hno qu pq;go_wp2
    go_roundw
    case rel=>exact⟨k+1,l,by omega,by go_num,HD.out.1,HD.out.2.1,HD.out.2.2.1,HD.out.2.2.2⟩
    case measure=>simp[intOf];omega
  ·have hke:k=7:=by omega
   subst hke;have HD:Hid (_/\_/\_):=⟨HPk.out,HL.out,(Kp.aF (S:=fun k=>k=G\/k=bR) (ae w (.cells #[.int .i64 (W:Nat),.int .i64 (H:Nat),.int .i64 kd,.int .i64 (dp:Nat),.bool true,pv,sv] 24))).trans hkp⟩
   go_wp2
   go_end0
   exact .ok (by unfold Pm.lO;rw[aaj rfl];exact HD.out.1) HD.out.2.1 HD.out.2.2
theorem jJ (w:World)(o0 o1 o2:Obj):Below w.heap.size w (((w.alloc o0).alloc o1).alloc o2)/\(((w.alloc o0).alloc o1).alloc o2).heap[w.heap.size]?=some o0/\(((w.alloc o0).alloc o1).alloc o2).heap[w.heap.size+1]?=some o1/\(((w.alloc o0).alloc o1).alloc o2).heap[w.heap.size+2]?=some o2:=by
 obtain⟨k0,q0,q1⟩:=bH w o0 o1;have q2:=ah ((w.alloc o0).alloc o1) o2;rw[aas,aas]at q2;exact⟨k0.alloc (by simp;omega) _,ak q0 _,ak q1 _,q2⟩
theorem Hx (W H n dp:Nat)(kd:Int)(hch:Pm.chan kd dp=(n:Int))(hn:1<=n):max (((n*dp:Nat):Int)/8) 1=((Pm.dA.lead ⟨W,H,n,dp⟩:Nat):Int):=by
 unfold Pm.dA.lead Pm.dA.bits;dsimp only;unfold Pm.chan at hch
 repeat' split at hch
 ·obtain rfl:n=1:=by omega
  rename_i h;obtain⟨_,h⟩:=h;omega
 ·obtain rfl:n=3:=by omega
  rename_i h;obtain⟨_,h⟩:=h;omega
 ·obtain rfl:n=1:=by omega
  rename_i h;obtain⟨_,h⟩:=h;omega
 ·obtain rfl:n=2:=by omega
  rename_i h;obtain⟨_,h⟩:=h;omega
 ·obtain rfl:n=4:=by omega
  rename_i h;obtain⟨_,h⟩:=h;omega
 ·omega
theorem Qs (W H n dp:Nat)(kd:Int)(ps:Bool)(pv sv:Value)(w:World)(hch:Pm.chan kd dp=(n:Int))(hn:1<=n): Calls Tryz.prog 82 #[img W H kd dp ps pv sv] w fun e w'=>e=.returned (.int .i64 ((Pm.dA.lead ⟨W,H,n,dp⟩:Nat):Int))/\Below w.heap.size w w':=by
 have hpb:=fun u=>Fe W H kd dp ps pv sv u (by rw[hch];omega);have hl:=Hx W H n dp kd hch hn;have hbd:=Pm.jo kd dp (by rw[hch];omega);have e1:Pm.chan kd dp*(dp:Int)=((n*dp:Nat):Int):=by rw[hch];push_cast;rfl
 rw[e1]at hpb hbd;have HL:Hid (_):=hl;generalize n*dp=b at *;have k0:=ae w (.cells #[.int .i64 (W:Nat),.int .i64 (H:Nat),.int .i64 kd,.int .i64 (dp:Nat),.bool ps,pv,sv] 24);clear hl e1
 go_enter Tryz.func82,Tryz.ntmps82
 go_wp2_with fail;refine (hpb _).mono ?_;rintro e w1 ⟨rfl,b1⟩;have HB:Hid (Below w.heap.size w w1):=k0.trans (b1.mono (by simp));clear b1 hpb k0;go_wp2
 all_goals go_ret
 all_goals exact⟨aI (by have:=HL.out;omega),HB.out⟩
theorem LJ (W H n dp:Nat)(kd:Int)(ps:Bool)(pv sv:Value)(T:ByteArray)(M bS bN G N:Nat)(w:World)(tt:TypeId)(fr:Nat×Nat)(jI:w.heap[0]?=some (.cells cX tt fr))(hE:od w M bS bN G N W H n kd dp ps pv sv)(hap:M≠G/\bS≠G/\bN≠G)(hG:aQ w G (List.replicate N 0))(hol:Pm.raw W H ((n*dp:Nat):Int) ps=(T.size:Int))(hT:T.size<=5000000)(hNe:N=W*H*n)(hch:Pm.chan kd dp=(n:Int))(hn:1<=n/\n<=4)(hW:1<=W/\W<=5000)(hH:1<=H/\H<=5000): Calls Tryz.prog 62 #[img W H kd dp ps pv sv,.string T,OC M bS bN] w fun e w'=>∃bR,w.heap.size<=bR/\∃u,Below w.heap.size w u/\xu ⟨W,H,n,dp⟩ T ps G bR u e w':=by
 have hld:=fun u=>Qs W H n dp kd ps pv sv u hch hn.1;obtain⟨lead,hlead⟩:∃l,l=Pm.dA.lead ⟨W,H,n,dp⟩:=⟨_,rfl⟩
 rw[<-hlead]at hld;have UE:Hid (lead=Pm.dA.lead ⟨W,H,n,dp⟩):=hlead;have q:=jJ w (.cells (aD W H kd dp ps pv sv) 24) (.cells #[.string T] 9) (.cells #[OC M bS bN] 102);have HQ:Hid (_):=q;have HH:Hid (_/\_/\_/\_/\_):=⟨hE,hap,hG,hol,jI⟩
 obtain⟨k0,q0,q1,q2⟩:=q;obtain⟨m0,m1,m2,m3,m4,m5,m6⟩:=aP q0;clear hE hG hol jI q0 q1 q2 hlead
 go_enter Tryz.func62,Tryz.ntmps62
 go_wp2_with fail;refine (hld _).mono ?_;rintro e w1 ⟨rfl,b1⟩;have yP:Below w.heap.size w w1:=HQ.out.1.trans (b1.mono HQ.out.1.size);have z3:(((w.alloc (.cells (aD W H kd dp ps pv sv) 24)).alloc (.cells #[.string T] 9)).alloc (.cells #[OC M bS bN] 102)).heap.size=w.heap.size+3:=by simp
 have zb:=b1.size;rw[z3]at zb;have kb:=ae w1 (.cells #[.int .i64 (lead:Nat)] 3);have r0:=ah w1 (.cells #[.int .i64 (lead:Nat)] 3);have e0:=(kb.block w.heap.size (by omega)).trans ((b1.block w.heap.size (by rw[z3];omega)).trans HQ.out.2.1);have e1:=(kb.block (w.heap.size+1) (by omega)).trans ((b1.block (w.heap.size+1) (by rw[z3];omega)).trans HQ.out.2.2.1);have e2:=(kb.block (w.heap.size+2) (by omega)).trans ((b1.block (w.heap.size+2) (by rw[z3];omega)).trans HQ.out.2.2.2);have BV:Below w.heap.size w (w1.alloc (.cells #[.int .i64 (lead:Nat)] 3)):=yP.trans (kb.mono (by omega));obtain⟨hE,hap,hG,hol,jI⟩:=HH.out;have lM:=aaa hE.m;have lS:=aaa hE.s;have lN:=aaa hE.n;have lG:=aaa hG;have lT:=aaa jI;have hR:nF (w1.alloc (.cells #[.int .i64 (lead:Nat)] 3)) w.heap.size w1.heap.size (w.heap.size+2) M bS bN G N W H n kd dp ps pv sv (Pm.dA.lead ⟨W,H,n,dp⟩):=⟨e0,by rw[<-UE.out];exact r0,e2,hE.below BV⟩
 have hA:uM w.heap.size (w.heap.size+1) w1.heap.size (w.heap.size+2) M bS bN G:=⟨⟨by omega,by omega,by omega,by omega,hap.1,hap.2.1,hap.2.2⟩,by omega,by omega,by omega,by omega,by omega,by omega⟩
 have hG2:aQ (w1.alloc (.cells #[.int .i64 (lead:Nat)] 3)) G (List.replicate N 0):=(BV.block _ lG).trans hG;have WX:=(BV.block _ lT).trans jI
 have DR:Calls Tryz.prog 58 #[img W H kd dp ps pv sv,Tf w.heap.size (w.heap.size+1) w1.heap.size (w.heap.size+2)] (w1.alloc (.cells #[.int .i64 (lead:Nat)] 3)) fun e w'=>xu ⟨W,H,n,dp⟩ T ps G (w.heap.size+1) (w1.alloc (.cells #[.int .i64 (lead:Nat)] 3)) e w':=by
  cases ps with
  | false=>exact WR W H n dp kd pv sv T w.heap.size (w.heap.size+1) w1.heap.size (w.heap.size+2) M bS bN G N _ _ hR hA hG2 e1 hol hT rfl hNe hch hn hW hH
  | true=>exact Tg W H n dp kd pv sv T w.heap.size (w.heap.size+1) w1.heap.size (w.heap.size+2) M bS bN G N _ tt fr WX hR hA hG2 e1 hol hT hNe hch hn hW hH
 obtain⟨x0,x1,x2,x3,x4,x5,x6⟩:=aP e0;have y0:=aP ((b1.block w.heap.size (by rw[z3];omega)).trans HQ.out.2.1);obtain⟨y0,y1,y2,y3,y4,y5,y6⟩:=y0;have GT:Hid (Below w.heap.size w (w1.alloc (.cells #[.int .i64 (lead:Nat)] 3))):=BV;clear hR hA hG2 WX hE hG hol jI yP BV kb r0 e0 e1 e2 b1 hld HQ HH m0 m1 m2 m3 m4 m5 m6 k0;go_wp2_with fail;refine DR.mono ?_;intro e w2 he;cases he with
 | no h1 k1 =>
  have HE:Hid (_/\_):=⟨h1,k1⟩
  clear h1 k1 DR;go_wp2;exact⟨rfl,w.heap.size+1,by omega,_,GT.out,.no HE.out.1 HE.out.2⟩
 | @ok _ l h1 l1 k1 =>
  have HE:Hid (_/\_/\_):=⟨h1,l1,k1⟩
  clear h1 l1 k1 DR;go_wp2
  go_end0
  exact⟨w.heap.size+1,by omega,_,GT.out,.ok HE.out.1 HE.out.2.1 HE.out.2.2⟩
end Go.Proofs.YtmfijackgekioabGreatDoor
