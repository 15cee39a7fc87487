import Derived.Test.YtmfijackgekioabGreatDoorQ31
set_option maxHeartbeats 1000000
set_option maxRecDepth 100000
namespace Go.Proofs.YtmfijackgekioabGreatDoor
open Go.RowKit Go.Maps
theorem Ie (X Y:Int)(b d:Nat)(hX:0<=X/\X<256)(h:X%2^(b+d)=0)(hY:0<=Y/\Y<2^(b+d))(hs:Y<256):bits .or .u8 X Y=X+Y:=by
 obtain⟨x,rfl⟩:=abz hX.1;obtain⟨y,rfl⟩:=abz hY.1;rw[u8_or_nat x y (by omega) (by omega)]
 have hy:y<2^(b+d):=by
  have:=hY.2;have e:(2:Int)^(b+d)=((2^(b+d):Nat):Int):=by push_cast;rfl
  omega
 have hx:x%2^(b+d)=0:=by
  have e:(2:Int)^(b+d)=((2^(b+d):Nat):Int):=by push_cast;rfl
  rw[e]at h;omega
 obtain⟨c,rfl⟩:∃c,x=2^(b+d)*c:=⟨x/2^(b+d),by have:=ac0 x (2^(b+d));omega⟩
 rw[<-Nat.two_pow_add_eq_or_of_lt hy c];push_cast;rfl
structure iF (w:World) (bF bD bR R dp n p:Nat):Prop where
 f:bG w bF (.int .i64 (p:Nat)) 3
 d:bG w bD (.int .i64 (dp:Nat)) 3
 r:bG w bR (.slice (some ⟨R,0,none⟩) n n) 36
structure Bs (bF bD bR R:Nat):Prop where
 ne:bF≠R/\bD≠R/\bR≠R/\bD≠bF/\bR≠bF
theorem iF.set {w u:World}{bF bD bR R dp n p q:Nat}(h:iF w bF bD bR R dp n p)(ha:Bs bF bD bR R)(hf:bG u bF (.int .i64 (q:Nat)) 3)(k:∀j,j≠R->j≠bF->j<w.heap.size->u.heap[j]?=w.heap[j]?):iF u bF bD bR R dp n q :=
 ⟨hf,(k _ ha.ne.2.1 ha.ne.2.2.2.1 (aaa h.d)).trans h.d,(k _ ha.ne.2.2.1 ha.ne.2.2.2.2 (aaa h.r)).trans h.r⟩
theorem cH.set2 {w:World}{g:Nat}{l:List Int}(h:cH w g l)(i j:Nat)(x y:Int):cH ((w.setCell ⟨g,i,none⟩ (.int .u8 x)).setCell ⟨g,j,none⟩ (.int .u8 y)) g ((l.set i x).set j y):=(h.set i x).set j y
theorem OL (args:Array Value)(w:World):(callFunc 153 args).run Tryz.prog w=.ok (.enter 153 args) w:=by kernel_rfl
abbrev Qw (bF bD bR:Nat):Value:=.func (.func 153) #[] #[.pointer (some ⟨bF,0,none⟩),.pointer (some ⟨bD,0,none⟩),.pointer (some ⟨bR,0,none⟩)]
def LW (v:Nat->Int)(dp n K:Nat):Prop:=∀k,k<K->(0<=v k/\v k<2^dp)/\(dp=16->2*k+1<n)/\(dp≠16->k*dp/8<n)
theorem Tm (v:Nat->Int)(dp bF bD bR R n k:Nat)(w:World)(hD:dp=1\/dp=2\/dp=4\/dp=8)(hE:iF w bF bD bR R dp n (k*dp))(ha:Bs bF bD bR R)(hB:cH w R (Pm.bC v dp n k))(hpk:Pm.Packed v dp n k)(hk:k*dp/8<n)(hn:n<=1000000)(hv:0<=v k/\v k<2^dp): Calls Tryz.prog 153 #[.int .i64 (v k),.pointer (some ⟨bF,0,none⟩),.pointer (some ⟨bD,0,none⟩),.pointer (some ⟨bR,0,none⟩)] w fun e w'=>e=.returned (.tuple #[])/\iF w' bF bD bR R dp n ((k+1)*dp)/\cH w' R (Pm.bC v dp n (k+1))/\Kp (fun j=>j=R\/j=bF) w w':=by
 have h16:dp≠16:=by omega
 have hlen:=Pm.i7 v dp n k;have hlow:=hpk.low h16;have hby:=hpk.byte (k*dp/8);have HN:Hid (Pm.bC v dp n (k+1)=(Pm.bC v dp n k).set (k*dp/8) (Pm.ai (Pm.bC v dp n k) (k*dp/8)+v k*2^(8-k*dp%8-dp))):=by show _=_;rw[Pm.bC,aai h16]
 have hc:=hB.cell (k*dp/8) (by rw[hlen];exact hk);have HP:Hid ((k+1)*dp=k*dp+dp):=acr k dp;obtain⟨p,hp⟩:∃p,p=k*dp:=⟨_,rfl⟩
 have hfd:p%8+dp<=8:=by rw[hp];rcases hD with rfl|rfl|rfl|rfl<;>omega
 rw[<-hp]at hE HN hk hlow hby hc HP;generalize Pm.ai (Pm.bC v dp n k) (p/8)=X at *;obtain⟨q,hq⟩:∃q,q=p/8:=⟨_,rfl⟩
 rw[<-hq]at HN hk hc;obtain⟨bh,WL⟩:∃bh,bh=8-p%8-dp:=⟨_,rfl⟩
 rw[<-WL]at HN;rw[show 8-p%8=bh+dp by omega]at hlow;generalize v k=V at *;have hp8:p<=8000008:=by omega
 have hps:=Pm.AY X V bh dp hlow hv (by omega) hby;have hY0:0<=V*2^bh:=acv hv.1 (Int.le_of_lt (Pm.iD bh))
 have hY2:V*2^bh<2^(bh+dp):=by
  rw[Nat.add_comm bh dp,Int.pow_add];exact Int.mul_lt_mul_of_pos_right hv.2 (Pm.iD bh)
 have hor:=Ie X (V*2^bh) bh dp hby hlow ⟨hY0,hY2⟩ (by omega);have e8:(p:Int)/8=(q:Int):=by omega
 have ebh:8-(p:Int)%8-(dp:Int)=(bh:Int):=by omega
 have hql:(q:Int)<(n:Int):=by omega
 have wq:IntKind.i64.wrap (q:Int)=(q:Int):=aao _ (by omega);have wb:IntKind.i64.wrap (bh:Int)=(bh:Int):=aao _ (by omega);have wp:IntKind.i64.wrap ((p:Int)+(dp:Int))=((p+dp:Nat):Int):=by rw[show (p:Int)+(dp:Int)=((p+dp:Nat):Int) by push_cast;rfl];exact aao _ (by omega)
 have wV:IntKind.i64.wrap (V*2^bh)=V*2^bh:=aao _ (by omega);have wU:IntKind.u8.wrap (V*2^bh)=V*2^bh:=by rw[ab2];omega
 have wZ:IntKind.u8.wrap (X+V*2^bh)=X+V*2^bh:=by rw[ab2];omega
 have d16:((dp:Int)==16)=false:=by rw[aaP];omega
 have c1:=hE.f.cell;have c2:=hE.d.cell;have c3:=hE.r.cell;have fz:=fun j=>hB.frozen j;have lb:=aaa hB;obtain⟨xf,zf,lf⟩:=one_cell hE.f;obtain⟨a1,a2,a3,a4,a5⟩:=ha.ne;have HH:Hid (_/\_/\_):=⟨hE,hB,ha⟩
 clear hE hB hlen hp hq WL ha hpk hlow hby hY2
 go_enter Tryz.func153,Tryz.ntmps153
 go_wp2;have hS:w.drew.cell? ⟨bR,0,none⟩=some (.slice (some ⟨R,0,none⟩) n n)/\w.drew.cell? ⟨R,q,none⟩=some (.int .u8 X):=⟨c3,hc⟩
 refine ax (fun w'=>w'.cell? ⟨bR,0,none⟩=some (.slice (some ⟨R,0,none⟩) n n)/\w'.cell? ⟨R,q,none⟩=some (.int .u8 X)) 10 ?_;refine ap [0,1,2,3,4,5,6,7,8,9] ?_
 iterate 10 refine aT hS ?_
 refine aj ?_;refine ag 10 fun K hK=>?_;go_simp;refine hK _ _ (fun h=>absurd rfl h) ?_;clear hK K;refine am ?_
 have HF:Hid (∀z:World,z=((w.setCell ⟨R,q,none⟩ (.int .u8 (X+V*2^bh))).setCell ⟨bF,0,none⟩ (.int .i64 ((p:Int)+(dp:Int))))->iF z.drew bF bD bR R dp n ((k+1)*dp)/\cH z.drew R (Pm.bC v dp n (k+1))/\Kp (fun j=>j=R\/j=bF) w z.drew):=fun z hz=>by
  subst hz;obtain⟨hE,hB,ha⟩:=HH.out;refine⟨?_,?_,?_⟩
  ·refine hE.set ha ?_ (fun j h1 h2 h3=>(aG _ _ _ _ _ h2).trans (aG _ _ _ _ _ h1));rw[HP.out];have:=one_set (w:=w.setCell ⟨R,q,none⟩ (.int .u8 (X+V*2^bh))) ((aG _ _ _ _ _ a1).trans hE.f) (.int .i64 ((p:Int)+(dp:Int)));rw[show ((p:Int)+(dp:Int))=((p+dp:Nat):Int) by push_cast;rfl]at this ⊢;exact this
  ·rw[HN.out];exact (aG _ _ _ _ _ (acN a1)).trans (hB.set q _)
  ·exact (((Kp.refl _ _).setCell (p:=⟨R,q,none⟩) (.inl (.inl rfl)) _).setCell (p:=⟨bF,0,none⟩) (.inl (.inr rfl)) _).drew
 go_wp2
 go_end0
 exact⟨rfl,HF.out _ rfl⟩
theorem OM (v:Nat->Int)(bF bD bR R n k:Nat)(w:World)(hE:iF w bF bD bR R 16 n (k*16))(ha:Bs bF bD bR R)(hB:cH w R (Pm.bC v 16 n k))(hk:2*k+1<n)(hn:n<=1000000)(hv:0<=v k/\v k<65536): Calls Tryz.prog 153 #[.int .i64 (v k),.pointer (some ⟨bF,0,none⟩),.pointer (some ⟨bD,0,none⟩),.pointer (some ⟨bR,0,none⟩)] w fun e w'=>e=.returned (.tuple #[])/\iF w' bF bD bR R 16 n ((k+1)*16)/\cH w' R (Pm.bC v 16 n (k+1))/\Kp (fun j=>j=R\/j=bF) w w':=by
 obtain⟨p,hp⟩:∃p,p=k*16:=⟨_,rfl⟩
 have hlen:=Pm.i7 v 16 n k;have HN:Hid (Pm.bC v 16 n (k+1)=((Pm.bC v 16 n k).set (2*k) (v k/256)).set (2*k+1) (v k%256)):=by show _=_;rw[Pm.bC,aaj rfl]
 obtain⟨q,hq⟩:∃q,q=2*k:=⟨_,rfl⟩
 rw[<-hq]at HN hk;rw[<-hp]at hE;have e8:(p:Int)/8=(q:Int):=by omega
 have hql:(q:Int)+1<(n:Int):=by omega
 have hqm:(q:Int)<(n:Int):=by omega
 have kp0:(0:Int)<=(q:Int)+1:=by omega
 have wq:IntKind.i64.wrap (q:Int)=(q:Int):=aao _ (by omega);have wq1:IntKind.i64.wrap ((q:Int)+1)=(q:Int)+1:=aao _ (by omega);have wp:IntKind.i64.wrap ((p:Int)+16)=((p+16:Nat):Int):=by rw[show (p:Int)+16=((p+16:Nat):Int) by push_cast;rfl];exact aao _ (by omega)
 obtain⟨O,hO⟩:∃O,w.cell? ⟨R,q,none⟩=some (.int .u8 O):=⟨_,hB.cell q (by rw[hlen];omega)⟩
 obtain⟨O2,hO2⟩:∃O,w.cell? ⟨R,q+1,none⟩=some (.int .u8 O):=⟨_,hB.cell (q+1) (by rw[hlen];omega)⟩
 generalize v k=V at *;have v1:IntKind.u8.wrap (V/256)=V/256:=by rw[ab2];omega
 have v2:IntKind.u8.wrap V=V%256:=by rw[ab2]
 have c1:=hE.f.cell;have c2:=hE.d.cell;have c3:=hE.r.cell;have fz:=fun j=>hB.frozen j;have lb:=aaa hB;have HH:Hid (_/\_):=⟨hE,hB⟩
 obtain⟨a1,a2,a3,a4,a5⟩:=ha.ne;have HA:Hid (_):=ha;have HP:Hid (p+16=(k+1)*16):=by show _=_;omega
 obtain⟨xf,zf,lf⟩:=one_cell hE.f;clear hE hB hlen hp hq ha
 go_enter Tryz.func153,Tryz.ntmps153
 go_wp2;have hS:w.drew.cell? ⟨bR,0,none⟩=some (.slice (some ⟨R,0,none⟩) n n):=c3;refine ax (fun w'=>w'.cell? ⟨bR,0,none⟩=some (.slice (some ⟨R,0,none⟩) n n)) 99 ?_;refine ap [0,1,2,3,4,5,6,7,8,9,10] ?_
 iterate 11 refine aT hS ?_
 refine aj ?_;refine ag 11 fun K hK=>?_;go_simp;refine hK _ _ (fun _=>?_) ?_
 ·show (w.setCell ⟨R,q,none⟩ _).cell? _=_;rw[World.cell?_setCell_other _ _ _ _ (fun e=>a3 (abV Addr.block e).symm)];exact c3
 clear hK K
 have hS1:(w.setCell ⟨R,q,none⟩ (.int .u8 (V/256))).cell? ⟨bR,0,none⟩=some (.slice (some ⟨R,0,none⟩) n n):=by
  rw[World.cell?_setCell_other _ _ _ _ (fun e=>a3 (abV Addr.block e).symm)];exact c3
 refine ap [12] ?_
 iterate 1 refine aT hS1 ?_
 refine aj ?_;refine ag 13 fun K hK=>?_;go_simp;refine hK _ _ (fun _=>?_) ?_
 ·show ((w.setCell ⟨R,q,none⟩ _).setCell ⟨R,q+1,none⟩ _).cell? _=_;rw[World.cell?_setCell_other _ _ _ _ (fun e=>a3 (abV Addr.block e).symm),World.cell?_setCell_other _ _ _ _ (fun e=>a3 (abV Addr.block e).symm)];exact c3
 clear hK K;refine am ?_
 have HF:Hid (∀z:World,z=(((w.setCell ⟨R,q,none⟩ (.int .u8 (V/256))).setCell ⟨R,q+1,none⟩ (.int .u8 (V%256))).setCell ⟨bF,0,none⟩ (.int .i64 ((p:Int)+16)))->iF z.drew bF bD bR R 16 n ((k+1)*16)/\cH z.drew R (Pm.bC v 16 n (k+1))/\Kp (fun j=>j=R\/j=bF) w z.drew):=fun z hz=>by
  subst hz;obtain⟨hE,hB⟩:=HH.out;refine⟨?_,?_,?_⟩
  ·refine hE.set HA.out ?_ (fun j h1 h2 h3=>(aG _ _ _ _ _ h2).trans ((aG _ _ _ _ _ h1).trans (aG _ _ _ _ _ h1)));rw[<-HP.out];have:=one_set (w:=(w.setCell ⟨R,q,none⟩ (.int .u8 (V/256))).setCell ⟨R,q+1,none⟩ (.int .u8 (V%256))) ((aG _ _ _ _ _ a1).trans ((aG _ _ _ _ _ a1).trans hE.f)) (.int .i64 ((p:Int)+16));rw[show ((p:Int)+16)=((p+16:Nat):Int) by push_cast;rfl]at this ⊢;exact this
  ·rw[HN.out];exact (aG _ _ _ _ _ (acN a1)).trans (hB.set2 q (q+1) _ _)
  ·exact ((((Kp.refl _ _).setCell (p:=⟨R,q,none⟩) (.inl (.inl rfl)) _).setCell (p:=⟨R,q+1,none⟩) (.inl (.inl rfl)) _).setCell (p:=⟨bF,0,none⟩) (.inl (.inr rfl)) _).drew
 go_wp2
 go_end0
 exact⟨rfl,HF.out _ rfl⟩
theorem Xh (v:Nat->Int)(dp bF bD bR R n k K:Nat)(w:World)(hE:iF w bF bD bR R dp n (k*dp))(ha:Bs bF bD bR R)(hB:cH w R (Pm.bC v dp n k))(hdp:Pm.rI dp)(hok:LW v dp n K)(hk:k<K)(hn:n<=1000000): Calls Tryz.prog 153 #[.int .i64 (v k),.pointer (some ⟨bF,0,none⟩),.pointer (some ⟨bD,0,none⟩),.pointer (some ⟨bR,0,none⟩)] w fun e w'=>e=.returned (.tuple #[])/\iF w' bF bD bR R dp n ((k+1)*dp)/\cH w' R (Pm.bC v dp n (k+1))/\Kp (fun j=>j=R\/j=bF) w w':=by
 obtain⟨h1,h2,h3⟩:=hok k hk;by_cases h:dp=16
 ·subst h;exact OM v bF bD bR R n k w hE ha hB (h2 rfl) hn h1
 ·exact Tm v dp bF bD bR R n k w (by unfold Pm.rI at hdp;omega) hE ha hB (Pm.packed v dp n hdp K (fun k hk=>(hok k hk).1) (fun k hk=>(hok k hk).2) k (by omega)) (h3 h) hn h1
theorem Tn {n st i t:Nat}(ht:t<n):Pm.oy n st (i*n+t)=i*st*n+t:=by
 unfold Pm.oy;rw[abk i n,Nat.mul_add_div (by omega),Nat.div_eq_of_lt ht,acz,Nat.mul_add_mod,abE ht,abv]
structure gZ (w:World) (G:Nat) (S:List Int):Prop where
 at_:∀j,j<S.length->w.cell? ⟨G,j,none⟩=some (.int .i64 (Pm.ai S j))
 lt:G<w.heap.size
theorem gZ.kp {w w':World}{G:Nat}{S:List Int}{K:Nat->Prop}(h:gZ w G S)(k:Kp K w w')(hG:¬K G):gZ w' G S:=⟨fun j hj=>(k.cell (p:=⟨G,j,none⟩) h.lt hG).trans (h.at_ j hj),aaQ h.lt k.size⟩
theorem gZ.below {w w':World}{G:Nat}{S:List Int}(h:gZ w G S)(k:Below w.heap.size w w'):gZ w' G S:=h.kp (Kp.aF (S:=fun _=>False) k) (fun e=>e)
theorem OO (v:Nat->Int)(S:List Int)(n st C dp nr off len cap G bF bD bR R:Nat)(w:World)(hE:iF w bF bD bR R dp nr 0)(ha:Bs bF bD bR R)(hB:cH w R (Pm.bC v dp nr 0))(hS:gZ w G S)(hG:G≠R/\G≠bF)(hin:∀k,k<C*n->v k=Pm.ai S (off+Pm.oy n st k)/\off+Pm.oy n st k<S.length/\Pm.oy n st k<len)(hok:LW v dp nr (C*n))(hdp:Pm.rI dp)(hC:C<=5000)(hn:1<=n/\n<=4)(hst:1<=st/\st<=8)(hlc:len<=cap)(hnr:nr<=1000000): Calls Tryz.prog 126 #[.slice (some ⟨G,off,none⟩) len cap,.int .i64 (n:Nat),.int .i64 (st:Nat),.int .i64 (C:Nat),Qw bF bD bR] w fun e w' =>
   e=.returned (.tuple #[])/\cH w' R (Pm.bC v dp nr (C*n))/\Kp (fun j=>j=R\/j=bF) w w':=by
 have hcall:=OL;have HH:Hid (_/\_/\_):=⟨hE,hB,hS⟩
 have tJ:Hid (_/\_):=⟨hin,hok⟩
 clear hE hB hS hin hok
 go_enter Tryz.func126,Tryz.ntmps126
 go_wp2
 go_loopw [14] (fun ix wr=>∃i:Nat,i<=C/\ix=.int .i64 i/\Hid (iF wr bF bD bR R dp nr (i*n*dp))/\Hid (cH wr R (Pm.bC v dp nr (i*n)))/\Hid (Kp (fun j=>j=R\/j=bF) w wr)) (fun ix _=>C-(intOf ix).toNat)
 case atStart=>exact⟨0,aaq _,rfl,by show iF _ _ _ _ _ _ _ _;rw[Nat.zero_mul,Nat.zero_mul];exact HH.out.1,by show cH _ _ _;rw[Nat.zero_mul];exact HH.out.2.1,Kp.refl _ _⟩
 case round =>
  obtain⟨i,hi,rfl,HE,HB,HK⟩:=hrel;by_cases hlt:i<C
  ·have hlt':(i:Int)<(C:Int):=by omega
   obtain⟨A,hA⟩:∃A,A=i*st:=⟨_,rfl⟩
   have eA:(i:Int)*(st:Int)=(A:Int):=by rw[hA];push_cast;rfl
   have YS:A<=40000:=by rw[hA];have:i*st<=5000*8:=abh (by omega) hst.2;omega
   have wA:IntKind.i64.wrap (A:Int)=(A:Int):=aao _ (by omega);obtain⟨q,hq⟩:∃q,q=A*n:=⟨_,rfl⟩
   have eq:(A:Int)*(n:Int)=(q:Int):=by rw[hq];push_cast;rfl
   have hqb:q<=160000:=by rw[hq];have:A*n<=40000*4:=abh (by omega) hn.2;omega
   have wq:IntKind.i64.wrap (q:Int)=(q:Int):=aao _ (by omega);have hpl:∀t,t<n->Pm.oy n st (i*n+t)=q+t:=fun t ht=>by rw[Tn ht,hq,hA]
   have hin1:∀t,t<n->i*n+t<C*n:=fun t ht=>by
    have:(i+1)*n<=C*n:=abt _ hlt;rw[acr]at this;omega
   have hqn:q+n<=len:=by
    have h1:=(tJ.out.1 (i*n+(n-1)) (hin1 (n-1) (by omega))).2.2;rw[hpl (n-1) (by omega)]at h1;omega
   have hq1:(q:Int)<=(len:Int):=by omega
   have hq2:(n:Int)<=(cap:Int)-(q:Int):=by omega
   have BQ:Hid (∀t,t<n->v (i*n+t)=Pm.ai S (off+q+t)/\off+q+t<S.length/\i*n+t<C*n):=fun t ht=>by
    obtain⟨a1,a2,_⟩:=tJ.out.1 (i*n+t) (hin1 t ht);rw[hpl t ht,<-acy]at a1 a2;exact⟨a1,a2,hin1 t ht⟩
   have mo:Hid ((i+1)*n=i*n+n):=acr i n;clear hA hq hpl hin1;go_wp2
   go_loopw [27] (fun tx wr2=>∃t:Nat,t<=n/\tx=.int .i64 t/\Hid (iF wr2 bF bD bR R dp nr ((i*n+t)*dp))/\Hid (cH wr2 R (Pm.bC v dp nr (i*n+t)))/\Hid (Kp (fun j=>j=R\/j=bF) w wr2)) (fun tx _=>n-(intOf tx).toNat)
   case atStart=>exact⟨0,aaq _,rfl,HE,HB,HK⟩
   case round =>
    obtain⟨t,ht,rfl,HE2,HB2,GT⟩:=hrel;by_cases htl:t<n
    ·have ag7:(t:Int)<(n:Int):=by omega
     obtain⟨p1,p2,p3⟩:=BQ.out t htl;have hS2:=HH.out.2.2.kp GT.out (fun e=>by rcases e with e|e;exact hG.1 e;exact hG.2 e);have c0:=hS2.at_ _ p2;have hpk:=Xh v dp bF bD bR R nr (i*n+t) (C*n) wr HE2.out ha HB2.out hdp tJ.out.2 p3 hnr;rw[p1]at hpk;have HT:Hid (i*n+t+1=i*n+(t+1)):=rfl;generalize Pm.ai S (off+q+t)=V at *;clear p1 p2 p3 hS2 HE2 HB2;go_wp2_with fail;refine hpk.mono ?_;rintro e w1 ⟨rfl,g1,g2,g3⟩;have HD:Hid (_/\_/\_):=⟨g1,g2,GT.out.trans g3⟩
     clear g1 g2 g3 hpk;go_wp2
     go_roundw
     case rel=>exact⟨t+1,by omega,by go_num,HD.out.1,HD.out.2.1,HD.out.2.2⟩
     case measure=>simp[intOf];omega
    ·have hte:t=n:=by omega
     subst hte;go_wp2
     go_roundw
     case rel=>exact⟨i+1,by omega,by go_num,by show iF _ _ _ _ _ _ _ _;rw[mo.out];exact HE2.out,by show cH _ _ _;rw[mo.out];exact HB2.out,GT⟩
     case measure=>simp[intOf];omega
  ·have hie:i=C:=by omega
   subst hie;go_wp2
   go_end0
   exact⟨rfl,HB.out,HK.out⟩
end Go.Proofs.YtmfijackgekioabGreatDoor
