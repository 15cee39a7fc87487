import Derived.Test.YtmfijackgekioaaGreatDoorQ29
import Derived.Test.YtmfijackgekioaaGreatDoorQ36
set_option maxHeartbeats 1000000
set_option maxRecDepth 100000
namespace Go.Proofs.YtmfijackgekioaaGreatDoor
section
open Go.RowKit Go.Maps
theorem FR (X Y:Int)(b d:Nat)(hX:0<=X/\X<256)(h:X%2^(b+d)=0)(hY:0<=Y/\Y<2^(b+d))(hs:Y<256):bits .or .u8 X Y=X+Y:=by
 obtain⟨x,rfl⟩:=aaO hX.1;obtain⟨y,rfl⟩:=aaO hY.1;rw[u8_or_nat x y (by omega) (by omega)]
 have hy:y<2^(b+d):=by
  have:=hY.2;have e:(2:Int)^(b+d)=((2^(b+d):Nat):Int):=by push_cast;rfl
  omega
 have hx:x%2^(b+d)=0:=by
  have e:(2:Int)^(b+d)=((2^(b+d):Nat):Int):=by push_cast;rfl
  rw[e]at h;omega
 obtain⟨c,rfl⟩:∃c,x=2^(b+d)*c:=⟨x/2^(b+d),by have:=Nat.div_add_mod x (2^(b+d));omega⟩
 rw[<-Nat.two_pow_add_eq_or_of_lt hy c];push_cast;rfl
structure gV (w:World) (bF bD bR R dp n p:Nat):Prop where
 f:bM w bF (.int .i64 (p:Nat)) 3
 d:bM w bD (.int .i64 (dp:Nat)) 3
 r:bM w bR (.slice (some ⟨R,0,none⟩) n n) 107
structure Al (bF bD bR R:Nat):Prop where
 ne:bF≠R/\bD≠R/\bR≠R/\bD≠bF/\bR≠bF
theorem gV.set {w u:World}{bF bD bR R dp n p q:Nat}(h:gV w bF bD bR R dp n p)(ha:Al bF bD bR R)(hf:bM u bF (.int .i64 (q:Nat)) 3)(k:∀j,j≠R->j≠bF->j<w.heap.size->u.heap[j]?=w.heap[j]?):gV u bF bD bR R dp n q :=
 ⟨hf,(k _ ha.ne.2.1 ha.ne.2.2.2.1 (aab h.d)).trans h.d,(k _ ha.ne.2.2.1 ha.ne.2.2.2.2 (aab h.r)).trans h.r⟩
theorem dA.set2 {w:World}{g:Nat}{l:List Int}(h:dA w g l)(i j:Nat)(x y:Int):dA ((w.setCell ⟨g,i,none⟩ (.int .u8 x)).setCell ⟨g,j,none⟩ (.int .u8 y)) g ((l.set i x).set j y):=(h.set i x).set j y
theorem MO (args:Array Value)(w:World):(callFunc 194 args).run Tryz.prog w=.ok (.enter 194 args) w:=by kernel_rfl
abbrev Og (bF bD bR:Nat):Value:=.func (.func 194) #[] #[.pointer (some ⟨bF,0,none⟩),.pointer (some ⟨bD,0,none⟩),.pointer (some ⟨bR,0,none⟩)]
def JP (v:Nat->Int)(dp n K:Nat):Prop:=∀k,k<K->(0<=v k/\v k<2^dp)/\(dp=16->2*k+1<n)/\(dp≠16->k*dp/8<n)
theorem Qr (v:Nat->Int)(dp bF bD bR R n k:Nat)(w:World)(hD:dp=1\/dp=2\/dp=4\/dp=8)(hE:gV w bF bD bR R dp n (k*dp))(ha:Al bF bD bR R)(hB:dA w R (Pm.bg v dp n k))(hpk:Pm.Packed v dp n k)(hk:k*dp/8<n)(hn:n<=1000000)(hv:0<=v k/\v k<2^dp): Calls Tryz.prog 194 #[.int .i64 (v k),.pointer (some ⟨bF,0,none⟩),.pointer (some ⟨bD,0,none⟩),.pointer (some ⟨bR,0,none⟩)] w fun e w'=>e=.returned (.tuple #[])/\gV w' bF bD bR R dp n ((k+1)*dp)/\dA w' R (Pm.bg v dp n (k+1))/\Kp (fun j=>j=R\/j=bF) w w':=by
 have h16:dp≠16:=by omega
 have hlen:=Pm.iB v dp n k;have hlow:=hpk.low h16;have hby:=hpk.byte (k*dp/8);have HN:Hid (Pm.bg v dp n (k+1)=(Pm.bg v dp n k).set (k*dp/8) (Pm.ap (Pm.bg v dp n k) (k*dp/8)+v k*2^(8-k*dp%8-dp))):=by show _=_;rw[Pm.bg,aae h16]
 have hc:=hB.cell (k*dp/8) (by rw[hlen];exact hk);have HP:Hid ((k+1)*dp=k*dp+dp):=abR k dp;obtain⟨p,hp⟩:∃p,p=k*dp:=⟨_,rfl⟩
 have hfd:p%8+dp<=8:=by rw[hp];rcases hD with rfl|rfl|rfl|rfl<;>omega
 rw[<-hp]at hE HN hk hlow hby hc HP;generalize Pm.ap (Pm.bg v dp n k) (p/8)=X at *;obtain⟨q,hq⟩:∃q,q=p/8:=⟨_,rfl⟩
 rw[<-hq]at HN hk hc;obtain⟨bh,hbh⟩:∃bh,bh=8-p%8-dp:=⟨_,rfl⟩
 rw[<-hbh]at HN;rw[show 8-p%8=bh+dp by omega]at hlow;generalize v k=V at *;have XG:p<=8000008:=by omega
 have hps:=Pm.Ag X V bh dp hlow hv (by omega) hby;have hY0:0<=V*2^bh:=abW hv.1 (Int.le_of_lt (Pm.fe bh))
 have hY2:V*2^bh<2^(bh+dp):=by
  rw[Nat.add_comm bh dp,Int.pow_add];exact Int.mul_lt_mul_of_pos_right hv.2 (Pm.fe bh)
 have hor:=FR X (V*2^bh) bh dp hby hlow ⟨hY0,hY2⟩ (by omega);have e8:(p:Int)/8=(q:Int):=by omega
 have ebh:8-(p:Int)%8-(dp:Int)=(bh:Int):=by omega
 have hql:(q:Int)<(n:Int):=by omega
 have wq:IntKind.i64.wrap (q:Int)=(q:Int):=aah _ (by omega);have wb:IntKind.i64.wrap (bh:Int)=(bh:Int):=aah _ (by omega);have wp:IntKind.i64.wrap ((p:Int)+(dp:Int))=((p+dp:Nat):Int):=by rw[show (p:Int)+(dp:Int)=((p+dp:Nat):Int) by push_cast;rfl];exact aah _ (by omega)
 have wV:IntKind.i64.wrap (V*2^bh)=V*2^bh:=aah _ (by omega);have wU:IntKind.u8.wrap (V*2^bh)=V*2^bh:=by rw[abT];omega
 have wZ:IntKind.u8.wrap (X+V*2^bh)=X+V*2^bh:=by rw[abT];omega
 have d16:((dp:Int)==16)=false:=by rw[aam];omega
 have c1:=hE.f.cell;have c2:=hE.d.cell;have c3:=hE.r.cell;have fz:=fun j=>hB.frozen j;have lb:=aab hB;obtain⟨xf,zf,lf⟩:=one_cell hE.f;obtain⟨a1,a2,a3,a4,a5⟩:=ha.ne;have HH:Hid (_/\_/\_):=⟨hE,hB,ha⟩
 clear hE hB hlen hp hq hbh ha hpk hlow hby hY2
 go_enter Tryz.func194,Tryz.ntmps194
 go_wp2;have hS:w.drew.cell? ⟨bR,0,none⟩=some (.slice (some ⟨R,0,none⟩) n n)/\w.drew.cell? ⟨R,q,none⟩=some (.int .u8 X):=⟨c3,hc⟩
 refine aE (fun w'=>w'.cell? ⟨bR,0,none⟩=some (.slice (some ⟨R,0,none⟩) n n)/\w'.cell? ⟨R,q,none⟩=some (.int .u8 X)) 10 ?_;refine am [0,1,2,3,4,5,6,7,8,9] ?_
 iterate 10 refine au hS ?_
 refine aj ?_;refine ai 10 fun K hK=>?_;go_simp;refine hK _ _ (fun h=>absurd rfl h) ?_;clear hK K;refine ar ?_
 have HF:Hid (∀z:World,z=((w.setCell ⟨R,q,none⟩ (.int .u8 (X+V*2^bh))).setCell ⟨bF,0,none⟩ (.int .i64 ((p:Int)+(dp:Int))))->gV z.drew bF bD bR R dp n ((k+1)*dp)/\dA z.drew R (Pm.bg v dp n (k+1))/\Kp (fun j=>j=R\/j=bF) w z.drew):=fun z hz=>by
  subst hz;obtain⟨hE,hB,ha⟩:=HH.out;refine⟨?_,?_,?_⟩
  ·refine hE.set ha ?_ (fun j h1 h2 h3=>(cQ _ _ _ _ _ h2).trans (cQ _ _ _ _ _ h1));rw[HP.out];have:=one_set (w:=w.setCell ⟨R,q,none⟩ (.int .u8 (X+V*2^bh))) ((cQ _ _ _ _ _ a1).trans hE.f) (.int .i64 ((p:Int)+(dp:Int)));rw[show ((p:Int)+(dp:Int))=((p+dp:Nat):Int) by push_cast;rfl]at this ⊢;exact this
  ·rw[HN.out];exact (cQ _ _ _ _ _ (Ne.symm a1)).trans (hB.set q _)
  ·exact (((Kp.refl _ _).setCell (p:=⟨R,q,none⟩) (.inl (.inl rfl)) _).setCell (p:=⟨bF,0,none⟩) (.inl (.inr rfl)) _).drew
 go_wp2
 go_end0
 exact⟨rfl,HF.out _ rfl⟩
theorem MP (v:Nat->Int)(bF bD bR R n k:Nat)(w:World)(hE:gV w bF bD bR R 16 n (k*16))(ha:Al bF bD bR R)(hB:dA w R (Pm.bg v 16 n k))(hk:2*k+1<n)(hn:n<=1000000)(hv:0<=v k/\v k<65536): Calls Tryz.prog 194 #[.int .i64 (v k),.pointer (some ⟨bF,0,none⟩),.pointer (some ⟨bD,0,none⟩),.pointer (some ⟨bR,0,none⟩)] w fun e w'=>e=.returned (.tuple #[])/\gV w' bF bD bR R 16 n ((k+1)*16)/\dA w' R (Pm.bg v 16 n (k+1))/\Kp (fun j=>j=R\/j=bF) w w':=by
 obtain⟨p,hp⟩:∃p,p=k*16:=⟨_,rfl⟩
 have hlen:=Pm.iB v 16 n k;have HN:Hid (Pm.bg v 16 n (k+1)=((Pm.bg v 16 n k).set (2*k) (v k/256)).set (2*k+1) (v k%256)):=by show _=_;rw[Pm.bg,aaf rfl]
 obtain⟨q,hq⟩:∃q,q=2*k:=⟨_,rfl⟩
 rw[<-hq]at HN hk;rw[<-hp]at hE;have e8:(p:Int)/8=(q:Int):=by omega
 have hql:(q:Int)+1<(n:Int):=by omega
 have hqm:(q:Int)<(n:Int):=by omega
 have kp0:(0:Int)<=(q:Int)+1:=by omega
 have wq:IntKind.i64.wrap (q:Int)=(q:Int):=aah _ (by omega);have wq1:IntKind.i64.wrap ((q:Int)+1)=(q:Int)+1:=aah _ (by omega);have wp:IntKind.i64.wrap ((p:Int)+16)=((p+16:Nat):Int):=by rw[show (p:Int)+16=((p+16:Nat):Int) by push_cast;rfl];exact aah _ (by omega)
 obtain⟨O,hO⟩:∃O,w.cell? ⟨R,q,none⟩=some (.int .u8 O):=⟨_,hB.cell q (by rw[hlen];omega)⟩
 obtain⟨O2,hO2⟩:∃O,w.cell? ⟨R,q+1,none⟩=some (.int .u8 O):=⟨_,hB.cell (q+1) (by rw[hlen];omega)⟩
 generalize v k=V at *;have v1:IntKind.u8.wrap (V/256)=V/256:=by rw[abT];omega
 have v2:IntKind.u8.wrap V=V%256:=by rw[abT]
 have c1:=hE.f.cell;have c2:=hE.d.cell;have c3:=hE.r.cell;have fz:=fun j=>hB.frozen j;have lb:=aab hB;have HH:Hid (_/\_):=⟨hE,hB⟩
 obtain⟨a1,a2,a3,a4,a5⟩:=ha.ne;have HA:Hid (_):=ha;have HP:Hid (p+16=(k+1)*16):=by show _=_;omega
 obtain⟨xf,zf,lf⟩:=one_cell hE.f;clear hE hB hlen hp hq ha
 go_enter Tryz.func194,Tryz.ntmps194
 go_wp2;have hS:w.drew.cell? ⟨bR,0,none⟩=some (.slice (some ⟨R,0,none⟩) n n):=c3;refine aE (fun w'=>w'.cell? ⟨bR,0,none⟩=some (.slice (some ⟨R,0,none⟩) n n)) 99 ?_;refine am [0,1,2,3,4,5,6,7,8,9,10] ?_
 iterate 11 refine au hS ?_
 refine aj ?_;refine ai 11 fun K hK=>?_;go_simp;refine hK _ _ (fun _=>?_) ?_
 ·show (w.setCell ⟨R,q,none⟩ _).cell? _=_;rw[World.cell?_setCell_other _ _ _ _ (fun e=>a3 (abq Addr.block e).symm)];exact c3
 clear hK K
 have hS1:(w.setCell ⟨R,q,none⟩ (.int .u8 (V/256))).cell? ⟨bR,0,none⟩=some (.slice (some ⟨R,0,none⟩) n n):=by
  rw[World.cell?_setCell_other _ _ _ _ (fun e=>a3 (abq Addr.block e).symm)];exact c3
 refine am [12] ?_
 iterate 1 refine au hS1 ?_
 refine aj ?_;refine ai 13 fun K hK=>?_;go_simp;refine hK _ _ (fun _=>?_) ?_
 ·show ((w.setCell ⟨R,q,none⟩ _).setCell ⟨R,q+1,none⟩ _).cell? _=_;rw[World.cell?_setCell_other _ _ _ _ (fun e=>a3 (abq Addr.block e).symm),World.cell?_setCell_other _ _ _ _ (fun e=>a3 (abq Addr.block e).symm)];exact c3
 clear hK K;refine ar ?_
 have HF:Hid (∀z:World,z=(((w.setCell ⟨R,q,none⟩ (.int .u8 (V/256))).setCell ⟨R,q+1,none⟩ (.int .u8 (V%256))).setCell ⟨bF,0,none⟩ (.int .i64 ((p:Int)+16)))->gV z.drew bF bD bR R 16 n ((k+1)*16)/\dA z.drew R (Pm.bg v 16 n (k+1))/\Kp (fun j=>j=R\/j=bF) w z.drew):=fun z hz=>by
  subst hz;obtain⟨hE,hB⟩:=HH.out;refine⟨?_,?_,?_⟩
  ·refine hE.set HA.out ?_ (fun j h1 h2 h3=>(cQ _ _ _ _ _ h2).trans ((cQ _ _ _ _ _ h1).trans (cQ _ _ _ _ _ h1)));rw[<-HP.out];have:=one_set (w:=(w.setCell ⟨R,q,none⟩ (.int .u8 (V/256))).setCell ⟨R,q+1,none⟩ (.int .u8 (V%256))) ((cQ _ _ _ _ _ a1).trans ((cQ _ _ _ _ _ a1).trans hE.f)) (.int .i64 ((p:Int)+16));rw[show ((p:Int)+16)=((p+16:Nat):Int) by push_cast;rfl]at this ⊢;exact this
  ·rw[HN.out];exact (cQ _ _ _ _ _ (Ne.symm a1)).trans (hB.set2 q (q+1) _ _)
  ·exact ((((Kp.refl _ _).setCell (p:=⟨R,q,none⟩) (.inl (.inl rfl)) _).setCell (p:=⟨R,q+1,none⟩) (.inl (.inl rfl)) _).setCell (p:=⟨bF,0,none⟩) (.inl (.inr rfl)) _).drew
 go_wp2
 go_end0
 exact⟨rfl,HF.out _ rfl⟩
theorem UB (v:Nat->Int)(dp bF bD bR R n k K:Nat)(w:World)(hE:gV w bF bD bR R dp n (k*dp))(ha:Al bF bD bR R)(hB:dA w R (Pm.bg v dp n k))(hdp:Pm.qW dp)(hok:JP v dp n K)(hk:k<K)(hn:n<=1000000): Calls Tryz.prog 194 #[.int .i64 (v k),.pointer (some ⟨bF,0,none⟩),.pointer (some ⟨bD,0,none⟩),.pointer (some ⟨bR,0,none⟩)] w fun e w'=>e=.returned (.tuple #[])/\gV w' bF bD bR R dp n ((k+1)*dp)/\dA w' R (Pm.bg v dp n (k+1))/\Kp (fun j=>j=R\/j=bF) w w':=by
 obtain⟨h1,h2,h3⟩:=hok k hk;by_cases h:dp=16
 ·subst h;exact MP v bF bD bR R n k w hE ha hB (h2 rfl) hn h1
 ·exact Qr v dp bF bD bR R n k w (by unfold Pm.qW at hdp;omega) hE ha hB (Pm.packed v dp n hdp K (fun k hk=>(hok k hk).1) (fun k hk=>(hok k hk).2) k (by omega)) (h3 h) hn h1
theorem Qs {n st i t:Nat}(ht:t<n):Pm.KP n st (i*n+t)=i*st*n+t:=by
 unfold Pm.KP;rw[aaV i n,Nat.mul_add_div (by omega),abm ht,abQ,Nat.mul_add_mod,abp ht,aa0]
structure gy (w:World) (G:Nat) (S:List Int):Prop where
 at_:∀j,j<S.length->w.cell? ⟨G,j,none⟩=some (.int .i64 (Pm.ap S j))
 lt:G<w.heap.size
theorem gy.kp {w w':World}{G:Nat}{S:List Int}{K:Nat->Prop}(h:gy w G S)(k:Kp K w w')(hG:¬K G):gy w' G S:=⟨fun j hj=>(k.cell (p:=⟨G,j,none⟩) h.lt hG).trans (h.at_ j hj),aar h.lt k.size⟩
theorem gy.below {w w':World}{G:Nat}{S:List Int}(h:gy w G S)(k:Below w.heap.size w w'):gy w' G S:=h.kp (Kp.aJ (S:=fun _=>False) k) (fun e=>e)
theorem MQ (v:Nat->Int)(S:List Int)(n st C dp nr off len cap G bF bD bR R:Nat)(w:World)(hE:gV w bF bD bR R dp nr 0)(ha:Al bF bD bR R)(hB:dA w R (Pm.bg v dp nr 0))(hS:gy w G S)(hG:G≠R/\G≠bF)(hin:∀k,k<C*n->v k=Pm.ap S (off+Pm.KP n st k)/\off+Pm.KP n st k<S.length/\Pm.KP n st k<len)(hok:JP v dp nr (C*n))(hdp:Pm.qW dp)(hC:C<=5000)(hn:1<=n/\n<=4)(hst:1<=st/\st<=8)(hlc:len<=cap)(hnr:nr<=1000000): Calls Tryz.prog 148 #[.slice (some ⟨G,off,none⟩) len cap,.int .i64 (n:Nat),.int .i64 (st:Nat),.int .i64 (C:Nat),Og bF bD bR] w fun e w' =>
   e=.returned (.tuple #[])/\dA w' R (Pm.bg v dp nr (C*n))/\Kp (fun j=>j=R\/j=bF) w w':=by
 have hcall:=MO;have HH:Hid (_/\_/\_):=⟨hE,hB,hS⟩
 have zm:Hid (_/\_):=⟨hin,hok⟩
 clear hE hB hS hin hok
 go_enter Tryz.func148,Tryz.ntmps148
 go_wp2
 go_loopw [14] (fun ix wr=>∃i:Nat,i<=C/\ix=.int .i64 i/\Hid (gV wr bF bD bR R dp nr (i*n*dp))/\Hid (dA wr R (Pm.bg v dp nr (i*n)))/\Hid (Kp (fun j=>j=R\/j=bF) w wr)) (fun ix _=>C-(intOf ix).toNat)
 case atStart=>exact⟨0,aaj _,rfl,by show gV _ _ _ _ _ _ _ _;rw[abz,abz];exact HH.out.1,by show dA _ _ _;rw[abz];exact HH.out.2.1,Kp.refl _ _⟩
 case round =>
  obtain⟨i,hi,rfl,HE,HB,HK⟩:=hrel;by_cases hlt:i<C
  ·have hlt':(i:Int)<(C:Int):=by omega
   obtain⟨A,hA⟩:∃A,A=i*st:=⟨_,rfl⟩
   have eA:(i:Int)*(st:Int)=(A:Int):=by rw[hA];push_cast;rfl
   have VN:A<=40000:=by rw[hA];have:i*st<=5000*8:=aaA (by omega) hst.2;omega
   have wA:IntKind.i64.wrap (A:Int)=(A:Int):=aah _ (by omega);obtain⟨q,hq⟩:∃q,q=A*n:=⟨_,rfl⟩
   have eq:(A:Int)*(n:Int)=(q:Int):=by rw[hq];push_cast;rfl
   have hqb:q<=160000:=by rw[hq];have:A*n<=40000*4:=aaA (by omega) hn.2;omega
   have wq:IntKind.i64.wrap (q:Int)=(q:Int):=aah _ (by omega);have hpl:∀t,t<n->Pm.KP n st (i*n+t)=q+t:=fun t ht=>by rw[Qs ht,hq,hA]
   have hin1:∀t,t<n->i*n+t<C*n:=fun t ht=>by
    have:(i+1)*n<=C*n:=aaU _ hlt;rw[abR]at this;omega
   have Yr:q+n<=len:=by
    have h1:=(zm.out.1 (i*n+(n-1)) (hin1 (n-1) (by omega))).2.2;rw[hpl (n-1) (by omega)]at h1;omega
   have hq1:(q:Int)<=(len:Int):=by omega
   have hq2:(n:Int)<=(cap:Int)-(q:Int):=by omega
   have Ny:Hid (∀t,t<n->v (i*n+t)=Pm.ap S (off+q+t)/\off+q+t<S.length/\i*n+t<C*n):=fun t ht=>by
    obtain⟨a1,a2,_⟩:=zm.out.1 (i*n+t) (hin1 t ht);rw[hpl t ht,<-abI]at a1 a2;exact⟨a1,a2,hin1 t ht⟩
   have Iv:Hid ((i+1)*n=i*n+n):=abR i n;clear hA hq hpl hin1;go_wp2
   go_loopw [27] (fun tx wr2=>∃t:Nat,t<=n/\tx=.int .i64 t/\Hid (gV wr2 bF bD bR R dp nr ((i*n+t)*dp))/\Hid (dA wr2 R (Pm.bg v dp nr (i*n+t)))/\Hid (Kp (fun j=>j=R\/j=bF) w wr2)) (fun tx _=>n-(intOf tx).toNat)
   case atStart=>exact⟨0,aaj _,rfl,HE,HB,HK⟩
   case round =>
    obtain⟨t,ht,rfl,HE2,HB2,KL⟩:=hrel;by_cases htl:t<n
    ·have aer:(t:Int)<(n:Int):=by omega
     obtain⟨p1,p2,p3⟩:=Ny.out t htl;have hS2:=HH.out.2.2.kp KL.out (fun e=>by rcases e with e|e;exact hG.1 e;exact hG.2 e);have c0:=hS2.at_ _ p2;have hpk:=UB v dp bF bD bR R nr (i*n+t) (C*n) wr HE2.out ha HB2.out hdp zm.out.2 p3 hnr;rw[p1]at hpk;have HT:Hid (i*n+t+1=i*n+(t+1)):=rfl;generalize Pm.ap S (off+q+t)=V at *;clear p1 p2 p3 hS2 HE2 HB2;go_wp2_with fail;refine hpk.mono ?_;rintro e w1 ⟨rfl,g1,g2,g3⟩;have HD:Hid (_/\_/\_):=⟨g1,g2,KL.out.trans g3⟩
     clear g1 g2 g3 hpk;go_wp2
     go_roundw
     case rel=>exact⟨t+1,by omega,by go_num,HD.out.1,HD.out.2.1,HD.out.2.2⟩
     case measure=>simp[intOf];omega
    ·have hte:t=n:=by omega
     subst hte;go_wp2
     go_roundw
     case rel=>exact⟨i+1,by omega,by go_num,by show gV _ _ _ _ _ _ _ _;rw[Iv.out];exact HE2.out,by show dA _ _ _;rw[Iv.out];exact HB2.out,KL⟩
     case measure=>simp[intOf];omega
  ·have hie:i=C:=by omega
   subst hie;go_wp2
   go_end0
   exact⟨rfl,HB.out,HK.out⟩
end
theorem ba_eq {a b:ByteArray}(h:a.data.toList=b.data.toList):a=b:=ByteArray.ext (Array.toList_inj.1 h)
theorem cy (b:ByteArray):b.data.toList.length=b.size:=by rw[aaN];rfl
theorem dh (T:ByteArray)(p q:Nat):(T.extract p q).data.toList=(T.data.toList.take q).drop p:=by
 rw[ab2,acg,abO,List.drop_take]
theorem rJ (a b:ByteArray):(a++b).data.toList=a.data.toList++b.data.toList:=by rw[ByteArray.data_append,Array.toList_append]
theorem uh {b:ByteArray}{pre post:List UInt8}(h:b.data.toList=pre++post)(i:Nat):ae b (pre.length+i)=(post.getD i 0).toNat:=by
 unfold ae;rw[h,aaa,aaG (by omega),Nat.add_sub_cancel_left,aaa]
theorem kL {b:ByteArray}{pre post:List UInt8}{a:Int}(h:b.data.toList=pre++(four a++post))(h0:0<=a)(h1:a<4294967296):aM b pre.length=a:=by
 have e:∀i,ae b (pre.length+i)=((four a++post).getD i 0).toNat:=uh h;unfold aM;have e0:=e 0;rw[abQ]at e0;rw[e0,e 1,e 2,e 3]
 have k:∀x:Int,0<=x->x<256->((UInt8.ofNat x.toNat).toNat:Int)=x:=fun x h0 h1=>by
  rw[acq];have:x.toNat%2^8=x.toNat:=abp (by omega);rw[this];omega
 simp only[four,acn,List.getD_cons_zero,List.getD_cons_succ,abg];rw[k _ (by omega) (by omega),k _ (by omega) (by omega),k _ (by omega) (by omega),k _ (by omega) (by omega)];omega
theorem oI (s:ByteArray):0<=nK s/\nK s<4294967296:=by
 have:=Mx.wE s.data.toList;unfold nK;omega
def n8 (c:Ch):List UInt8:=four (c.data.size:Int)++(c.name.data.toList++(c.data.data.toList++four (nK (c.name++c.data))))
structure JQ (c:Ch):Prop where
 name:c.name.size=4
 lets:d7 c.name 0=true
 size:c.data.size<=2147483647
theorem kM {c:Ch}(h:JQ c):(n8 c).length=12+c.data.size:=by
 unfold n8;have:=h.name;simp only[aac,cy];show 4+(_+(_+4))=_;omega
theorem Cj {c:Ch}(h:JQ c){b R:ByteArray}(hb:b.data.toList=n8 c++R.data.toList):b.size≠0/\nL b=true/\nM b=c/\eJ b=R:=by
 have hn:=h.name;have hz:=h.size;have hnl:=cy c.name;have hdl:=cy c.data
 have hs:b.size=12+c.data.size+R.size:=by
  rw[<-cy b,hb,aac,kM h,cy]
 have AY:∀a,(four a).length=4:=fun _=>rfl
 have b1:b.data.toList=[]++(four (c.data.size:Int)++(c.name.data.toList++(c.data.data.toList++(four (nK (c.name++c.data))++R.data.toList)))):=by
  rw[hb,n8];simp only[aaq,abg]
 have b2:b.data.toList=four (c.data.size:Int)++(c.name.data.toList++(c.data.data.toList++(four (nK (c.name++c.data))++R.data.toList))):=b1
 have b3:b.data.toList=(four (c.data.size:Int)++(c.name.data.toList++c.data.data.toList))++(four (nK (c.name++c.data))++R.data.toList):=by
  rw[b2];simp only[aaq]
 have b4:b.data.toList=(four (c.data.size:Int)++(c.name.data.toList++(c.data.data.toList++four (nK (c.name++c.data)))))++R.data.toList:=hb
 have hlen:ik b=c.data.size:=by
  have e1:=kL (pre:=[]) (a:=(c.data.size:Int)) b1 (by omega) (by omega);rw[abS,tR b]at e1;exact Int.ofNat.inj e1
 have l3:(four (c.data.size:Int)++(c.name.data.toList++c.data.data.toList)).length=8+c.data.size:=by
  simp only[aac,AY,hnl,hdl];omega
 have hcr:aM b (8+c.data.size)=nK (c.name++c.data):=by
  have hc:=oI (c.name++c.data);have:=kL b3 hc.1 hc.2;rw[l3]at this;exact this
 have t8:b.data.toList.take (8+c.data.size)=four (c.data.size:Int)++(c.name.data.toList++c.data.data.toList):=by
  rw[b3,<-l3,List.take_left]
 have x1:b.extract 4 (8+c.data.size)=c.name++c.data:=by
  refine ba_eq ?_;rw[dh,t8,rJ];exact List.drop_left' rfl
 have l2:(four (c.data.size:Int)++c.name.data.toList).length=8:=by simp only[aac,AY,hnl];omega
 have x2:b.extract 4 8=c.name:=by
  refine ba_eq ?_;rw[dh,b2,<-aaq,List.take_left' l2];exact List.drop_left' rfl
 have x3:b.extract 8 (8+c.data.size)=c.data:=by
  refine ba_eq ?_;rw[dh,t8,<-aaq];exact List.drop_left' l2
 have x4:b.extract (12+c.data.size) b.size=R:=by
  refine ba_eq ?_;rw[dh,aav (by rw[cy];exact aad _),hb];exact List.drop_left' (kM h)
 have hlet:d7 b 4=true:=by
  have key:∀i,i<4->ae b (4+i)=ae c.name i:=fun i hi=>by
   have:=uh b2 i;rw[AY]at this;rw[this];unfold ae;rw[aaa,aaS (by omega),aaa]
  have hl:=h.lets;unfold d7 at hl ⊢;rw[key 0 (by omega),key 1 (by omega),key 2 (by omega),key 3 (by omega)];exact hl
 refine⟨by omega,?_,?_,?_⟩
 ·unfold nL;rw[hlen,hcr,x1,hlet,aaw (show 12<=b.size by omega),aaw hz,aaw (show c.data.size+12<=b.size by omega),aaw rfl];rfl
 ·unfold nM;rw[hlen,x2,x3]
 ·unfold eJ;rw[hlen,x4]
def cX (L:List Ch):List UInt8:=L.flatMap n8
theorem qX:∀(L:List Ch) (b R:ByteArray),(∀c∈L,JQ c)->b.data.toList=cX L++R.data.toList->aL b=(aL R).map (L++·)
 | [],b,R,_,hb=>by
  have:b=R:=ba_eq (by rw[hb];rfl);rw[this];cases aL R<;>rfl
 | c::r,b,R,h,hb=>by
  have hb':b.data.toList=n8 c++(⟨(cX r++R.data.toList).toArray⟩:ByteArray).data.toList:=by
   rw[hb];show (n8 c++cX r)++R.data.toList=n8 c++(cX r++R.data.toList)
   rw[aaq]
  obtain⟨h0,h1,h2,h3⟩:=Cj (h c abJ) hb';rw[qT h0 h1,h2,h3,qX r _ R (fun x hx=>h x (abN _ hx)) rfl,Option.map_map];rfl
theorem Ck {L:List Ch}{b:ByteArray}(h:∀c∈L,JQ c)(hb:b.data.toList=cX L):aL b=some L:=by
 rw[qX L b ⟨#[]⟩ h (by rw[hb];exact (aa9 _).symm),tS rfl];show some (L++[])=some L;rw[aa9]
abbrev Qt:List UInt8:=[137,80,78,71,13,10,26,10]
theorem JR {b R:ByteArray}(hb:b.data.toList=Qt++R.data.toList):zV b=true/\b.extract 8 b.size=R:=by
 have hs:b.size=8+R.size:=by rw[<-cy b,hb,aac,cy];rfl
 have hl:b.data.toList.length=b.size:=cy b;constructor
 ·unfold zV;rw[aaw (show 8<=b.size by omega),acu,ab3,dh,hb];rfl
 ·refine ba_eq ?_;rw[dh,aav (by omega),hb];rfl
def UC (h:Hd):List UInt8:=four h.wd++(four h.ht++[UInt8.ofNat h.dp.toNat,UInt8.ofNat h.kd.toNat,0,0,if h.ps=true then 1 else 0])
def cL (h:Hd):ByteArray:=⟨(UC h).toArray⟩
def cO (p:List Int):ByteArray:=⟨(p.map fun x=>UInt8.ofNat x.toNat).toArray⟩
abbrev aO (l:List UInt8):ByteArray:=⟨l.toArray⟩
def bZ (h:Hd)(aK:List Int)(ds:List ByteArray):List Ch :=
 ⟨aO fS,cL h⟩::((if h.kd=3 then [⟨aO bQ,cO aK⟩] else [])++(ds.map (fun d=>⟨aO aP,d⟩)++[⟨aO jN,⟨#[]⟩⟩]))
theorem ui {x:Int}(h0:0<=x)(h1:x<256):((UInt8.ofNat x.toNat).toNat:Int)=x:=by
 rw[acq];have:x.toNat%2^8=x.toNat:=abp (by omega);rw[this];omega
structure qm (h:Hd):Prop where
 wd:1<=h.wd/\h.wd<=5000
 ht:1<=h.ht/\h.ht<=5000
 ch:Pm.chan h.kd h.dp≠0
theorem xW {k d:Int}(h:Pm.chan k d≠0):0<=k/\k<=6:=by
 unfold Pm.chan at h;repeat' split at h
 all_goals omega
theorem FT {h:Hd}(hf:qm h):uP (cL h)=h/\nN (cL h)=true:=by
 have hd:=Pm.bp _ _ hf.ch;have hk:=xW hf.ch;obtain⟨w1,w2⟩:=hf.wd;obtain⟨t1,t2⟩:=hf.ht;have e0:aM (cL h) 0=h.wd:=kL (b:=cL h) (pre:=[]) (post:=four h.ht++[UInt8.ofNat h.dp.toNat,UInt8.ofNat h.kd.toNat,0,0,if h.ps=true then 1 else 0]) (a:=h.wd) rfl (by omega) (by omega);have e4:aM (cL h) 4=h.ht:=kL (b:=cL h) (pre:=four h.wd) (post:=[UInt8.ofNat h.dp.toNat,UInt8.ofNat h.kd.toNat,0,0,if h.ps=true then 1 else 0]) (a:=h.ht) rfl (by omega) (by omega);have e8:(ae (cL h) 8:Int)=h.dp:=ui (x:=h.dp) (by omega) (by omega);have e9:(ae (cL h) 9:Int)=h.kd:=ui (x:=h.kd) (by omega) (by omega);have e10:ae (cL h) 10=0:=rfl;have e11:ae (cL h) 11=0:=rfl
 have e12:ae (cL h) 12=if h.ps=true then 1 else 0:=by
  show (if h.ps=true then (1:UInt8) else 0).toNat=_;split<;>rfl
 have es:(cL h).size=13:=rfl;constructor
 ·unfold uP;rw[e0,e4,e8,e9,e12];obtain⟨a,b,c,d,p⟩:=h;cases p<;>rfl
 ·unfold nN;rw[es,e0,e4,e8,e9,e10,e11,e12,(Pm.dQ h.wd).2 hf.wd,(Pm.dQ h.ht).2 hf.ht];have:(Pm.chan h.kd h.dp==0)=false:=by simpa using hf.ch
  rw[this];cases h.ps<;>rfl
theorem JS {p:List Int}(h:Pm.fQ p 256=true):qk (cO p)=p:=by
 unfold Pm.fQ at h;rw[List.all_eq_true]at h;have hs:(cO p).size=p.length:=by rw[<-cy];simp[cO]
 unfold qk;refine abt (by rw[abE,List.length_range,hs]) fun i h1 h2=>?_;rw[abL,abP];have hx:=h _ (aaR h2);simp only[aaJ,aaH]at hx
 have e:ae (cO p) i=(UInt8.ofNat (p[i]).toNat).toNat:=by
  unfold ae cO;rw[aaa];simp only[abk,aai h2,Option.map_some,acr]
 rw[e,ui hx.1 hx.2]
theorem iU (p:List Int):(cO p).size=p.length:=by rw[<-cy];simp[cO]
theorem jR (l m:List UInt8):eK (aO l) m=(l==m):=by unfold eK;rw[ab3]
theorem qn:∀(ds:List ByteArray) (a:ByteArray) (d:List ByteArray) (p:Option ByteArray),(d=[]\/eK a aP=true)->mF a d p (ds.map fun x=>⟨aO aP,x⟩)=some (d++ds,p)
 | [],a,d,p,_=>by rw[List.map_nil,mF,aa9]
 | x::r,a,d,p,h=>by
  rw[ach,mF,aaf,qn r _ _ _ (.inr (by rw[jR];rfl))]
  ·rw[aaq];rfl
  ·rw[jR];rcases h with rfl|h
   ·rfl
   ·rw[h,Bool.or_true];rfl
theorem uj (h:Hd)(aK:List Int)(ds:List ByteArray)(hne:ds≠[]):pk (bZ h aK ds)=some ⟨cL h,if h.kd=3 then some (cO aK) else none,oF ds⟩:=by
 obtain⟨M,hM⟩:∃M,M=(if h.kd=3 then [(⟨aO bQ,cO aK⟩:Ch)] else [])++ds.map (fun d=>⟨aO aP,d⟩):=⟨_,rfl⟩
 have hL:bZ h aK ds=⟨aO fS,cL h⟩::(M++[⟨aO jN,⟨#[]⟩⟩]):=by rw[bZ,hM,aaq]
 have hlen:(bZ h aK ds).length=M.length+2:=by rw[hL];simp
 have hf:dR (bZ h aK ds)=⟨aO fS,cL h⟩:=by rw[hL];rfl
 have hl:ew (bZ h aK ds)=⟨aO jN,⟨#[]⟩⟩:=by
  unfold ew;rw[hlen,hL,show M.length+2-1=M.length+1 by omega,List.getD_cons_succ,aaa,aaG (aad _),Nat.sub_self];rfl
 have hm:gv (bZ h aK ds)=M:=by
  unfold gv;rw[hlen,hL,show M.length+2-1=M.length+1 by omega,List.take_succ_cons,List.drop_succ_cons,acv,List.take_left]
 have he:kH (bZ h aK ds)=true:=by
  unfold kH;rw[hf,hl,hlen,aaw (by omega),jR,jR,ab3];rfl
 have ho:mF (aO fS) [] none M=some (ds,if h.kd=3 then some (cO aK) else none):=by
  rw[hM];split
  ·rw[acn,abg,mF,aae (by rw[jR];decide),aaf (by rw[jR];rfl),qn _ _ _ _ (.inl rfl),abg]
  ·rw[abg,qn _ _ _ _ (.inl rfl),abg]
 unfold pk;rw[aaf he,hf,hm,ho];dsimp only;rw[aae (by cases ds with|nil=>exact absurd rfl hne|cons x r=>exact Bool.false_ne_true)]
def qY (h:Hd)(aK:List Int)(ds:List ByteArray):List UInt8:=Qt++cX (bZ h aK ds)
theorem FU {h:Hd}{aK:List Int}{ds:List ByteArray}(hp:aK.length<=2147483647)(hd:∀d∈ds,d.size<=2147483647):∀c∈bZ h aK ds,JQ c:=by
 intro c hc;unfold bZ at hc;rcases ab0.1 hc with rfl|hc
 ·exact⟨rfl,rfl,by show (cL h).size<=_;rw[show (cL h).size=13 from rfl];omega⟩
 ·rcases aa8.1 hc with hc|hc
  ·split at hc
   ·rcases abf.1 hc with rfl;exact⟨rfl,rfl,by show (cO aK).size<=_;rw[iU];exact hp⟩
   ·cases hc
  ·rcases aa8.1 hc with hc|hc
   ·obtain⟨d,hm,rfl⟩:=List.mem_map.1 hc;exact⟨rfl,rfl,hd d hm⟩
   ·rcases abf.1 hc with rfl;exact⟨rfl,rfl,aaj _⟩
theorem Cl {h:Hd}{aK:List Int}{ds:List ByteArray}{b:ByteArray}(hb:b.data.toList=qY h aK ds)(hp:aK.length<=2147483647)(hd:∀d∈ds,d.size<=2147483647)(hne:ds≠[]): zV b=true/\aL (b.extract 8 b.size)=some (bZ h aK ds)/\partsOf b=.ok ⟨cL h,if h.kd=3 then some (cO aK) else none,oF ds⟩:=by
 obtain⟨h1,h2⟩:=JR (b:=b) (R:=⟨(cX (bZ h aK ds)).toArray⟩) hb;have h3:aL (b.extract 8 b.size)=some (bZ h aK ds):=by rw[h2];exact Ck (FU hp hd) rfl
 exact⟨h1,h3,Jh h1 h3 (uj h aK ds hne)⟩
structure fk (h:Hd) (aK S:List Int):Prop where
 hd:qm h
 raw:mM h<=4194304
 JT:Pm.iN h.kd (Pm.two h.dp) aK=true
 YK:Pm.mo h.wd h.ht h.kd (Pm.chan h.kd h.dp) (Pm.two h.dp) aK.length S=true
theorem uk (h:Hd)(aK S:List Int):Pm.check h.wd h.ht h.kd h.dp h.ps aK S=0↔fk h aK S:=by
 unfold Pm.check;constructor
 ·intro e;split at e
  ·omega
  ·rename_i h1;split at e
   ·omega
   ·rename_i h2;have h2:=Classical.not_not.1 h2;split at e
    ·omega
    ·rename_i h3;split at e
     ·omega
     ·rename_i h4;split at e
      ·omega
      ·rename_i h5;exact⟨⟨(Pm.dQ _).1 h2.1,(Pm.dQ _).1 h2.2,h1⟩,acs.1 h3,by simpa using h4,by simpa using h5⟩
 ·intro f;rw[aae f.hd.ch,aae (Classical.not_not.2 ⟨(Pm.dQ _).2 f.hd.wd,(Pm.dQ _).2 f.hd.ht⟩),aae (show ¬4194304<Pm.raw h.wd h.ht (Pm.chan h.kd h.dp*h.dp) h.ps from acs.2 f.raw),aae (by rw[f.JT];decide),aae (by rw[f.YK];decide)]
theorem Am {k d:Int}(h:Pm.chan k d≠0):Pm.qW d.toNat:=by
 unfold Pm.chan at h;unfold Pm.qW;repeat' split at h
 all_goals omega
theorem fk.fits {h:Hd}{aK S:List Int}(f:fk h aK S):Pm.Fits (gT h) S:=by
 have hs:=f.YK;unfold Pm.mo at hs;rw[aaJ,aaH]at hs;obtain⟨h1,h2⟩:=hs;have hw:=f.hd.wd;have hh:=f.hd.ht;have hd:=Pm.bp _ _ f.hd.ch;have hc:=Pm.cm h.kd h.dp;refine⟨?_,Am f.hd.ch,?_⟩
 ·have e:((gT h).W*(gT h).H*(gT h).n:Nat)=(h.wd*h.ht*Pm.chan h.kd h.dp).toNat:=by
   show h.wd.toNat*h.ht.toNat*(Pm.chan h.kd h.dp).toNat=_;have e1:(h.wd.toNat:Int)=h.wd:=by omega
   have e2:(h.ht.toNat:Int)=h.ht:=by omega
   have e3:((Pm.chan h.kd h.dp).toNat:Int)=Pm.chan h.kd h.dp:=by omega
   generalize h.wd.toNat=a at *;generalize h.ht.toNat=b at *;generalize (Pm.chan h.kd h.dp).toNat=c at *;rw[<-e1,<-e2,<-e3,<-Int.natCast_mul,<-Int.natCast_mul,aa5]
  rw[e];omega
 ·have e:(2:Int)^(gT h).dp=Pm.two h.dp:=rfl;rw[e];intro y hy;split at h2
  ·rename_i h3;unfold Pm.fQ at h2;rw[List.all_eq_true]at h2;have hy2:=h2 y hy;simp only[aaJ,aaH]at hy2;have hp:=f.JT;unfold Pm.iN at hp;rw[aaf h3]at hp;simp only[aaJ,aaH]at hp;omega
  ·unfold Pm.fQ at h2;rw[List.all_eq_true]at h2;have hy2:=h2 y hy;simp only[aaJ,aaH]at hy2;exact hy2
theorem FV {h:Hd}{aK S:List Int}(f:fk h aK S):jP h.kd (if h.kd=3 then some (cO aK) else none)=aK/\fF h.kd h.dp (if h.kd=3 then some (cO aK) else none)=true:=by
 have hpf:=f.JT;unfold Pm.iN at hpf;have hd':=Pm.bp _ _ f.hd.ch
 have MR:jP h.kd (if h.kd=3 then some (cO aK) else none)=aK:=by
  unfold jP;split
  ·rename_i h3;rw[aaf h3]at hpf;rw[aaJ]at hpf;exact JS hpf.2
  ·rename_i h3;rw[aae h3,aaH]at hpf;exact (aau (by omega)).symm
 have hpo:fF h.kd h.dp (if h.kd=3 then some (cO aK) else none)=true:=by
  by_cases h3:h.kd=3
  ·rw[aaf h3]at hpf ⊢;simp only[aaJ,aaH]at hpf;unfold fF;dsimp only;rw[aae (by omega),aaf h3,iU];unfold jO;rw[aaw hpf.1.1.1,aaw hpf.1.1.2,aaw hpf.1.2];rfl
  ·rw[aae h3];unfold fF;have:(h.kd==3)=false:=by simpa using h3
   rw[this];rfl
 exact⟨MR,hpo⟩
theorem fk.few {h:Hd}{aK S:List Int}(f:fk h aK S):aK.length<=196608:=by
 have hpf:=f.JT;unfold Pm.iN at hpf;have hd':=Pm.bp _ _ f.hd.ch;have hr:=Pm.gk _ hd';split at hpf
 ·simp only[aaJ,aaH]at hpf;omega
 ·rw[aaH]at hpf;omega
abbrev i7 (ds:List ByteArray):List Ch:=ds.map fun d=>⟨aO aP,d⟩
abbrev MS:List Ch:=[⟨aO jN,⟨#[]⟩⟩]
theorem Ao (A B:List Ch):cX (A++B)=cX A++cX B:=by unfold cX;rw[List.flatMap_append]
end Go.Proofs.YtmfijackgekioaaGreatDoor
