import Derived.Test.YtmfijackgekioabGreatDoorQ38
set_option maxHeartbeats 1000000
set_option maxRecDepth 100000
namespace Go.Proofs.YtmfijackgekioabGreatDoor
open Go.RowKit Go.Maps
theorem Ev (W H n dp:Nat)(kd:Int)(ps:Bool)(pv:Value)(G N cap fl B X F:Nat)(aQ:Array Value)(K:Nat->Prop)(S:List Int)(v0:Value)(w w0:World)(tt:TypeId)(fr:Nat×Nat)(jX:w.heap[0]?=some (.cells cY tt fr))(hS:ik w G S)(hK:∀j,K j->w.heap[j]?=w0.heap[j]?)(hD:vr w0 B X fl (Pm.dA.lead ⟨W,H,n,dp⟩) F aQ K)(hraw:gT w B X [] v0)(hap:∀j,j=G\/K j->j<w.heap.size/\j≠X/\v0.ownBlock≠some j)(hB:B<=w.heap.size)(hf:Pm.Fits ⟨W,H,n,dp⟩ S)(hN:S.length=N)(hcap:N<=cap)(hol:Pm.raw W H (Pm.dA.bits ⟨W,H,n,dp⟩:Nat) ps<=5000000)(hch:Pm.chan kd dp=(n:Int))(hn:1<=n/\n<=4)(hW:1<=W/\W<=5000)(hH:1<=H/\H<=5000): Calls Tryz.prog 84 #[img W H kd dp ps pv (.slice (some ⟨G,0,none⟩) N cap),.func (.func F) #[] aQ] w fun e w'=>mt w ⟨W,H,n,dp⟩ S ps fl B X v0 e w':=by
 have hcs:=fun u=>mj kd dp u;rw[hch]at hcs;obtain⟨k0,q0,q1,q2⟩:=jY w (.cells (aG W H kd dp ps pv (.slice (some ⟨G,0,none⟩) N cap)) 24) (.cells #[.func (.func F) #[] aQ] 126) (.cells #[.int .i64 (n:Nat)] 3);have lX:=aac hraw.box;have hE:zu _ w0 w.heap.size (w.heap.size+2) (w.heap.size+1) G N cap W H n kd dp ps pv F aQ S K:=⟨q0,q2,q1,hS.below k0,fun j hj=>(k0.block j (hap j (.inr hj)).1).trans (hK j hj)⟩
 have hA:mr (((w.alloc (.cells (aG W H kd dp ps pv (.slice (some ⟨G,0,none⟩) N cap)) 24)).alloc (.cells #[.func (.func F) #[] aQ] 126)).alloc (.cells #[.int .i64 (n:Nat)] 3)) w.heap.size (w.heap.size+2) (w.heap.size+1) G B X v0 K:=by
  refine⟨fun j hj=>?_,aba hB k0.size⟩;have hz:(((w.alloc (.cells (aG W H kd dp ps pv (.slice (some ⟨G,0,none⟩) N cap)) 24)).alloc (.cells #[.func (.func F) #[] aQ] 126)).alloc (.cells #[.int .i64 (n:Nat)] 3)).heap.size=w.heap.size+3:=by simp
  rw[hz];rcases hj with hj|hj
  ·refine⟨by omega,by omega,fun e=>?_⟩;have:=(hraw.lt _ e).2;omega
  ·obtain⟨a1,a2,a3⟩:=hap j hj;exact⟨by omega,a2,a3⟩
 have Ej:Calls Tryz.prog 58 #[img W H kd dp ps pv (.slice (some ⟨G,0,none⟩) N cap),En w.heap.size (w.heap.size+2) (w.heap.size+1)] (((w.alloc (.cells (aG W H kd dp ps pv (.slice (some ⟨G,0,none⟩) N cap)) 24)).alloc (.cells #[.func (.func F) #[] aQ] 126)).alloc (.cells #[.int .i64 (n:Nat)] 3)) fun e w'=>mt (((w.alloc (.cells (aG W H kd dp ps pv (.slice (some ⟨G,0,none⟩) N cap)) 24)).alloc (.cells #[.func (.func F) #[] aQ] 126)).alloc (.cells #[.int .i64 (n:Nat)] 3)) ⟨W,H,n,dp⟩ S ps fl B X v0 e w':=by
  cases ps with
  | false=>exact Yf W H n dp kd pv w.heap.size (w.heap.size+2) (w.heap.size+1) G N cap fl B X F aQ K S v0 _ w0 hE hD (hraw.below k0) hA hf hN hcap hol hch hn hW hH
  | true=>exact TY W H n dp kd pv w.heap.size (w.heap.size+2) (w.heap.size+1) G N cap fl B X F aQ K S v0 _ w0 tt fr ((k0.block _ (aac jX)).trans jX) hE hD (hraw.below k0) hA hf hN hcap hol hch hn hW hH
 obtain⟨x0,x1,x2,x3,x4,x5,x6⟩:=aR q0
 have HO:Hid (∀e w',mt (((w.alloc (.cells (aG W H kd dp ps pv (.slice (some ⟨G,0,none⟩) N cap)) 24)).alloc (.cells #[.func (.func F) #[] aQ] 126)).alloc (.cells #[.int .i64 (n:Nat)] 3)) ⟨W,H,n,dp⟩ S ps fl B X v0 e w'->mt w ⟨W,H,n,dp⟩ S ps fl B X v0 e w'):=fun e w' ⟨he,l,v,h1,h2,h3,h4,h5,h6⟩=>by
  refine⟨he,l,v,h1,h2,h3,h4,?_,(Kp.aH (S:=Rw X v0) k0).trans h6⟩;rcases h5 with h5|⟨b,h5,hb⟩
  ·exact .inl h5
  ·exact .inr ⟨b,h5,aba k0.size hb⟩
 clear hE hA hS hK hD hraw hap hf hN hol jX q0 q1 q2 k0 hcap
 go_enter Tryz.func84,Tryz.ntmps84
 go_wp2_with fail;refine (hcs _).mono ?_;rintro e w' ⟨rfl,rfl⟩;go_wp2_with fail;refine Ej.mono ?_;intro e w1 he;have HDn:Hid (mt w ⟨W,H,n,dp⟩ S ps fl B X v0 e w1):=HO.out e w1 he;obtain⟨rfl,_⟩:=he;clear Ej HO;go_wp2
 go_end0
 exact HDn.out
theorem Mw (args:Array Value)(w:World):(callFunc 121 args).run Tryz.prog w=.ok (.enter 121 args) w:=by kernel_rfl
theorem My (args:Array Value)(w:World):(callFunc 123 args).run Tryz.prog w=.ok (.enter 123 args) w:=by kernel_rfl
theorem IP (fl lead B X:Nat)(w:World)(hfl:fl<=5)(hld:1<=lead/\lead<=8)(hX:X<w.heap.size): Calls Tryz.prog 81 #[.int .i64 (fl:Nat),.int .i64 (lead:Nat),iO X] w fun e w'=>∃F aQ K,e=.returned (.func (.func F) #[] aQ)/\vr w' B X fl lead F aQ K/\(∀j,K j->w.heap.size<=j)/\Below w.heap.size w w':=by
 by_cases h5:fl=5
 ·subst h5;obtain⟨k0,q0,q1,q2⟩:=jY w (.cells #[.int .i64 5] 3) (.cells #[.int .i64 (lead:Nat)] 3) (.cells #[iO X] 128)
  have HD:Hid (vr (((w.alloc (.cells #[.int .i64 5] 3)).alloc (.cells #[.int .i64 (lead:Nat)] 3)).alloc (.cells #[iO X] 128)) B X 5 lead 121 #[.pointer (some ⟨w.heap.size+2,0,none⟩),.pointer (some ⟨w.heap.size+1,0,none⟩)] (fun j=>j=w.heap.size+1\/j=w.heap.size+2)):=by
   refine⟨Mw,fun j hj=>?_,fun u n R A r a l v hu hv hin hn=>?_⟩
   ·have hz:(((w.alloc (.cells #[.int .i64 5] 3)).alloc (.cells #[.int .i64 (lead:Nat)] 3)).alloc (.cells #[iO X] 128)).heap.size=w.heap.size+3:=by simp
    rw[hz];omega
   ·exact Pn lead n B X R A (w.heap.size+2) (w.heap.size+1) r a l v u hin ((hu _ (.inr rfl)).trans q2) ((hu _ (.inl rfl)).trans q1) ⟨by omega,by omega⟩ ⟨hv _ (.inr rfl),hv _ (.inl rfl)⟩ hld hn
  have HK:Hid (_):=k0;clear k0 q0 q1 q2
  go_enter Tryz.func81,Tryz.ntmps81
  go_wp2
  go_ret
  exact⟨_,_,_,rfl,HD.out,fun j hj=>by omega,HK.out⟩
 ·have acp:fl<=4:=by omega
  have htk:=fun u=>vg fl u;have h5':((fl:Int)==5)=false:=by rw[aa2];omega
  have wF:IntKind.u8.wrap (fl:Int)=(fl:Int):=by rw[ab7];omega
  obtain⟨k0,q0,q1,q2,q3⟩:=oT w (.cells #[.int .i64 (fl:Nat)] 3) (.cells #[.int .i64 (lead:Nat)] 3) (.cells #[iO X] 128) (.cells #[.func (.func (ig fl)) #[] #[]] 144)
  have HD:Hid (vr ((((w.alloc (.cells #[.int .i64 (fl:Nat)] 3)).alloc (.cells #[.int .i64 (lead:Nat)] 3)).alloc (.cells #[iO X] 128)).alloc (.cells #[.func (.func (ig fl)) #[] #[]] 144)) B X fl lead 123 #[.pointer (some ⟨w.heap.size+2,0,none⟩),.pointer (some ⟨w.heap.size,0,none⟩),.pointer (some ⟨w.heap.size+1,0,none⟩),.pointer (some ⟨w.heap.size+3,0,none⟩)] (fun j=>j=w.heap.size\/j=w.heap.size+1\/j=w.heap.size+2\/j=w.heap.size+3)):=by
   refine⟨My,fun j hj=>?_,fun u n R A r a l v hu hv hin hn=>?_⟩
   ·have hz:((((w.alloc (.cells #[.int .i64 (fl:Nat)] 3)).alloc (.cells #[.int .i64 (lead:Nat)] 3)).alloc (.cells #[iO X] 128)).alloc (.cells #[.func (.func (ig fl)) #[] #[]] 144)).heap.size=w.heap.size+4:=by simp
    rw[hz];omega
   ·exact Pj fl lead n B X R A (w.heap.size+2) w.heap.size (w.heap.size+1) (w.heap.size+3) r a l v u hin ((hu _ (.inr (.inr (.inl rfl)))).trans q2) ((hu _ (.inl rfl)).trans q0) ((hu _ (.inr (.inl rfl))).trans q1) ((hu _ (.inr (.inr (.inr rfl)))).trans q3) ⟨by omega,by omega,by omega,by omega⟩ ⟨hv _ (.inr (.inr (.inl rfl))),hv _ (.inl rfl),hv _ (.inr (.inl rfl)),hv _ (.inr (.inr (.inr rfl)))⟩ acp hld hn
  have HK:Hid (_):=k0;clear k0 q0 q1 q2 q3
  go_enter Tryz.func81,Tryz.ntmps81
  go_wp2_with fail;refine (htk _).mono ?_;intro e w' he;cases he with
  | no h4=>omega
  | ok h4 =>
   go_wp2
   go_ret
   exact⟨_,_,_,rfl,HD.out,fun j hj=>by omega,HK.out⟩
theorem IQ (n:Nat)(hn:n<=100000000)(Z:List Value)(hZ:Z=List.replicate n (.int .u8 0))(u:World): (Instr.makeSlice 36 (.int .i64 0) (.int .i64 (n:Int))).run Tryz.prog u=.ok (.slice (some ⟨u.heap.size,0,none⟩) 0 n) (u.alloc (.cells Z.toArray 5)):=by
 obtain⟨i0,hi,hz0,hz1,hz2⟩:=abx Tryz.infoByte;have h:=run_make (P:=Tryz.prog) u 36 5 i0 (.int .u8 0) Tryz.underlying36 hi hz0 .i64 .i64 0 (n:Int) (by omega) (by omega) (by rw[hz2];omega) (by omega);have e2:(madeCells #[Value.int .u8 0] n)=Z.toArray:=by rw[hZ,<-toList_madeCells_one]
 simpa[hz1,Value.cells,e2]using h
def bytesOf (l:List Int):ByteArray:=⟨(l.map fun y=>UInt8.ofNat y.toNat).toArray⟩
theorem qx {l:List Int}(h:∀y∈l,0<=y/\y<256):cZ l=(l.map fun y=>UInt8.ofNat y.toNat).map cx:=by
 rw[List.map_map];refine acS fun y hy=>?_;have:=h y hy;show Value.int .u8 y=.int .u8 ((UInt8.ofNat y.toNat).toNat:Int);rw[vx this.1 this.2]
theorem Ew {l:List Int}(h:∀y∈l,0<=y/\y<256):af (bytesOf l)=Pm.sL l:=by
 funext i
 unfold af bytesOf Pm.sL Pm.ai;rw[aad,aad,abQ];rcases aaY i l.length with hi|hi
 ·rw[aaj hi];have:=h _ (abl hi);have e:=vx this.1 this.2;show (UInt8.ofNat (l[i]).toNat).toNat=(l[i]).toNat;omega
 ·rw[aaz hi];rfl
theorem zE (l:List Int):(bytesOf l).size=l.length:=by rw[<-ba];simp[bytesOf]
theorem Uc (W H n dp fl:Nat)(kd:Int)(ps:Bool)(pv:Value)(G N cap:Nat)(S:List Int)(w:World)(tt:TypeId)(fr:Nat×Nat)(jX:w.heap[0]?=some (.cells cY tt fr))(hS:ik w G S)(hf:Pm.Fits ⟨W,H,n,dp⟩ S)(hN:S.length=N)(hcap:N<=cap)(hol:Pm.raw W H ((n*dp:Nat):Int) ps<=5000000)(hfl:fl<=5)(hch:Pm.chan kd dp=(n:Int))(hn:1<=n/\n<=4)(hW:1<=W/\W<=5000)(hH:1<=H/\H<=5000): Calls Tryz.prog 47 #[img W H kd dp ps pv (.slice (some ⟨G,0,none⟩) N cap),.int .i64 (fl:Nat)] w fun e w'=>∃T,e=.returned (.string T)/\(T.size:Int)=Pm.raw W H ((n*dp:Nat):Int) ps/\Pm.Written ⟨W,H,n,dp⟩ S (af T) fl ps/\Below w.heap.size w w':=by
 have hdp:=kX kd dp (by rw[hch];omega);have Q9:=Pm.oq ⟨W,H,n,dp⟩ ps;obtain⟨M,hM⟩:∃M:Nat,Pm.raw W H ((n*dp:Nat):Int) ps=(M:Int):=⟨_,Q9⟩
 have Wd:M<=5000000:=by rw[hM]at hol;omega
 have eb:Pm.chan kd dp*(dp:Int)=((n*dp:Nat):Int):=by rw[hch];push_cast;rfl
 have hk0:=ae w (.cells (aG W H kd dp ps pv (.slice (some ⟨G,0,none⟩) N cap)) 24);have hrs:=LR W H kd dp ps pv (.slice (some ⟨G,0,none⟩) N cap) (w.alloc (.cells (aG W H kd dp ps pv (.slice (some ⟨G,0,none⟩) N cap)) 24)) tt fr ((hk0.block _ (aac jX)).trans jX) (by omega) (by omega) (by rw[hch];omega);rw[eb,hM]at hrs;have hld:=fun u=>QS W H n dp kd ps pv (.slice (some ⟨G,0,none⟩) N cap) u hch hn.1;have hlr:=vj W H n dp hn hdp;obtain⟨Z,hZ⟩:∃Z:List Value,Z=List.replicate M (.int .u8 0):=⟨_,rfl⟩
 have hmk:=fun u=>IQ M (by omega) Z hZ u;have HZ:Hid (Z.length=M):=by show _=_;rw[hZ,aaB]
 have q0:=ah w (.cells (aG W H kd dp ps pv (.slice (some ⟨G,0,none⟩) N cap)) 24);have HH:Hid (_/\_/\_/\_/\_/\_/\_):=⟨jX,hS,hf,hN,hM,q0,hk0⟩
 obtain⟨x0,x1,x2,x3,x4,x5,x6⟩:=aR q0;clear jX hS hf hN hol hM Q9 eb hZ q0 hk0
 go_enter Tryz.func47,Tryz.ntmps47
 go_wp2_with fail;refine hrs.mono ?_;rintro e w1 ⟨rfl,b1⟩;obtain⟨jX,hS,hf,hN,hM,q0,hk0⟩:=HH.out;have z0:(w.alloc (.cells (aG W H kd dp ps pv (.slice (some ⟨G,0,none⟩) N cap)) 24)).heap.size=w.heap.size+1:=by simp
 have zb:=b1.size;rw[z0]at zb;have zp:Below w.heap.size w w1:=hk0.trans (b1.mono (by omega));obtain⟨k2,g0,g1⟩:=bM w1 (.cells Z.toArray 5) (.cells #[.slice (some ⟨w1.heap.size,0,none⟩) 0 M] 36);have e0:=(k2.block w.heap.size (by omega)).trans ((b1.block w.heap.size (by omega)).trans q0);obtain⟨y0,y1,y2,y3,y4,y5,y6⟩:=aR e0;have z2:((w1.alloc (.cells Z.toArray 5)).alloc (.cells #[.slice (some ⟨w1.heap.size,0,none⟩) 0 M] 36)).heap.size=w1.heap.size+2:=by simp
 have sP:gT ((w1.alloc (.cells Z.toArray 5)).alloc (.cells #[.slice (some ⟨w1.heap.size,0,none⟩) 0 M] 36)) w.heap.size (w1.heap.size+1) [] (.slice (some ⟨w1.heap.size,0,none⟩) 0 M):=by
  refine⟨g1,⟨rfl,.inr ⟨w1.heap.size,M,_,rfl,by omega,g0,aao _,by unfold maxLen;omega,?_,?_⟩⟩,fun e=>?_⟩
  ·rw[List.size_toArray,HZ.out,Nat.mul_one]
  ·simp[cZ]
  ·have:w1.heap.size=_:=aaN e;omega
 have Cx:Below w.heap.size w ((w1.alloc (.cells Z.toArray 5)).alloc (.cells #[.slice (some ⟨w1.heap.size,0,none⟩) 0 M] 36)):=zp.trans (k2.mono (by omega));have HH2:Hid (_/\_/\_):=⟨e0,sP,Cx⟩
 clear jX hS hf hN hM q0 hk0 zp k2 g0 g1 e0 sP Cx b1 hrs x0 x1 x2 x3 x4 x5 x6;go_wp2_with fail;refine (hld _).mono ?_;rintro e w3 ⟨rfl,b3⟩;obtain⟨e0,sP,Cx⟩:=HH2.out;have zb3:=b3.size;rw[z2]at zb3;have e3:=(b3.block w.heap.size (by rw[z2];omega)).trans e0;have mN:=sP.below b3;have Yk:=Cx.trans (b3.mono (by rw[z2];omega));have hwo:=IP fl (Pm.dA.lead ⟨W,H,n,dp⟩) w.heap.size (w1.heap.size+1) w3 hfl hlr (by omega);obtain⟨y0,y1,y2,y3,y4,y5,y6⟩:=aR e3;have HH3:Hid (_/\_/\_):=⟨e3,mN,Yk⟩
 clear e0 sP Cx HH2 e3 mN Yk b3 hld z2;go_wp2_with fail;refine hwo.mono ?_;rintro e w4 ⟨F,aQ,K,rfl,hD,hK,b4⟩;obtain⟨e3,mN,Yk⟩:=HH3.out;obtain⟨jX,hS,hf,hN,hM,q0,hk0⟩:=HH.out;have zb4:=b4.size;have e4:=(b4.block w.heap.size (by omega)).trans e3;have Yl:=mN.below b4;have ZR:=Yk.trans (b4.mono (by omega));have lG:=hS.lt
 have Ej:=Ev W H n dp kd ps pv G N cap fl w.heap.size (w1.heap.size+1) F aQ K S (.slice (some ⟨w1.heap.size,0,none⟩) 0 M) w4 w4 tt fr ((ZR.block _ (aac jX)).trans jX) (hS.below ZR) (fun _ _=>rfl) hD Yl (fun j hj=>by
  rcases hj with rfl|hj
  ·refine⟨by omega,by omega,fun e=>?_⟩;have:w1.heap.size=_:=aaN e;omega
  ·have h1:=hK j hj;refine⟨hD.low j hj,by omega,fun e=>?_⟩;have:w1.heap.size=_:=aaN e
   omega) (by omega) hf hN hcap (by show Pm.raw W H ((n*dp:Nat):Int) ps<=5000000;rw[hM];omega) hch hn hW hH
 obtain⟨y0,y1,y2,y3,y4,y5,y6⟩:=aR e4;have HM:Hid (Pm.raw W H ((n*dp:Nat):Int) ps=(M:Int)):=hM;have HH4:Hid (_):=ZR;clear e3 mN Yk HH3 jX hS hf hN hM q0 hk0 HH e4 Yl ZR b4 hD hwo;go_wp2_with fail;refine Ej.mono ?_;rintro e w5 ⟨rfl,l,v,g1,g2,g3,g4,g5,g6⟩
 have hst:(convert 36 9 v).run Tryz.prog w5=.ok (.string (bytesOf l)) w5:=by
  have ho:=g1.own;rw[qx g3]at ho;exact fR ho (by rw[abZ])
 have c5:=g1.box.cell
 have HF:Hid (((bytesOf l).size:Int)=Pm.raw W H ((n*dp:Nat):Int) ps/\Pm.Written ⟨W,H,n,dp⟩ S (af (bytesOf l)) fl ps/\Below w.heap.size w w5):=by
  refine⟨by rw[zE];exact g2,by rw[Ew g3];exact g4,HH4.out.trans (g6.below (by omega) (fun k _ e=>?_))⟩;rcases e with e|e
  ·omega
  ·have:w1.heap.size=_:=aaN e;omega
 clear g1 g2 g3 g4 g5 g6 Ej HH4;generalize bytesOf l=T at *;go_wp2
 go_ret
 exact⟨T,rfl,HF.out⟩
end Go.Proofs.YtmfijackgekioabGreatDoor
