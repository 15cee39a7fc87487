import Derived.Test.YtmfijackgekioaaGreatDoorQ38
import Derived.Test.YtmfijackgekioaaGreatDoorQ40
set_option maxHeartbeats 1000000
set_option maxRecDepth 100000
namespace Go.Proofs.YtmfijackgekioaaGreatDoor
open Go.RowKit Go.Maps
theorem Dq (W H n dp:Nat)(kd:Int)(ps:Bool)(pv:Value)(G N cap fl B X F:Nat)(aN:Array Value)(K:Nat->Prop)(S:List Int)(v0:Value)(w w0:World)(tt:TypeId)(fr:Nat×Nat)(jl:w.heap[0]?=some (.cells cA tt fr))(hS:gT w G S)(hK:∀j,K j->w.heap[j]?=w0.heap[j]?)(hD:uJ w0 B X fl (Pm.cZ.lead ⟨W,H,n,dp⟩) F aN K)(hraw:gF w B X [] v0)(hap:∀j,j=G\/K j->j<w.heap.size/\j≠X/\v0.ownBlock≠some j)(hB:B<=w.heap.size)(hf:Pm.Fits ⟨W,H,n,dp⟩ S)(hN:S.length=N)(hcap:N<=cap)(hol:Pm.raw W H (Pm.cZ.bits ⟨W,H,n,dp⟩:Nat) ps<=5000000)(hch:Pm.chan kd dp=(n:Int))(hn:1<=n/\n<=4)(hW:1<=W/\W<=5000)(hH:1<=H/\H<=5000): Calls Tryz.prog 103 #[img W H kd dp ps pv (.slice (some ⟨G,0,none⟩) N cap),.func (.func F) #[] aN] w fun e w'=>lO w ⟨W,H,n,dp⟩ S ps fl B X v0 e w':=by
 have hcs:=fun u=>lC kd dp u;rw[hch]at hcs;obtain⟨k0,q0,q1,q2⟩:=jC w (.cells (aE W H kd dp ps pv (.slice (some ⟨G,0,none⟩) N cap)) 30) (.cells #[.func (.func F) #[] aN] 128) (.cells #[.int .i64 (n:Nat)] 3);have lX:=lt_of_block hraw.box;have hE:yy _ w0 w.heap.size (w.heap.size+2) (w.heap.size+1) G N cap W H n kd dp ps pv F aN S K:=⟨q0,q2,q1,hS.below k0,fun j hj=>(k0.block j (hap j (.inr hj)).1).trans (hK j hj)⟩
 have hA:lJ (((w.alloc (.cells (aE W H kd dp ps pv (.slice (some ⟨G,0,none⟩) N cap)) 30)).alloc (.cells #[.func (.func F) #[] aN] 128)).alloc (.cells #[.int .i64 (n:Nat)] 3)) w.heap.size (w.heap.size+2) (w.heap.size+1) G B X v0 K:=by
  refine⟨fun j hj=>?_,Nat.le_trans hB k0.size⟩;have hz:(((w.alloc (.cells (aE W H kd dp ps pv (.slice (some ⟨G,0,none⟩) N cap)) 30)).alloc (.cells #[.func (.func F) #[] aN] 128)).alloc (.cells #[.int .i64 (n:Nat)] 3)).heap.size=w.heap.size+3:=by simp
  rw[hz];rcases hj with hj|hj
  ·refine⟨by omega,by omega,fun e=>?_⟩;have:=(hraw.lt _ e).2;omega
  ·obtain⟨a1,a2,a3⟩:=hap j hj;exact⟨by omega,a2,a3⟩
 have Df:Calls Tryz.prog 92 #[img W H kd dp ps pv (.slice (some ⟨G,0,none⟩) N cap),Dj w.heap.size (w.heap.size+2) (w.heap.size+1)] (((w.alloc (.cells (aE W H kd dp ps pv (.slice (some ⟨G,0,none⟩) N cap)) 30)).alloc (.cells #[.func (.func F) #[] aN] 128)).alloc (.cells #[.int .i64 (n:Nat)] 3)) fun e w'=>lO (((w.alloc (.cells (aE W H kd dp ps pv (.slice (some ⟨G,0,none⟩) N cap)) 30)).alloc (.cells #[.func (.func F) #[] aN] 128)).alloc (.cells #[.int .i64 (n:Nat)] 3)) ⟨W,H,n,dp⟩ S ps fl B X v0 e w':=by
  cases ps with
  | false=>exact WM W H n dp kd pv w.heap.size (w.heap.size+2) (w.heap.size+1) G N cap fl B X F aN K S v0 _ w0 hE hD (hraw.below k0) hA hf hN hcap hol hch hn hW hH
  | true=>exact SJ W H n dp kd pv w.heap.size (w.heap.size+2) (w.heap.size+1) G N cap fl B X F aN K S v0 _ w0 tt fr ((k0.block _ (lt_of_block jl)).trans jl) hE hD (hraw.below k0) hA hf hN hcap hol hch hn hW hH
 obtain⟨x0,x1,x2,x3,x4,x5,x6⟩:=aJ q0
 have HO:Hid (∀e w',lO (((w.alloc (.cells (aE W H kd dp ps pv (.slice (some ⟨G,0,none⟩) N cap)) 30)).alloc (.cells #[.func (.func F) #[] aN] 128)).alloc (.cells #[.int .i64 (n:Nat)] 3)) ⟨W,H,n,dp⟩ S ps fl B X v0 e w'->lO w ⟨W,H,n,dp⟩ S ps fl B X v0 e w'):=fun e w' ⟨he,l,v,h1,h2,h3,h4,h5,h6⟩=>by
  refine⟨he,l,v,h1,h2,h3,h4,?_,(Kp.aG (S:=Rw X v0) k0).trans h6⟩;rcases h5 with h5|⟨b,h5,hb⟩
  ·exact .inl h5
  ·exact .inr ⟨b,h5,Nat.le_trans k0.size hb⟩
 clear hE hA hS hK hD hraw hap hf hN hol jl q0 q1 q2 k0 hcap
 go_enter Tryz.func103,Tryz.ntmps103
 go_wp2_with fail;refine (hcs _).mono ?_;rintro e w' ⟨rfl,rfl⟩;go_wp2_with fail;refine Df.mono ?_;intro e w1 he;have HDn:Hid (lO w ⟨W,H,n,dp⟩ S ps fl B X v0 e w1):=HO.out e w1 he;obtain⟨rfl,_⟩:=he;clear Df HO;go_wp2
 go_end0
 exact HDn.out
theorem Lx (args:Array Value)(w:World):(callFunc 142 args).run Tryz.prog w=.ok (.enter 142 args) w:=by kernel_rfl
theorem Ly (args:Array Value)(w:World):(callFunc 145 args).run Tryz.prog w=.ok (.enter 145 args) w:=by kernel_rfl
theorem Hg (fl lead B X:Nat)(w:World)(hfl:fl<=5)(hld:1<=lead/\lead<=8)(hX:X<w.heap.size): Calls Tryz.prog 100 #[.int .i64 (fl:Nat),.int .i64 (lead:Nat),iu X] w fun e w'=>∃F aN K,e=.returned (.func (.func F) #[] aN)/\uJ w' B X fl lead F aN K/\(∀j,K j->w.heap.size<=j)/\Below w.heap.size w w':=by
 by_cases h5:fl=5
 ·subst h5;obtain⟨k0,q0,q1,q2⟩:=jC w (.cells #[.int .i64 5] 3) (.cells #[.int .i64 (lead:Nat)] 3) (.cells #[iu X] 130)
  have HD:Hid (uJ (((w.alloc (.cells #[.int .i64 5] 3)).alloc (.cells #[.int .i64 (lead:Nat)] 3)).alloc (.cells #[iu X] 130)) B X 5 lead 142 #[.pointer (some ⟨w.heap.size+2,0,none⟩),.pointer (some ⟨w.heap.size+1,0,none⟩)] (fun j=>j=w.heap.size+1\/j=w.heap.size+2)):=by
   refine⟨Lx,fun j hj=>?_,fun u n R A r a l v hu hv hin hn=>?_⟩
   ·have hz:(((w.alloc (.cells #[.int .i64 5] 3)).alloc (.cells #[.int .i64 (lead:Nat)] 3)).alloc (.cells #[iu X] 130)).heap.size=w.heap.size+3:=by simp
    rw[hz];omega
   ·exact Ob lead n B X R A (w.heap.size+2) (w.heap.size+1) r a l v u hin ((hu _ (.inr rfl)).trans q2) ((hu _ (.inl rfl)).trans q1) ⟨by omega,by omega⟩ ⟨hv _ (.inr rfl),hv _ (.inl rfl)⟩ hld hn
  have HK:Hid (_):=k0;clear k0 q0 q1 q2
  go_enter Tryz.func100,Tryz.ntmps100
  go_wp2
  go_ret
  exact⟨_,_,_,rfl,HD.out,fun j hj=>by omega,HK.out⟩
 ·have aba:fl<=4:=by omega
  have htk:=fun u=>uD fl u;have h5':((fl:Int)==5)=false:=by rw[beq_eq_false_iff_ne];omega
  have wF:IntKind.u8.wrap (fl:Int)=(fl:Int):=by rw[IntKind.wrap_u8];omega
  obtain⟨k0,q0,q1,q2,q3⟩:=oo w (.cells #[.int .i64 (fl:Nat)] 3) (.cells #[.int .i64 (lead:Nat)] 3) (.cells #[iu X] 130) (.cells #[.func (.func (gS fl)) #[] #[]] 193)
  have HD:Hid (uJ ((((w.alloc (.cells #[.int .i64 (fl:Nat)] 3)).alloc (.cells #[.int .i64 (lead:Nat)] 3)).alloc (.cells #[iu X] 130)).alloc (.cells #[.func (.func (gS fl)) #[] #[]] 193)) B X fl lead 145 #[.pointer (some ⟨w.heap.size+2,0,none⟩),.pointer (some ⟨w.heap.size,0,none⟩),.pointer (some ⟨w.heap.size+1,0,none⟩),.pointer (some ⟨w.heap.size+3,0,none⟩)] (fun j=>j=w.heap.size\/j=w.heap.size+1\/j=w.heap.size+2\/j=w.heap.size+3)):=by
   refine⟨Ly,fun j hj=>?_,fun u n R A r a l v hu hv hin hn=>?_⟩
   ·have hz:((((w.alloc (.cells #[.int .i64 (fl:Nat)] 3)).alloc (.cells #[.int .i64 (lead:Nat)] 3)).alloc (.cells #[iu X] 130)).alloc (.cells #[.func (.func (gS fl)) #[] #[]] 193)).heap.size=w.heap.size+4:=by simp
    rw[hz];omega
   ·exact Oa fl lead n B X R A (w.heap.size+2) w.heap.size (w.heap.size+1) (w.heap.size+3) r a l v u hin ((hu _ (.inr (.inr (.inl rfl)))).trans q2) ((hu _ (.inl rfl)).trans q0) ((hu _ (.inr (.inl rfl))).trans q1) ((hu _ (.inr (.inr (.inr rfl)))).trans q3) ⟨by omega,by omega,by omega,by omega⟩ ⟨hv _ (.inr (.inr (.inl rfl))),hv _ (.inl rfl),hv _ (.inr (.inl rfl)),hv _ (.inr (.inr (.inr rfl)))⟩ aba hld hn
  have HK:Hid (_):=k0;clear k0 q0 q1 q2 q3
  go_enter Tryz.func100,Tryz.ntmps100
  go_wp2_with fail;refine (htk _).mono ?_;intro e w' he;cases he with
  | no h4=>omega
  | ok h4 =>
   go_wp2
   go_ret
   exact⟨_,_,_,rfl,HD.out,fun j hj=>by omega,HK.out⟩
theorem Hh (n:Nat)(hn:n<=100000000)(Z:List Value)(hZ:Z=List.replicate n (.int .u8 0))(u:World): (Instr.makeSlice 107 (.int .i64 0) (.int .i64 (n:Int))).run Tryz.prog u=.ok (.slice (some ⟨u.heap.size,0,none⟩) 0 n) (u.alloc (.cells Z.toArray 5)):=by
 obtain⟨i0,hi,hz0,hz1,hz2⟩:=info_parts Tryz.infoByte;have h:=run_make (P:=Tryz.prog) u 107 5 i0 (.int .u8 0) Tryz.underlying107 hi hz0 .i64 .i64 0 (n:Int) (by omega) (by omega) (by rw[hz2];omega) (by omega);have e2:(madeCells #[Value.int .u8 0] n)=Z.toArray:=by rw[hZ,<-toList_madeCells_one]
 simpa[hz1,Value.cells,e2]using h
def bytesOf (l:List Int):ByteArray:=⟨(l.map fun y=>UInt8.ofNat y.toNat).toArray⟩
theorem pU {l:List Int}(h:∀y∈l,0<=y/\y<256):cK l=(l.map fun y=>UInt8.ofNat y.toNat).map bU:=by
 rw[List.map_map];refine List.map_congr_left fun y hy=>?_;have:=h y hy;show Value.int .u8 y=.int .u8 ((UInt8.ofNat y.toNat).toNat:Int);rw[uM this.1 this.2]
theorem Dr {l:List Int}(h:∀y∈l,0<=y/\y<256):ag (bytesOf l)=Pm.rQ l:=by
 funext i
 unfold ag bytesOf Pm.rQ Pm.aj;rw[List.getD_eq_getElem?_getD,List.getD_eq_getElem?_getD,List.getElem?_map];rcases Nat.lt_or_ge i l.length with hi|hi
 ·rw[List.getElem?_eq_getElem hi];have:=h _ (List.getElem_mem hi);have e:=uM this.1 this.2;show (UInt8.ofNat (l[i]).toNat).toNat=(l[i]).toNat;omega
 ·rw[List.getElem?_eq_none hi];rfl
theorem yA (l:List Int):(bytesOf l).size=l.length:=by rw[<-cH];simp[bytesOf]
theorem SR (W H n dp fl:Nat)(kd:Int)(ps:Bool)(pv:Value)(G N cap:Nat)(S:List Int)(w:World)(tt:TypeId)(fr:Nat×Nat)(jl:w.heap[0]?=some (.cells cA tt fr))(hS:gT w G S)(hf:Pm.Fits ⟨W,H,n,dp⟩ S)(hN:S.length=N)(hcap:N<=cap)(hol:Pm.raw W H ((n*dp:Nat):Int) ps<=5000000)(hfl:fl<=5)(hch:Pm.chan kd dp=(n:Int))(hn:1<=n/\n<=4)(hW:1<=W/\W<=5000)(hH:1<=H/\H<=5000): Calls Tryz.prog 62 #[img W H kd dp ps pv (.slice (some ⟨G,0,none⟩) N cap),.int .i64 (fl:Nat)] w fun e w'=>∃T,e=.returned (.string T)/\(T.size:Int)=Pm.raw W H ((n*dp:Nat):Int) ps/\Pm.Written ⟨W,H,n,dp⟩ S (ag T) fl ps/\Below w.heap.size w w':=by
 have hdp:=kj kd dp (by rw[hch];omega);have Qd:=Pm.nN ⟨W,H,n,dp⟩ ps;obtain⟨M,hM⟩:∃M:Nat,Pm.raw W H ((n*dp:Nat):Int) ps=(M:Int):=⟨_,Qd⟩
 have Vc:M<=5000000:=by rw[hM]at hol;omega
 have eb:Pm.chan kd dp*(dp:Int)=((n*dp:Nat):Int):=by rw[hch];push_cast;rfl
 have hk0:=ae w (.cells (aE W H kd dp ps pv (.slice (some ⟨G,0,none⟩) N cap)) 30);have hrs:=KO W H kd dp ps pv (.slice (some ⟨G,0,none⟩) N cap) (w.alloc (.cells (aE W H kd dp ps pv (.slice (some ⟨G,0,none⟩) N cap)) 30)) tt fr ((hk0.block _ (lt_of_block jl)).trans jl) (by omega) (by omega) (by rw[hch];omega);rw[eb,hM]at hrs;have hld:=fun u=>PY W H n dp kd ps pv (.slice (some ⟨G,0,none⟩) N cap) u hch hn.1;have hlr:=uF W H n dp hn hdp;obtain⟨Z,hZ⟩:∃Z:List Value,Z=List.replicate M (.int .u8 0):=⟨_,rfl⟩
 have hmk:=fun u=>Hh M (by omega) Z hZ u;have HZ:Hid (Z.length=M):=by show _=_;rw[hZ,List.length_replicate]
 have q0:=ah w (.cells (aE W H kd dp ps pv (.slice (some ⟨G,0,none⟩) N cap)) 30);have HH:Hid (_/\_/\_/\_/\_/\_/\_):=⟨jl,hS,hf,hN,hM,q0,hk0⟩
 obtain⟨x0,x1,x2,x3,x4,x5,x6⟩:=aJ q0;clear jl hS hf hN hol hM Qd eb hZ q0 hk0
 go_enter Tryz.func62,Tryz.ntmps62
 go_wp2_with fail;refine hrs.mono ?_;rintro e w1 ⟨rfl,b1⟩;obtain⟨jl,hS,hf,hN,hM,q0,hk0⟩:=HH.out;have z0:(w.alloc (.cells (aE W H kd dp ps pv (.slice (some ⟨G,0,none⟩) N cap)) 30)).heap.size=w.heap.size+1:=by simp
 have zb:=b1.size;rw[z0]at zb;have yr:Below w.heap.size w w1:=hk0.trans (b1.mono (by omega));obtain⟨k2,g0,g1⟩:=bJ w1 (.cells Z.toArray 5) (.cells #[.slice (some ⟨w1.heap.size,0,none⟩) 0 M] 107);have e0:=(k2.block w.heap.size (by omega)).trans ((b1.block w.heap.size (by omega)).trans q0);obtain⟨y0,y1,y2,y3,y4,y5,y6⟩:=aJ e0;have z2:((w1.alloc (.cells Z.toArray 5)).alloc (.cells #[.slice (some ⟨w1.heap.size,0,none⟩) 0 M] 107)).heap.size=w1.heap.size+2:=by simp
 have rT:gF ((w1.alloc (.cells Z.toArray 5)).alloc (.cells #[.slice (some ⟨w1.heap.size,0,none⟩) 0 M] 107)) w.heap.size (w1.heap.size+1) [] (.slice (some ⟨w1.heap.size,0,none⟩) 0 M):=by
  refine⟨g1,⟨rfl,.inr ⟨w1.heap.size,M,_,rfl,by omega,g0,Nat.zero_le _,by unfold maxLen;omega,?_,?_⟩⟩,fun e=>?_⟩
  ·rw[List.size_toArray,HZ.out,Nat.mul_one]
  ·simp[cK]
  ·have:w1.heap.size=_:=Option.some.inj e;omega
 have Bp:Below w.heap.size w ((w1.alloc (.cells Z.toArray 5)).alloc (.cells #[.slice (some ⟨w1.heap.size,0,none⟩) 0 M] 107)):=yr.trans (k2.mono (by omega));have HH2:Hid (_/\_/\_):=⟨e0,rT,Bp⟩
 clear jl hS hf hN hM q0 hk0 yr k2 g0 g1 e0 rT Bp b1 hrs x0 x1 x2 x3 x4 x5 x6;go_wp2_with fail;refine (hld _).mono ?_;rintro e w3 ⟨rfl,b3⟩;obtain⟨e0,rT,Bp⟩:=HH2.out;have zb3:=b3.size;rw[z2]at zb3;have e3:=(b3.block w.heap.size (by rw[z2];omega)).trans e0;have mq:=rT.below b3;have WY:=Bp.trans (b3.mono (by rw[z2];omega));have hwo:=Hg fl (Pm.cZ.lead ⟨W,H,n,dp⟩) w.heap.size (w1.heap.size+1) w3 hfl hlr (by omega);obtain⟨y0,y1,y2,y3,y4,y5,y6⟩:=aJ e3;have HH3:Hid (_/\_/\_):=⟨e3,mq,WY⟩
 clear e0 rT Bp HH2 e3 mq WY b3 hld z2;go_wp2_with fail;refine hwo.mono ?_;rintro e w4 ⟨F,aN,K,rfl,hD,hK,b4⟩;obtain⟨e3,mq,WY⟩:=HH3.out;obtain⟨jl,hS,hf,hN,hM,q0,hk0⟩:=HH.out;have zb4:=b4.size;have e4:=(b4.block w.heap.size (by omega)).trans e3;have WZ:=mq.below b4;have YO:=WY.trans (b4.mono (by omega));have lG:=hS.lt
 have Df:=Dq W H n dp kd ps pv G N cap fl w.heap.size (w1.heap.size+1) F aN K S (.slice (some ⟨w1.heap.size,0,none⟩) 0 M) w4 w4 tt fr ((YO.block _ (lt_of_block jl)).trans jl) (hS.below YO) (fun _ _=>rfl) hD WZ (fun j hj=>by
  rcases hj with rfl|hj
  ·refine⟨by omega,by omega,fun e=>?_⟩;have:w1.heap.size=_:=Option.some.inj e;omega
  ·have h1:=hK j hj;refine⟨hD.low j hj,by omega,fun e=>?_⟩;have:w1.heap.size=_:=Option.some.inj e
   omega) (by omega) hf hN hcap (by show Pm.raw W H ((n*dp:Nat):Int) ps<=5000000;rw[hM];omega) hch hn hW hH
 obtain⟨y0,y1,y2,y3,y4,y5,y6⟩:=aJ e4;have HM:Hid (Pm.raw W H ((n*dp:Nat):Int) ps=(M:Int)):=hM;have Qe:Hid (_):=YO;clear e3 mq WY HH3 jl hS hf hN hM q0 hk0 HH e4 WZ YO b4 hD hwo;go_wp2_with fail;refine Df.mono ?_;rintro e w5 ⟨rfl,l,v,g1,g2,g3,g4,g5,g6⟩
 have hst:(convert 107 9 v).run Tryz.prog w5=.ok (.string (bytesOf l)) w5:=by
  have ho:=g1.own;rw[pU g3]at ho;exact fH ho (by rw[List.length_map])
 have c5:=g1.box.cell
 have HF:Hid (((bytesOf l).size:Int)=Pm.raw W H ((n*dp:Nat):Int) ps/\Pm.Written ⟨W,H,n,dp⟩ S (ag (bytesOf l)) fl ps/\Below w.heap.size w w5):=by
  refine⟨by rw[yA];exact g2,by rw[Dr g3];exact g4,Qe.out.trans (g6.below (by omega) (fun k _ e=>?_))⟩;rcases e with e|e
  ·omega
  ·have:w1.heap.size=_:=Option.some.inj e;omega
 clear g1 g2 g3 g4 g5 g6 Df Qe;generalize bytesOf l=T at *;go_wp2
 go_ret
 exact⟨T,rfl,HF.out⟩
end Go.Proofs.YtmfijackgekioaaGreatDoor
