import Derived.Test.YtmfijackgekioabGreatDoorQ34
import Derived.Test.YtmfijackgekioabGreatDoorQ37
set_option maxHeartbeats 1000000
set_option maxRecDepth 100000
namespace Go.Proofs.YtmfijackgekioabGreatDoor
open Go.RowKit Go.Maps
theorem D4 (W H n dp:Nat)(kd:Int)(ps:Bool)(pv:Value)(G N cap fl B X F:Nat)(aO:Array Value)(K:Nat->Prop)(S:List Int)(v0:Value)(w w0:World)(tt:TypeId)(fr:Nat×Nat)(jI:w.heap[0]?=some (.cells cX tt fr))(hS:gZ w G S)(hK:∀j,K j->w.heap[j]?=w0.heap[j]?)(hD:u9 w0 B X fl (Pm.dA.lead ⟨W,H,n,dp⟩) F aO K)(hraw:gL w B X [] v0)(hap:∀j,j=G\/K j->j<w.heap.size/\j≠X/\v0.ownBlock≠some j)(hB:B<=w.heap.size)(hf:Pm.Fits ⟨W,H,n,dp⟩ S)(hN:S.length=N)(hcap:N<=cap)(hol:Pm.raw W H (Pm.dA.bits ⟨W,H,n,dp⟩:Nat) ps<=5000000)(hch:Pm.chan kd dp=(n:Int))(hn:1<=n/\n<=4)(hW:1<=W/\W<=5000)(hH:1<=H/\H<=5000): Calls Tryz.prog 84 #[img W H kd dp ps pv (.slice (some ⟨G,0,none⟩) N cap),.func (.func F) #[] aO] w fun e w'=>me w ⟨W,H,n,dp⟩ S ps fl B X v0 e w':=by
 have hcs:=fun u=>lZ kd dp u;rw[hch]at hcs;obtain⟨k0,q0,q1,q2⟩:=jJ w (.cells (aD W H kd dp ps pv (.slice (some ⟨G,0,none⟩) N cap)) 24) (.cells #[.func (.func F) #[] aO] 126) (.cells #[.int .i64 (n:Nat)] 3);have lX:=aaa hraw.box;have hE:y9 _ w0 w.heap.size (w.heap.size+2) (w.heap.size+1) G N cap W H n kd dp ps pv F aO S K:=⟨q0,q2,q1,hS.below k0,fun j hj=>(k0.block j (hap j (.inr hj)).1).trans (hK j hj)⟩
 have hA:mc (((w.alloc (.cells (aD W H kd dp ps pv (.slice (some ⟨G,0,none⟩) N cap)) 24)).alloc (.cells #[.func (.func F) #[] aO] 126)).alloc (.cells #[.int .i64 (n:Nat)] 3)) w.heap.size (w.heap.size+2) (w.heap.size+1) G B X v0 K:=by
  refine⟨fun j hj=>?_,abe hB k0.size⟩;have hz:(((w.alloc (.cells (aD W H kd dp ps pv (.slice (some ⟨G,0,none⟩) N cap)) 24)).alloc (.cells #[.func (.func F) #[] aO] 126)).alloc (.cells #[.int .i64 (n:Nat)] 3)).heap.size=w.heap.size+3:=by simp
  rw[hz];rcases hj with hj|hj
  ·refine⟨by omega,by omega,fun e=>?_⟩;have:=(hraw.lt _ e).2;omega
  ·obtain⟨a1,a2,a3⟩:=hap j hj;exact⟨by omega,a2,a3⟩
 have DR:Calls Tryz.prog 58 #[img W H kd dp ps pv (.slice (some ⟨G,0,none⟩) N cap),D3 w.heap.size (w.heap.size+2) (w.heap.size+1)] (((w.alloc (.cells (aD W H kd dp ps pv (.slice (some ⟨G,0,none⟩) N cap)) 24)).alloc (.cells #[.func (.func F) #[] aO] 126)).alloc (.cells #[.int .i64 (n:Nat)] 3)) fun e w'=>me (((w.alloc (.cells (aD W H kd dp ps pv (.slice (some ⟨G,0,none⟩) N cap)) 24)).alloc (.cells #[.func (.func F) #[] aO] 126)).alloc (.cells #[.int .i64 (n:Nat)] 3)) ⟨W,H,n,dp⟩ S ps fl B X v0 e w':=by
  cases ps with
  | false=>exact Xw W H n dp kd pv w.heap.size (w.heap.size+2) (w.heap.size+1) G N cap fl B X F aO K S v0 _ w0 hE hD (hraw.below k0) hA hf hN hcap hol hch hn hW hH
  | true=>exact Tq W H n dp kd pv w.heap.size (w.heap.size+2) (w.heap.size+1) G N cap fl B X F aO K S v0 _ w0 tt fr ((k0.block _ (aaa jI)).trans jI) hE hD (hraw.below k0) hA hf hN hcap hol hch hn hW hH
 obtain⟨x0,x1,x2,x3,x4,x5,x6⟩:=aP q0
 have HO:Hid (∀e w',me (((w.alloc (.cells (aD W H kd dp ps pv (.slice (some ⟨G,0,none⟩) N cap)) 24)).alloc (.cells #[.func (.func F) #[] aO] 126)).alloc (.cells #[.int .i64 (n:Nat)] 3)) ⟨W,H,n,dp⟩ S ps fl B X v0 e w'->me w ⟨W,H,n,dp⟩ S ps fl B X v0 e w'):=fun e w' ⟨he,l,v,h1,h2,h3,h4,h5,h6⟩=>by
  refine⟨he,l,v,h1,h2,h3,h4,?_,(Kp.aF (S:=Rw X v0) k0).trans h6⟩;rcases h5 with h5|⟨b,h5,hb⟩
  ·exact .inl h5
  ·exact .inr ⟨b,h5,abe k0.size hb⟩
 clear hE hA hS hK hD hraw hap hf hN hol jI q0 q1 q2 k0 hcap
 go_enter Tryz.func84,Tryz.ntmps84
 go_wp2_with fail;refine (hcs _).mono ?_;rintro e w' ⟨rfl,rfl⟩;go_wp2_with fail;refine DR.mono ?_;intro e w1 he;have HDn:Hid (me w ⟨W,H,n,dp⟩ S ps fl B X v0 e w1):=HO.out e w1 he;obtain⟨rfl,_⟩:=he;clear DR HO;go_wp2
 go_end0
 exact HDn.out
theorem L5 (args:Array Value)(w:World):(callFunc 121 args).run Tryz.prog w=.ok (.enter 121 args) w:=by kernel_rfl
theorem L6 (args:Array Value)(w:World):(callFunc 123 args).run Tryz.prog w=.ok (.enter 123 args) w:=by kernel_rfl
theorem Ii (fl lead B X:Nat)(w:World)(hfl:fl<=5)(hld:1<=lead/\lead<=8)(hX:X<w.heap.size): Calls Tryz.prog 81 #[.int .i64 (fl:Nat),.int .i64 (lead:Nat),iE X] w fun e w'=>∃F aO K,e=.returned (.func (.func F) #[] aO)/\u9 w' B X fl lead F aO K/\(∀j,K j->w.heap.size<=j)/\Below w.heap.size w w':=by
 by_cases h5:fl=5
 ·subst h5;obtain⟨k0,q0,q1,q2⟩:=jJ w (.cells #[.int .i64 5] 3) (.cells #[.int .i64 (lead:Nat)] 3) (.cells #[iE X] 128)
  have HD:Hid (u9 (((w.alloc (.cells #[.int .i64 5] 3)).alloc (.cells #[.int .i64 (lead:Nat)] 3)).alloc (.cells #[iE X] 128)) B X 5 lead 121 #[.pointer (some ⟨w.heap.size+2,0,none⟩),.pointer (some ⟨w.heap.size+1,0,none⟩)] (fun j=>j=w.heap.size+1\/j=w.heap.size+2)):=by
   refine⟨L5,fun j hj=>?_,fun u n R A r a l v hu hv hin hn=>?_⟩
   ·have hz:(((w.alloc (.cells #[.int .i64 5] 3)).alloc (.cells #[.int .i64 (lead:Nat)] 3)).alloc (.cells #[iE X] 128)).heap.size=w.heap.size+3:=by simp
    rw[hz];omega
   ·exact OJ lead n B X R A (w.heap.size+2) (w.heap.size+1) r a l v u hin ((hu _ (.inr rfl)).trans q2) ((hu _ (.inl rfl)).trans q1) ⟨by omega,by omega⟩ ⟨hv _ (.inr rfl),hv _ (.inl rfl)⟩ hld hn
  have HK:Hid (_):=k0;clear k0 q0 q1 q2
  go_enter Tryz.func81,Tryz.ntmps81
  go_wp2
  go_ret
  exact⟨_,_,_,rfl,HD.out,fun j hj=>by omega,HK.out⟩
 ·have abF:fl<=4:=by omega
  have htk:=fun u=>uL fl u;have h5':((fl:Int)==5)=false:=by rw[aaP];omega
  have wF:IntKind.u8.wrap (fl:Int)=(fl:Int):=by rw[ab2];omega
  obtain⟨k0,q0,q1,q2,q3⟩:=oG w (.cells #[.int .i64 (fl:Nat)] 3) (.cells #[.int .i64 (lead:Nat)] 3) (.cells #[iE X] 128) (.cells #[.func (.func (gY fl)) #[] #[]] 144)
  have HD:Hid (u9 ((((w.alloc (.cells #[.int .i64 (fl:Nat)] 3)).alloc (.cells #[.int .i64 (lead:Nat)] 3)).alloc (.cells #[iE X] 128)).alloc (.cells #[.func (.func (gY fl)) #[] #[]] 144)) B X fl lead 123 #[.pointer (some ⟨w.heap.size+2,0,none⟩),.pointer (some ⟨w.heap.size,0,none⟩),.pointer (some ⟨w.heap.size+1,0,none⟩),.pointer (some ⟨w.heap.size+3,0,none⟩)] (fun j=>j=w.heap.size\/j=w.heap.size+1\/j=w.heap.size+2\/j=w.heap.size+3)):=by
   refine⟨L6,fun j hj=>?_,fun u n R A r a l v hu hv hin hn=>?_⟩
   ·have hz:((((w.alloc (.cells #[.int .i64 (fl:Nat)] 3)).alloc (.cells #[.int .i64 (lead:Nat)] 3)).alloc (.cells #[iE X] 128)).alloc (.cells #[.func (.func (gY fl)) #[] #[]] 144)).heap.size=w.heap.size+4:=by simp
    rw[hz];omega
   ·exact OI fl lead n B X R A (w.heap.size+2) w.heap.size (w.heap.size+1) (w.heap.size+3) r a l v u hin ((hu _ (.inr (.inr (.inl rfl)))).trans q2) ((hu _ (.inl rfl)).trans q0) ((hu _ (.inr (.inl rfl))).trans q1) ((hu _ (.inr (.inr (.inr rfl)))).trans q3) ⟨by omega,by omega,by omega,by omega⟩ ⟨hv _ (.inr (.inr (.inl rfl))),hv _ (.inl rfl),hv _ (.inr (.inl rfl)),hv _ (.inr (.inr (.inr rfl)))⟩ abF hld hn
  have HK:Hid (_):=k0;clear k0 q0 q1 q2 q3
  go_enter Tryz.func81,Tryz.ntmps81
  go_wp2_with fail;refine (htk _).mono ?_;intro e w' he;cases he with
  | no h4=>omega
  | ok h4 =>
   go_wp2
   go_ret
   exact⟨_,_,_,rfl,HD.out,fun j hj=>by omega,HK.out⟩
theorem Ij (n:Nat)(hn:n<=100000000)(Z:List Value)(hZ:Z=List.replicate n (.int .u8 0))(u:World): (Instr.makeSlice 36 (.int .i64 0) (.int .i64 (n:Int))).run Tryz.prog u=.ok (.slice (some ⟨u.heap.size,0,none⟩) 0 n) (u.alloc (.cells Z.toArray 5)):=by
 obtain⟨i0,hi,hz0,hz1,hz2⟩:=abu Tryz.infoByte;have h:=run_make (P:=Tryz.prog) u 36 5 i0 (.int .u8 0) Tryz.underlying36 hi hz0 .i64 .i64 0 (n:Int) (by omega) (by omega) (by rw[hz2];omega) (by omega);have e2:(madeCells #[Value.int .u8 0] n)=Z.toArray:=by rw[hZ,<-toList_madeCells_one]
 simpa[hz1,Value.cells,e2]using h
def bytesOf (l:List Int):ByteArray:=⟨(l.map fun y=>UInt8.ofNat y.toNat).toArray⟩
theorem p9 {l:List Int}(h:∀y∈l,0<=y/\y<256):cY l=(l.map fun y=>UInt8.ofNat y.toNat).map cm:=by
 rw[List.map_map];refine acJ fun y hy=>?_;have:=h y hy;show Value.int .u8 y=.int .u8 ((UInt8.ofNat y.toNat).toNat:Int);rw[uS this.1 this.2]
theorem D5 {l:List Int}(h:∀y∈l,0<=y/\y<256):af (bytesOf l)=Pm.rY l:=by
 funext i
 unfold af bytesOf Pm.rY Pm.ai;rw[aab,aab,abC];rcases aba i l.length with hi|hi
 ·rw[aan hi];have:=h _ (abo hi);have e:=uS this.1 this.2;show (UInt8.ofNat (l[i]).toNat).toNat=(l[i]).toNat;omega
 ·rw[aaC hi];rfl
theorem zd (l:List Int):(bytesOf l).size=l.length:=by rw[<-cj];simp[bytesOf]
theorem Tt (W H n dp fl:Nat)(kd:Int)(ps:Bool)(pv:Value)(G N cap:Nat)(S:List Int)(w:World)(tt:TypeId)(fr:Nat×Nat)(jI:w.heap[0]?=some (.cells cX tt fr))(hS:gZ w G S)(hf:Pm.Fits ⟨W,H,n,dp⟩ S)(hN:S.length=N)(hcap:N<=cap)(hol:Pm.raw W H ((n*dp:Nat):Int) ps<=5000000)(hfl:fl<=5)(hch:Pm.chan kd dp=(n:Int))(hn:1<=n/\n<=4)(hW:1<=W/\W<=5000)(hH:1<=H/\H<=5000): Calls Tryz.prog 47 #[img W H kd dp ps pv (.slice (some ⟨G,0,none⟩) N cap),.int .i64 (fl:Nat)] w fun e w'=>∃T,e=.returned (.string T)/\(T.size:Int)=Pm.raw W H ((n*dp:Nat):Int) ps/\Pm.Written ⟨W,H,n,dp⟩ S (af T) fl ps/\Below w.heap.size w w':=by
 have hdp:=kE kd dp (by rw[hch];omega);have QA:=Pm.nU ⟨W,H,n,dp⟩ ps;obtain⟨M,hM⟩:∃M:Nat,Pm.raw W H ((n*dp:Nat):Int) ps=(M:Int):=⟨_,QA⟩
 have VC:M<=5000000:=by rw[hM]at hol;omega
 have eb:Pm.chan kd dp*(dp:Int)=((n*dp:Nat):Int):=by rw[hch];push_cast;rfl
 have hk0:=ae w (.cells (aD W H kd dp ps pv (.slice (some ⟨G,0,none⟩) N cap)) 24);have hrs:=Lr W H kd dp ps pv (.slice (some ⟨G,0,none⟩) N cap) (w.alloc (.cells (aD W H kd dp ps pv (.slice (some ⟨G,0,none⟩) N cap)) 24)) tt fr ((hk0.block _ (aaa jI)).trans jI) (by omega) (by omega) (by rw[hch];omega);rw[eb,hM]at hrs;have hld:=fun u=>Qs W H n dp kd ps pv (.slice (some ⟨G,0,none⟩) N cap) u hch hn.1;have hlr:=uN W H n dp hn hdp;obtain⟨Z,hZ⟩:∃Z:List Value,Z=List.replicate M (.int .u8 0):=⟨_,rfl⟩
 have hmk:=fun u=>Ij M (by omega) Z hZ u;have HZ:Hid (Z.length=M):=by show _=_;rw[hZ,aaE]
 have q0:=ah w (.cells (aD W H kd dp ps pv (.slice (some ⟨G,0,none⟩) N cap)) 24);have HH:Hid (_/\_/\_/\_/\_/\_/\_):=⟨jI,hS,hf,hN,hM,q0,hk0⟩
 obtain⟨x0,x1,x2,x3,x4,x5,x6⟩:=aP q0;clear jI hS hf hN hol hM QA eb hZ q0 hk0
 go_enter Tryz.func47,Tryz.ntmps47
 go_wp2_with fail;refine hrs.mono ?_;rintro e w1 ⟨rfl,b1⟩;obtain⟨jI,hS,hf,hN,hM,q0,hk0⟩:=HH.out;have z0:(w.alloc (.cells (aD W H kd dp ps pv (.slice (some ⟨G,0,none⟩) N cap)) 24)).heap.size=w.heap.size+1:=by simp
 have zb:=b1.size;rw[z0]at zb;have yP:Below w.heap.size w w1:=hk0.trans (b1.mono (by omega));obtain⟨k2,g0,g1⟩:=bH w1 (.cells Z.toArray 5) (.cells #[.slice (some ⟨w1.heap.size,0,none⟩) 0 M] 36);have e0:=(k2.block w.heap.size (by omega)).trans ((b1.block w.heap.size (by omega)).trans q0);obtain⟨y0,y1,y2,y3,y4,y5,y6⟩:=aP e0;have z2:((w1.alloc (.cells Z.toArray 5)).alloc (.cells #[.slice (some ⟨w1.heap.size,0,none⟩) 0 M] 36)).heap.size=w1.heap.size+2:=by simp
 have sg:gL ((w1.alloc (.cells Z.toArray 5)).alloc (.cells #[.slice (some ⟨w1.heap.size,0,none⟩) 0 M] 36)) w.heap.size (w1.heap.size+1) [] (.slice (some ⟨w1.heap.size,0,none⟩) 0 M):=by
  refine⟨g1,⟨rfl,.inr ⟨w1.heap.size,M,_,rfl,by omega,g0,aaq _,by unfold maxLen;omega,?_,?_⟩⟩,fun e=>?_⟩
  ·rw[List.size_toArray,HZ.out,Nat.mul_one]
  ·simp[cY]
  ·have:w1.heap.size=_:=aaH e;omega
 have BV:Below w.heap.size w ((w1.alloc (.cells Z.toArray 5)).alloc (.cells #[.slice (some ⟨w1.heap.size,0,none⟩) 0 M] 36)):=yP.trans (k2.mono (by omega));have HH2:Hid (_/\_/\_):=⟨e0,sg,BV⟩
 clear jI hS hf hN hM q0 hk0 yP k2 g0 g1 e0 sg BV b1 hrs x0 x1 x2 x3 x4 x5 x6;go_wp2_with fail;refine (hld _).mono ?_;rintro e w3 ⟨rfl,b3⟩;obtain⟨e0,sg,BV⟩:=HH2.out;have zb3:=b3.size;rw[z2]at zb3;have e3:=(b3.block w.heap.size (by rw[z2];omega)).trans e0;have mD:=sg.below b3;have Xz:=BV.trans (b3.mono (by rw[z2];omega));have hwo:=Ii fl (Pm.dA.lead ⟨W,H,n,dp⟩) w.heap.size (w1.heap.size+1) w3 hfl hlr (by omega);obtain⟨y0,y1,y2,y3,y4,y5,y6⟩:=aP e3;have HH3:Hid (_/\_/\_):=⟨e3,mD,Xz⟩
 clear e0 sg BV HH2 e3 mD Xz b3 hld z2;go_wp2_with fail;refine hwo.mono ?_;rintro e w4 ⟨F,aO,K,rfl,hD,hK,b4⟩;obtain⟨e3,mD,Xz⟩:=HH3.out;obtain⟨jI,hS,hf,hN,hM,q0,hk0⟩:=HH.out;have zb4:=b4.size;have e4:=(b4.block w.heap.size (by omega)).trans e3;have XA:=mD.below b4;have Zg:=Xz.trans (b4.mono (by omega));have lG:=hS.lt
 have DR:=D4 W H n dp kd ps pv G N cap fl w.heap.size (w1.heap.size+1) F aO K S (.slice (some ⟨w1.heap.size,0,none⟩) 0 M) w4 w4 tt fr ((Zg.block _ (aaa jI)).trans jI) (hS.below Zg) (fun _ _=>rfl) hD XA (fun j hj=>by
  rcases hj with rfl|hj
  ·refine⟨by omega,by omega,fun e=>?_⟩;have:w1.heap.size=_:=aaH e;omega
  ·have h1:=hK j hj;refine⟨hD.low j hj,by omega,fun e=>?_⟩;have:w1.heap.size=_:=aaH e
   omega) (by omega) hf hN hcap (by show Pm.raw W H ((n*dp:Nat):Int) ps<=5000000;rw[hM];omega) hch hn hW hH
 obtain⟨y0,y1,y2,y3,y4,y5,y6⟩:=aP e4;have HM:Hid (Pm.raw W H ((n*dp:Nat):Int) ps=(M:Int)):=hM;have HH4:Hid (_):=Zg;clear e3 mD Xz HH3 jI hS hf hN hM q0 hk0 HH e4 XA Zg b4 hD hwo;go_wp2_with fail;refine DR.mono ?_;rintro e w5 ⟨rfl,l,v,g1,g2,g3,g4,g5,g6⟩
 have hst:(convert 36 9 v).run Tryz.prog w5=.ok (.string (bytesOf l)) w5:=by
  have ho:=g1.own;rw[p9 g3]at ho;exact fM ho (by rw[abO])
 have c5:=g1.box.cell
 have HF:Hid (((bytesOf l).size:Int)=Pm.raw W H ((n*dp:Nat):Int) ps/\Pm.Written ⟨W,H,n,dp⟩ S (af (bytesOf l)) fl ps/\Below w.heap.size w w5):=by
  refine⟨by rw[zd];exact g2,by rw[D5 g3];exact g4,HH4.out.trans (g6.below (by omega) (fun k _ e=>?_))⟩;rcases e with e|e
  ·omega
  ·have:w1.heap.size=_:=aaH e;omega
 clear g1 g2 g3 g4 g5 g6 DR HH4;generalize bytesOf l=T at *;go_wp2
 go_ret
 exact⟨T,rfl,HF.out⟩
end Go.Proofs.YtmfijackgekioabGreatDoor
