import Derived.Test.YtmfijackgekioaaGreatDoorQ07
import Derived.BigRegion
import Derived.Laws.OwnMore
import Derived.Deep.AppendLies
import Derived.Lib.AppendStr
set_option maxHeartbeats 2000000
set_option maxRecDepth 100000
namespace Go.Proofs.YtmfijackgekioaaGreatDoor
open Go.RowKit
structure Wr (w:World) (B:Nat) (W:List Int) (pv:Value) (P:List UInt8):Prop where
 blk:w.heap[B]?=some (.cells #[pv,.int .i64 W.length] 181 (0,0))
 own:w.ownsRow (B+1) 5 1 pv P.length (P.map bG)
 hold:Rf.Holds P W
def aB (w:World)(B:Nat)(W:List Int):Prop:=∃pv P,Wr w B W pv P
theorem Wr.lt {w:World}{B:Nat}{W:List Int}{pv:Value}{P:List UInt8}(h:Wr w B W pv P):B<w.heap.size:=aab h.blk
theorem Wr.cells {w:World}{B:Nat}{W:List Int}{pv:Value}{P:List UInt8}(h:Wr w B W pv P): w.cell? ⟨B,0,none⟩=some pv/\w.cell? ⟨B,1,none⟩=some (.int .i64 W.length)/\∀j,w.frozen? ⟨B,j,none⟩=false :=
 ⟨aan _ _ _ _ _ _ h.blk,aan _ _ _ _ _ _ h.blk,fun j=>aaE w B j _ _ h.blk⟩
theorem Wr.drewN {w:World}{B:Nat}{W:List Int}{pv:Value}{P:List UInt8}(h:Wr w B W pv P)(n:Nat):Wr (w.drewN n) B W pv P:=⟨h.blk,h.own,h.hold⟩
theorem Wr.drew {w:World}{B:Nat}{W:List Int}{pv:Value}{P:List UInt8}(h:Wr w B W pv P):Wr w.drew B W pv P:=⟨h.blk,h.own,h.hold⟩
theorem Wr.alloc {w:World}{B:Nat}{W:List Int}{pv:Value}{P:List UInt8}(h:Wr w B W pv P)(o:Obj):Wr (w.alloc o) B W pv P :=
 ⟨aw h.blk o,h.own.alloc o,h.hold⟩
theorem Wr.kept {w w':World}{B:Nat}{W:List Int}{pv:Value}{P:List UInt8}(h:Wr w B W pv P)(k:∀j,B<=j->j<w.heap.size->w'.heap[j]?=w.heap[j]?):Wr w' B W pv P:=by
 refine⟨(k B (aad _) h.lt).trans h.blk,⟨h.own.1,?_⟩,h.hold⟩;rcases h.own.2 with h'|⟨g,cap,cur,rfl,hb,hg,r⟩
 ·exact .inl h'
 ·exact .inr ⟨g,cap,cur,rfl,hb,(k g (by omega) (aab hg)).trans hg,r⟩
theorem H9 {w:World}{base g cap:Nat}{P:List UInt8}(h:w.ownsRow base 5 1 (.slice (some ⟨g,0,none⟩) P.length cap) P.length (P.map bG))(j:Nat)(c:UInt8): (w.setCell ⟨g,j,none⟩ (bG c)).ownsRow base 5 1 (.slice (some ⟨g,0,none⟩) P.length cap) P.length ((P.set j c).map bG):=by
 have:=(h.stored j (bG c)).1
 rwa [List.map_set]
theorem Wr.put {w:World}{B g cap:Nat}{W W':List Int}{P:List UInt8}{c:UInt8}{j:Nat}(hb:w.heap[B]?=some (.cells #[.slice (some ⟨g,0,none⟩) P.length cap,.int .i64 W.length] 181 (0,0)))(ho:w.ownsRow (B+1) 5 1 (.slice (some ⟨g,0,none⟩) P.length cap) P.length (P.map bG))(hh:Rf.Holds (P.set j c) W')(hl:W'.length=W.length+1): Wr ((w.setCell ⟨g,j,none⟩ (bG c)).setCell ⟨B,1,none⟩ (.int .i64 ((W.length:Int)+1))) B W' (.slice (some ⟨g,0,none⟩) P.length cap) (P.set j c) /\ Fr B w ((w.setCell ⟨g,j,none⟩ (bG c)).setCell ⟨B,1,none⟩ (.int .i64 ((W.length:Int)+1))):=by
 have hg:=ho.lt g rfl;have hlt:=aab hb;have e1:(w.setCell ⟨g,j,none⟩ (bG c)).heap[B]?=w.heap[B]?:=aag w ⟨g,j,none⟩ (bG c) B (by show B≠g;omega);refine⟨⟨?_,?_,hh⟩,⟨⟨rfl,rfl,rfl,by simp,?_⟩,?_⟩⟩
 ·refine (aat _ B 1 _ _ _ (e1.trans hb)).trans ?_;rw[hl];simp
 ·have:=aby (H9 ho j c) (a:=⟨B,1,none⟩) (abD B) (.int .i64 ((W.length:Int)+1));rw[aaZ];exact this
 ·intro k hk;exact (aag _ ⟨B,1,none⟩ _ k (by show k≠B;omega)).trans (aag w ⟨g,j,none⟩ _ k (by show k≠g;omega))
 ·intro k h1 h2 h3;refine (aag _ ⟨B,1,none⟩ _ k (by show k≠B;omega)).trans (aag w ⟨g,j,none⟩ _ k ?_);intro e;obtain⟨cur,q⟩:=eU ho g rfl;rw[show k=g from e]at h3;exact h3 _ _ q
theorem OH:∀(x:Fin 256) (k:Fin 8),bits BinOp.or IntKind.u8 ((x.val:Nat):Int) ((2^k.val:Nat):Int)=((x.val|||2^k.val:Nat):Int):=by decide +kernel
theorem or_none:∀(x:Fin 256),bits BinOp.or IntKind.u8 ((x.val:Nat):Int) 0=((x.val:Nat):Int):=by decide +kernel
theorem Db (x:UInt8)(b k:Nat)(hb:b<2)(hk:k<8):Value.int IntKind.u8 (bits BinOp.or IntKind.u8 (x.toNat:Int) (wrap64 ((b:Int)*2^k)%256))=bG (x|||UInt8.ofNat (b*2^k)):=by
 have hp:2^k<=128:=by have:=aa2 (n:=2) (by omega) (show k<=7 by omega);omega
 have hx:=UInt8.toNat_lt x;have hb':b=0\/b=1:=by omega
 have e:wrap64 ((b:Int)*2^k)%256=((b*2^k:Nat):Int):=by
  have e1:((b:Int)*2^k)=((b*2^k:Nat):Int):=by simp
  have e2:b*2^k<=128:=by rcases hb' with rfl|rfl<;>simp<;>omega
  rw[e1];have e3:wrap64 ((b*2^k:Nat):Int)=((b*2^k:Nat):Int):=by unfold wrap64;omega
  rw[e3];omega
 rw[e]
 have e4:(x|||UInt8.ofNat (b*2^k)).toNat=x.toNat|||(b*2^k):=by
  rw[UInt8.toNat_or,acq,abp (by rcases hb' with rfl|rfl<;>simp<;>omega)]
 rw[bG,e4]
 congr 1
 rcases hb' with rfl|rfl
 ·have:=or_none ⟨x.toNat,hx⟩;simpa using this
 ·have:=OH ⟨x.toNat,hx⟩ ⟨k,hk⟩;rw[Nat.one_mul];exact this
theorem Fr.drew {B:Nat}{a w:World}(h:Fr B a w):Fr B a w.drew:=⟨⟨h.below.os,h.below.tape,h.below.output,h.below.size,h.below.block⟩,h.other⟩
theorem zg {w w2:World}{o:Obj}{r:Option Nat}(h:(w.alloc o).grownBy w2 r):w.grownBy w2 r :=
 ⟨h.os,h.tape,h.output,by have:=h.size;simp at this;omega,fun k hk hn=>(h.block k (by simp;omega) hn).trans (aaM w o k hk)⟩
theorem Wr.push {w w2:World}{B:Nat}{W:List Int}{pv v':Value}{P:List UInt8}(h:Wr w B W pv P){t:List UInt8}(hown':w2.ownsRow (B+1) 5 1 v' (P.length+t.length) (P.map bG++t.map bG))(hgrow:w.grownBy w2 pv.ownBlock): (w2.setCell ⟨B,0,none⟩ v').heap[B]?=some (.cells #[v',.int .i64 W.length] 181 (0,0))/\(w2.setCell ⟨B,0,none⟩ v').ownsRow (B+1) 5 1 v' (P++t).length ((P++t).map bG)/\Fr B w (w2.setCell ⟨B,0,none⟩ v') /\ w2.cell? ⟨B,0,none⟩=some pv/\w2.cell? ⟨B,1,none⟩=some (.int .i64 W.length)/\∀j,w2.frozen? ⟨B,j,none⟩=false:=by
 have hlt:=h.lt;have hne:∀k,k<=B->some k≠pv.ownBlock:=fun k hk e=>by have:=(h.own.lt k e.symm).1;omega
 have hblk:∀k,k<w.heap.size->some k≠pv.ownBlock->w2.heap[k]?=w.heap[k]?:=fun k hk hn=>hgrow.block k hk hn;have hB2:w2.heap[B]?=_:=(hblk B hlt (hne B (aad _))).trans h.blk;have hsz:w.heap.size<=w2.heap.size:=hgrow.size;refine⟨(aat w2 B 0 _ _ v' hB2).trans rfl,?_,⟨⟨hgrow.os,hgrow.tape,hgrow.output,by simp;omega,?_⟩,?_⟩,aan _ _ _ _ _ _ hB2,aan _ _ _ _ _ _ hB2,fun j=>aaE w2 B j _ _ hB2⟩
 ·rw[aac,abo];exact aby hown' (abD B) v'
 ·intro k hk;exact (aag w2 ⟨B,0,none⟩ v' k (Nat.ne_of_lt hk)).trans (hblk k (Nat.lt_trans hk hlt) (hne k (aaI hk)))
 ·intro k h1 h2 h3;refine (aag w2 ⟨B,0,none⟩ v' k (Nat.ne_of_gt h1)).trans (hblk k h2 ?_);intro e;obtain⟨cur,q1⟩:=eU h.own k e.symm;exact h3 _ _ q1
theorem Ia (b:Nat)(B:Nat)(W:List Int)(w:World)(h:aB w B W)(hb:b<2)(hW:W.length<=1000000000): Calls Tryz.prog 227 #[.pointer (some ⟨B,0,none⟩),.int .i64 b] w fun e w'=>e=.returned (.tuple #[])/\aB w' B (W++[(b:Int)])/\Fr B w w':=by
 obtain⟨pv,P,h⟩:=h;obtain⟨i0,hi,hz0,hz1,hz2⟩:=aaX Tryz.info5;obtain⟨c0,c1,fz⟩:=h.cells;have hlt:=h.lt;have Nx:=h.hold.1;by_cases h8:W.length%8=0
 ·obtain⟨oa,oc,rfl⟩:=aD h.own;have hb1:Hid (P.length+1<=maxLen/\(P.length+1)*1<=140737488355328):=by show _/\_;unfold maxLen;omega
  have e8:((W.length:Int)%8==0)=true:=by simp;omega
  have hh:=Rf.vr h.hold hb (P++[0]) (by rw[aaf h8]);have HH:Hid (Rf.Holds _ _):=hh;have Ny:Hid (P.length=W.length/8):=by show _=_;omega
  clear hh Nx
  go_enter Tryz.func227,Tryz.ntmps227
  go_wp2_with (at_builtin;(refine aax _ rfl _ _ 107 rfl (B+1) 5 i0 (.int .u8 0) 1 1 Tryz.underlying107 hi hz0 hz1 hz2 rfl (by decide) _ _ _ rfl (h.own.alloc _) ⟨w.heap.size,0,none⟩ 1 1 [.int .u8 0] rfl rfl (aa1 _ _ _) (by intro u hu;simp at hu;subst hu;rfl) hb1.out.1 hb1.out.2 (by simp;omega) ?_);intro v' w6 hown' hgrow _;obtain⟨g,cap,rfl,hgb⟩:=hown'.form (by omega);obtain⟨p1,p2,p3,q1,q3,q2⟩:=h.push (t:=[0]) hown' (zg hgrow));have Sd:(P++[(0:UInt8)]).length=P.length+1:=by simp
  have D0:=aan _ _ 0 _ _ _ p1;have D1:=aan _ _ 1 _ _ _ p1;have Rb:∀j,(w6.setCell ⟨B,0,none⟩ (.slice (some ⟨g,0,none⟩) (P.length+1) cap)).frozen? ⟨B,j,none⟩=false:=fun j=>aaE _ B j _ _ p1;rw[<-Sd]at p1 p2 p3 D0 D1 Rb ⊢;generalize hw7:(w6.setCell ⟨B,0,none⟩ (.slice (some ⟨g,0,none⟩) (P++[(0:UInt8)]).length cap))=w7 at p1 p2 p3 D0 D1 Rb ⊢;have OI:=Ny.out;clear q1 q2 q3 hown' hgrow hw7 hgb h c0 c1 fz hlt e8 hb1 Ny;generalize P++[(0:UInt8)]=P1 at p1 p2 p3 D0 D1 Rb HH Sd ⊢;have hP1:P1.length=W.length/8+1:=by omega
  have hgb:=p2.lt g rfl;have hlt:=aab p1
  have hcell:w7.cell? ⟨g,W.length/8,none⟩=some (bG (P1.getD (W.length/8) 0)):=by
   refine (p2.cellAt (W.length/8) (by omega)).trans ?_;rw[abk,aai (by omega),aaa,aai (by omega)];rfl
  have hfz:∀j,w7.frozen? ⟨g,j,none⟩=false:=fun j=>p2.frozenAt j;have j1:(0:Int)<=(W.length:Int)/8:=by omega
  have j2:(W.length:Int)/8<(P1.length:Int):=by omega
  have j3:((W.length:Int)/8).toNat=W.length/8:=by omega
  have RR:Hid (P1.length=W.length/8+1):=hP1;have H:=Wr.put (w:=w7) p1 p2 HH.out (by simp);rw[aaa]at H;have Hd:Hid (_/\_):=H;have hval:=Db (P1[W.length/8]?.getD 0) b (W.length%8) hb (acj _ (by omega));have Hv:Hid (_=_):=hval;clear hP1 Sd OI h8 H hval HH
  go_region
  rw[Hv.out];have H:=Hd.out;clear Hv Hd;generalize (P1[W.length/8]?.getD 0|||UInt8.ofNat (b*2^(W.length%8)))=c at H ⊢;clear p1 p2 hcell j1 j2 j3;go_wp2
  go_end0
  exact⟨rfl,⟨_,_,H.1.drew⟩,p3.trans H.2.drew⟩
 ·obtain⟨g,cap,rfl,hgb⟩:=h.own.form (by omega)
  have hcell:w.cell? ⟨g,W.length/8,none⟩=some (bG (P.getD (W.length/8) 0)):=by
   refine (h.own.cellAt (W.length/8) (by omega)).trans ?_;rw[abk,aai (by omega),aaa,aai (by omega)];rfl
  have hfz:∀j,w.frozen? ⟨g,j,none⟩=false:=fun j=>h.own.frozenAt j;have e8:((W.length:Int)%8==0)=false:=by simp;omega
  go_enter Tryz.func227,Tryz.ntmps227
  go_wp2;have j1:(0:Int)<=(W.length:Int)/8:=by omega
  have j2:(W.length:Int)/8<(P.length:Int):=by omega
  have j3:((W.length:Int)/8).toNat=W.length/8:=by omega
  go_region
  have hB:w.heap[B]?=some (.cells #[.slice (some ⟨g,0,none⟩) P.length cap,.int .i64 W.length] 181 (0,0)):=h.blk;have hval:=Db (P[W.length/8]?.getD 0) b (W.length%8) hb (acj _ (by omega));rw[hval];have hh:=Rf.vr h.hold hb P (by rw[aae h8]);have H:=Wr.put (w:=w) hB h.own hh (by simp);rw[aaa]at H;generalize (P[W.length/8]?.getD 0|||UInt8.ofNat (b*2^(W.length%8)))=c at H ⊢;clear h hB hval hh j1 j2 j3 hcell Nx h8;go_wp2
  go_end0
  exact⟨rfl,⟨_,_,H.1.drew⟩,H.2.drew⟩
def xb (v:Int):Nat->List Int
 | 0=>[]
 | k+1=>xb v k++[v/2^k%2]
theorem dW (v:Int)(k:Nat):(xb v k).length=k:=by
 induction k with
 | zero=>rfl
 | succ k ih=>rw[xb,aac,ih];rfl
theorem fj (v:Nat)(k:Nat):xb (v:Int) k=Rf.nb v k:=by
 induction k with
 | zero=>rfl
 | succ k ih=>rw[xb,Rf.nb,ih];simp
theorem Ln (v:Int)(k m:Nat)(h:k<m):(v%2^m)/2^k%2=v/2^k%2:=by
 obtain⟨d,rfl⟩:∃d,m=k+(d+1):=⟨m-k-1,by omega⟩
 have e:v=v%2^(k+(d+1))+2^k*(2*(2^d*(v/2^(k+(d+1))))):=by
  have:=Int.emod_add_mul_ediv v (2^(k+(d+1)));rw[show (2:Int)^k*(2*(2^d*(v/2^(k+(d+1)))))=2^(k+(d+1))*(v/2^(k+(d+1))) by rw[Int.pow_add,Int.pow_succ];simp only[Int.mul_assoc,Int.mul_left_comm,Int.mul_comm]];omega
 have hp:(2:Int)^k≠0:=Int.ne_of_gt (Int.pow_pos (by omega))
 conv=>rhs;rw[e]
 rw[Int.add_mul_ediv_left _ _ hp];omega
theorem Dc (v:Int)(m:Nat):∀k,k<=m->xb (v%2^m) k=xb v k
 | 0,_=>rfl
 | k+1,h=>by rw[xb,xb,Dc v m k (by omega),Ln v k m (by omega)]
theorem Lp (n:Nat)(h:n<=65535):xb (-(n:Int)-1) 16=Rf.nb (65535-n) 16:=by
 rw[<-Dc _ 16 16 (aad _),<-fj]
 congr 1
 have:(2:Int)^16=65536:=by decide
 rw[this];omega
theorem Ib (n:Int):bits .and .i64 n 1=n%2:=by
 have h1:(BitVec.ofInt 64 1).toNat=2^1-1:=by decide
 have key:(BitVec.ofInt 64 n&&&BitVec.ofInt 64 1).toNat=(n%((2^64:Nat):Int)).toNat%2^1:=by
  rw[BitVec.toNat_and,BitVec.toNat_ofInt,h1,Nat.and_two_pow_sub_one_eq_mod]
 show IntKind.i64.wrap ((BitVec.ofInt 64 n&&&BitVec.ofInt 64 1).toNat:Nat)=n%2;rw[key,IntKind.wrap_i64];omega
theorem Ic (n:Int):bits .and .u16 n 1=n%2:=by
 have h1:(BitVec.ofInt 16 1).toNat=2^1-1:=by decide
 have key:(BitVec.ofInt 16 n&&&BitVec.ofInt 16 1).toNat=(n%((2^16:Nat):Int)).toNat%2^1:=by
  rw[BitVec.toNat_and,BitVec.toNat_ofInt,h1,Nat.and_two_pow_sub_one_eq_mod]
 show IntKind.u16.wrap ((BitVec.ofInt 16 n&&&BitVec.ofInt 16 1).toNat:Nat)=n%2;rw[key,IntKind.wrap_u16];omega
theorem dX (n:Int)(k:Nat)(B:Nat)(W:List Int)(w:World)(h:aB w B W)(hk:k<=16)(hW:W.length<=900000000): Calls Tryz.prog 209 #[.pointer (some ⟨B,0,none⟩),.int .i64 n,.int .i64 k] w fun e w'=>e=.returned (.tuple #[])/\aB w' B (W++xb n k)/\Fr B w w':=by
 go_enter Tryz.func209,Tryz.ntmps209
 go_wp2
 go_loopw [8] (fun i wr=>∃j:Nat,j<=k/\i=.int .i64 j/\aB wr B (W++xb n j)/\Fr B w wr) (fun i _=>k-(intOf i).toNat)
 case atStart=>exact⟨0,aaj _,rfl,by simpa[xb]using h,Fr.refl _ _⟩
 case round =>
  obtain⟨j,hj,rfl,hw,hf⟩:=hrel;by_cases hlt:j<k
  ·obtain⟨x,hx,hx2⟩:∃x:Nat,n/2^j%2=(x:Int)/\x<2:=⟨(n/2^j%2).toNat,by omega,by omega⟩
   go_wp2_with fail;rw[Ib,hx];refine (Ia x B (W++xb n j) wr hw hx2 (by rw[aac,dW];omega)).mono ?_;rintro e w1 ⟨rfl,hw1,hf1⟩;have HW1:aB w1 B (W++xb n (j+1)):=by rw[xb,<-aaq,hx];exact hw1
   have WH:=hf.trans hf1;clear hw hf hw1 hf1 hx;go_wp2
   go_roundw
   case rel=>exact⟨j+1,by omega,by go_num,HW1,WH⟩
   case measure=>simp[intOf];omega
  ·have hlt':¬(j:Int)<(k:Int):=by omega
   go_wp2
   go_end0
   have:j=k:=by omega
   subst this;exact⟨rfl,hw,hf⟩
abbrev Dd (v n:Nat):Value:=.agg #[.int .u16 v,.int .u16 n]
theorem Lq (c n:Nat)(B:Nat)(W:List Int)(w:World)(h:aB w B W)(hn:n<=15)(hW:W.length<=900000000): Calls Tryz.prog 244 #[.pointer (some ⟨B,0,none⟩),Dd c n] w fun e w'=>e=.returned (.tuple #[])/\aB w' B (W++Rf.cb c n)/\Fr B w w':=by
 have h0:aB (w.alloc (.cells #[.int .u16 c,.int .u16 n] 230)) B W:=by obtain⟨pv,P,h⟩:=h;exact⟨pv,P,h.alloc _⟩
 have hlt:B<w.heap.size:=by obtain⟨pv,P,h⟩:=h;exact h.lt
 have f0:Fr B w (w.alloc (.cells #[.int .u16 c,.int .u16 n] 230)):=⟨(aak _ _).alloc (by omega) _,fun k _ hk _=>aaM _ _ _ hk⟩
 have hB:(w.alloc (.cells #[.int .u16 c,.int .u16 n] 230)).heap[w.heap.size]?=some (.cells #[.int .u16 c,.int .u16 n] 230 (0,0)):=ak _ _
 go_enter Tryz.func244,Tryz.ntmps244
 go_wp2
 go_loopw [4] (fun i wr=>∃(j:Nat) (pre:List Int),j<=n/\i=.int .i64 ((j:Int)-1)/\Hid (pre++Rf.cb c j=Rf.cb c n)/\aB wr B (W++pre)/\Fr B w wr/\Hid (wr.heap[w.heap.size]?=some (.cells #[.int .u16 c,.int .u16 n] 230 (0,0)))) (fun i _=>(intOf i+1).toNat)
 case atStart=>exact⟨n,[],aad _,rfl,rfl,by simpa using h0,f0,hB⟩
 case round =>
  clear h h0 f0 hB;obtain⟨j,pre,hj,rfl,HP,hw,hf,HB⟩:=hrel;obtain⟨c0,c1,fz,Ie⟩:=fq HB.out;cases j with
  | zero =>
   have hlt':¬(((0:Nat):Int)-1≥0):=by omega
   go_wp2
   go_end0
   have:=HP.out;rw[Rf.cb,aa9]at this;exact⟨rfl,by rw[<-this];exact hw,hf⟩
  | succ j =>
   have hj0:(0:Int)<=((j+1:Nat):Int)-1:=by omega
   obtain⟨J,hJ⟩:∃J:Int,J=((j+1:Nat):Int)-1:=⟨_,rfl⟩
   have HJ:Hid (J=(j:Int)):=by show _=_;omega
   have hJ1:J<=15:=by omega
   rw[<-hJ]at hj0 ⊢;clear hJ
   obtain⟨x,hx,hx2⟩:∃x:Nat,wrap64 (bits BinOp.and IntKind.u16 ((c:Int)/2^J.toNat) 1)=(x:Int)/\x<2/\x=c/2^j%2:=by
    have e:J.toNat=j:=by have:=HJ.out;omega
    refine⟨c/2^j%2,?_,by omega,rfl⟩;rw[Ic,e,abM _ (by omega)];simp
   have HX:Hid (_=_):=hx;clear hx;go_wp2_with fail;rw[HX.out]
   refine (Ia x B (W++pre) wr hw hx2.1 (by
    have:=abq List.length HP.out;rw[aac,Rf.fC,Rf.fC]at this
    rw[aac];omega)).mono ?_
   rintro e w1 ⟨rfl,hw1,hf1⟩;have HW1:aB w1 B (W++(pre++[(x:Int)])):=by rw[<-aaq];exact hw1
   have WH:=hf.trans hf1
   have Sd:Hid ((pre++[(x:Int)])++Rf.cb c j=Rf.cb c n):=by
    show _=_;rw[<-HP.out,Rf.cb,hx2.2,aaq];rfl
   have HB1:Hid (w1.heap[w.heap.size]?=some (.cells #[.int .u16 c,.int .u16 n] 230 (0,0))):=by
    show _=_;refine (hf1.other _ hlt Ie (fun cs fr e=>?_)).trans HB.out;rw[HB.out]at e;simp at e
   clear hw hf hw1 hf1 HX HP HB c0 c1 fz;go_wp2
   go_roundw
   case rel=>exact⟨j,_,by omega,by have:=HJ.out;rw[this],Sd,HW1,WH,HB1⟩
   case measure=>simp[intOf];omega
theorem OJ (B:Nat)(W:List Int)(w:World)(h:aB w B W)(hW:W.length<=900000000): Calls Tryz.prog 208 #[.pointer (some ⟨B,0,none⟩)] w fun e w'=>e=.returned (.tuple #[])/\aB w' B (W++List.replicate ((W.length+7)/8*8-W.length) 0)/\Fr B w w':=by
 obtain⟨pv,P,h⟩:=h;obtain⟨c0,c1,fz⟩:=h.cells;have hlt:=h.lt;have hP:=h.hold.1;obtain⟨oa,oc,rfl⟩:=aD h.own;have hh:=Rf.A7 h.hold;rw[show 8*P.length-W.length=(W.length+7)/8*8-W.length by omega]at hh
 have H:Wr (w.setCell ⟨B,1,none⟩ (.int .i64 (8*(P.length:Int)))) B (W++List.replicate ((W.length+7)/8*8-W.length) 0) (.slice oa P.length oc) P:=by
  refine⟨(aat w B 1 _ _ _ h.blk).trans ?_,aby h.own (abD B) _,hh⟩
  have e:((W++List.replicate ((W.length+7)/8*8-W.length) (0:Int)).length:Int)=8*(P.length:Int):=by
   rw[aac,abh];omega
  rw[e];rfl
 have F:Fr B w (w.setCell ⟨B,1,none⟩ (.int .i64 (8*(P.length:Int)))) :=
  Fr.fW (aaI hlt) ((Kp.refl (·=B) w).setCell (p:=⟨B,1,none⟩) (.inl rfl) _)
 have hP2:P.length<=1000000000:=by omega
 have HD:Hid (_/\_):=⟨H,F⟩
 clear H F hh hP h
 go_enter Tryz.func208,Tryz.ntmps208
 go_wp2
 go_end0
 exact⟨rfl,⟨_,_,HD.out.1⟩,HD.out.2⟩
theorem sF (s:ByteArray):Go.Lib.strCells s=s.data.toList.map bG:=by
 simp[Go.Lib.strCells]
theorem Lr (s:ByteArray)(B:Nat)(W:List Int)(w:World)(h:aB w B W)(h8:W.length%8=0)(hW:W.length<=900000000)(hs:s.size<=4500000): Calls Tryz.prog 210 #[.pointer (some ⟨B,0,none⟩),.string s] w fun e w'=>e=.returned (.tuple #[])/\aB w' B (W++Rf.bb s.data.toList)/\Fr B w w':=by
 obtain⟨pv,P,h⟩:=h;obtain⟨i0,hi,hz0,hz1,hz2⟩:=aaX Tryz.info5;obtain⟨c0,c1,fz⟩:=h.cells;have hlt:=h.lt;have hP:=h.hold.1;obtain⟨oa,oc,rfl⟩:=aD h.own;have hh:=Rf.yS h.hold (by omega) s.data.toList;have HH:Hid (Rf.Holds _ _):=hh;have hb1:Hid (P.length+s.size<=maxLen/\P.length+s.size<=140737488355328):=by show _/\_;unfold maxLen;omega
 clear hh hP
 go_enter Tryz.func210,Tryz.ntmps210
 go_wp2_with (at_builtin;(refine Go.Lib.wpList_append_own_string _ rfl _ _ 107 9 rfl (B+1) 5 i0 Tryz.underlying107 Tryz.underlying9 hi hz0 hz1 hz2 _ _ _ rfl h.own s rfl hb1.out.1 hb1.out.2 (by omega) ?_);intro v' w6 hown' hgrow _;obtain⟨ll,j5,rfl⟩:=aD hown';obtain⟨p1,p2,p3,q1,q3,q2⟩:=h.push (t:=s.data.toList) (by rw[<-sF];simpa using hown') hgrow)
 have H:Wr ((w6.setCell ⟨B,0,none⟩ (.slice ll (P.length+s.size) j5)).setCell ⟨B,1,none⟩ (.int .i64 ((W.length:Int)+8*(s.size:Int)))) B (W++Rf.bb s.data.toList) (.slice ll (P.length+s.size) j5) (P++s.data.toList):=by
  refine⟨(aat _ B 1 _ _ _ p1).trans ?_,aby p2 (abD B) _,HH.out⟩
  have e:((W++Rf.bb s.data.toList).length:Int)=(W.length:Int)+8*(s.size:Int):=by
   rw[aac,Rf.m8];have:s.data.toList.length=s.size:=by simp
   omega
  rw[e];rfl
 have F:=p3.trans (Fr.fW (w:=w6.setCell ⟨B,0,none⟩ (.slice ll (P.length+s.size) j5)) (aaI (aab p1)) ((Kp.refl (·=B) _).setCell (p:=⟨B,1,none⟩) (.inl rfl) (.int .i64 ((W.length:Int)+8*(s.size:Int)))))
 go_end0
 exact⟨rfl,⟨_,_,H⟩,F⟩
def jr (w:World)(C:Nat)(t:TypeId)(n:Nat)(f:Nat->Value×Value):Prop :=
 ∃cs,w.heap[C]?=some (.cells cs t (0,0))/\n*2<=cs.size/\∀j,j<n->cs[j*2]?=some (f j).1/\cs[j*2+1]?=some (f j).2
theorem jr.lt {w:World}{C:Nat}{t:TypeId}{n:Nat}{f:Nat->Value×Value}(h:jr w C t n f):C<w.heap.size:=by
 obtain⟨cs,h1,_⟩:=h;exact aab h1
theorem jr.cell {w:World}{C:Nat}{t:TypeId}{n:Nat}{f:Nat->Value×Value}(h:jr w C t n f)(j:Nat)(hj:j<n):w.cell? ⟨C,j*2,none⟩=some (f j).1/\w.cell? ⟨C,j*2+1,none⟩=some (f j).2:=by
 obtain⟨cs,h1,_,h3⟩:=h;rw[d8 h1,d8 h1];exact h3 j hj
theorem jr.frozen {w:World}{C:Nat}{t:TypeId}{n:Nat}{f:Nat->Value×Value}(h:jr w C t n f)(j:Nat):w.frozen? ⟨C,j,none⟩=false:=by
 obtain⟨cs,h1,_⟩:=h;exact aaE w C j _ _ h1
theorem jr.kept {w w':World}{C:Nat}{t:TypeId}{n:Nat}{f:Nat->Value×Value}(h:jr w C t n f)(e:w'.heap[C]?=w.heap[C]?):jr w' C t n f:=by
 obtain⟨cs,h1,h2⟩:=h;exact⟨cs,e.trans h1,h2⟩
theorem jr.congr {w:World}{C:Nat}{t:TypeId}{n:Nat}{f g:Nat->Value×Value}(h:jr w C t n f)(e:∀j,j<n->g j=f j):jr w C t n g:=by
 obtain⟨cs,h1,h2,h3⟩:=h;exact⟨cs,h1,h2,fun j hj=>by rw[e j hj];exact h3 j hj⟩
theorem jr.put {w:World}{C:Nat}{t:TypeId}{n:Nat}{f:Nat->Value×Value}(h:jr w C t n f)(i:Nat)(hi:i<n)(a b:Value): jr ((w.setCell ⟨C,i*2,none⟩ a).setCell ⟨C,i*2+1,none⟩ b) C t n (fun k=>if k=i then (a,b) else f k):=by
 obtain⟨cs,h1,h2,h3⟩:=h;refine⟨_,aat _ C (i*2+1) _ _ b (aat w C (i*2) _ _ a h1),by simp;omega,fun j hj=>?_⟩;simp only[Array.getElem?_setIfInBounds];by_cases e:j=i
 ·subst e;simp;omega
 ·have e1:¬i*2+1=j*2:=by omega
  have e2:¬i*2=j*2:=by omega
  have e3:¬i*2+1=j*2+1:=by omega
  have e4:¬i*2=j*2+1:=by omega
  simp only[e1,e2,e3,e4,e,acA];exact h3 j hj
theorem Bb (w:World)(C i:Nat)(a b:Value):Kp (·=C) w ((w.setCell ⟨C,i*2,none⟩ a).setCell ⟨C,i*2+1,none⟩ b) :=
 ((Kp.refl (·=C) w).setCell (p:=⟨C,i*2,none⟩) (.inl rfl) a).setCell (p:=⟨C,i*2+1,none⟩) (.inl rfl) b
structure zh (kf:Nat) (aN:Array Value) (ls:List Int) (H:Nat) (S:Nat->Prop) (I:World->Nat->Nat->Prop):Prop where
 step:∀w n i,I w n i->n<15->i<ls.length->ls.getD i 0=((n+1:Nat):Int)->Rf.nx ls n i<=32768 ->
  Calls Tryz.prog kf (#[.int .i64 i,Dd (Rf.nx ls n i) (n+1)]++aN) w fun e w'=>e=.returned (.tuple #[])/\I w' n (i+1)/\Kp S w w'
 next:∀w n i,I w n i->ls.getD i 0≠((n+1:Nat):Int)->I w n (i+1)
 row:∀w n,I w n ls.length->I w (n+1) 0
 keep:∀w w' n i,I w n i->Kp (·=H) w w'->I w' n i
 small:∀k,S k->k<H
 call:∀args w,(callFunc kf args).run Tryz.prog w=.ok (.enter kf args) w
theorem Se (kf:Nat)(aN:Array Value)(S:Nat->Prop)(I:World->Nat->Nat->Prop)(ao:Option Addr)(cap:Nat)(ls:List Int)(N:Nat)(w:World)(hN:ls.length=N)(hlen:N<=320)(hint:Ints w ao ls)(ha:∀a,ao=some a->ls≠[]->a.block<w.heap.size/\¬S a.block)(hw:∀j,ls.getD j 0<=15)(hf:Rf.fs ls ls.length<=32768)(hd:zh kf aN ls w.heap.size S I)(hI:I w 0 0): Calls Tryz.prog 196 #[.slice ao N cap,.func (.func kf) #[] aN] w fun e w'=>e=.returned (.tuple #[])/\I w' 15 0/\Kp S w w':=by
 have hS:¬S w.heap.size:=fun h=>Nat.lt_irrefl _ (hd.small _ h)
 go_enter Tryz.func196,Tryz.ntmps196
 go_wp2
 go_loopw [8] (fun v wr=>∃n:Nat,n<=15/\v=.int .i64 n/\Hid (wr.heap[w.heap.size]?=some (.cells #[.int .u16 (Rf.kP ls n:Nat),.int .u16 n] 230 (0,0)))/\Hid (I wr n 0)/\Kp S w wr) (fun v _=>15-(intOf v).toNat)
 case atStart=>exact⟨0,aaj _,rfl,ak w _,hd.keep _ _ _ _ hI ((Kp.refl (·=w.heap.size) w).alloc _),(Kp.refl _ w).alloc _⟩
 case round =>
  clear hI;obtain⟨n,hn,rfl,HC,HF,hkp⟩:=hrel;obtain⟨c0,c1,fz,Ie⟩:=fq HC.out;have hsz:=hkp.size;by_cases hlt:n<15
  ·have hx2:=Rf.EF ls hw hf n hlt;obtain⟨x,hx⟩:∃x:Nat,x=Rf.kP ls n:=⟨_,rfl⟩
   rw[<-hx]at c0 hx2;have ack:decide ((n:Int)<15)=true:=by simp;omega
   go_wp2
   go_loopw [19] (fun v wq=>∃i:Nat,i<=N/\v=.int .i64 i/\Hid (wq.heap[w.heap.size]?=some (.cells #[.int .u16 (Rf.nx ls n i:Nat),.int .u16 ((n:Int)+1)] 230 (0,0)))/\Hid (I wq n i)/\Kp S w wq) (fun v _=>N-(intOf v).toNat)
   case atStart =>
    have e:((Rf.kP ls n:Nat):Int)*2=((Rf.nx ls n 0:Nat):Int):=by show _=((2*Rf.kP ls n:Nat):Int);omega
    refine⟨0,aaj _,rfl,?_,?_,(hkp.setCell (p:=⟨w.heap.size,0,none⟩) (.inr (aad _)) _).setCell (p:=⟨w.heap.size,1,none⟩) (.inr (aad _)) _⟩
    ·rw[e];exact RX (Nw HC.out _) _
    ·exact hd.keep _ _ _ _ HF.out (((Kp.refl (·=w.heap.size) wr).setCell (p:=⟨w.heap.size,0,none⟩) (.inl rfl) _).setCell (p:=⟨w.heap.size,1,none⟩) (.inl rfl) _)
   case round =>
    clear c0 c1 fz Ie HC HF hkp hx hx2 hsz x;obtain⟨i,hi,rfl,HC,HF,hkp⟩:=hrel;obtain⟨c0,c1,fz,Ie⟩:=fq HC.out;have hsz:=hkp.size;by_cases hlt':i<N
    ·obtain⟨b,off,rfl,hc⟩:=hint i (by omega);obtain⟨hb1,hb2⟩:=ha _ rfl (ne_of_lt (show i<ls.length by omega));obtain⟨y,hy⟩:∃y:Int,y=ls[i]:=⟨_,rfl⟩
     have hy2:ls.getD i 0=y:=by rw[hy];simp[List.getD,List.getElem?_eq_getElem (show i<ls.length by omega)]
     have hc2:wr.cell? ⟨b,off+i,none⟩=some (.int .i64 y):=(hkp.cell (p:=⟨b,off+i,none⟩) hb1 hb2).trans (by rw[hc,hy]);have hnx:=Rf.sj ls hw hf n i hlt (by omega);have hnx2:=Rf.sj ls hw hf n (i+1) hlt (by omega);have HY:Hid (ls.getD i 0=y):=hy2;clear hy hy2 hc hint;by_cases hye:y=(n:Int)+1
     ·have HN:Hid (Rf.nx ls n (i+1)=Rf.nx ls n i+1):=by show Rf.pP _ _ _ _+_=_;rw[HY.out,hye,aaf (by omega)]
      have hcall:=hd.step wr n i HF.out hlt (by omega) (by rw[HY.out,hye];omega) hnx;rw[Dd,show ((n+1:Nat):Int)=(n:Int)+1 by omega]at hcall;obtain⟨g,hg⟩:∃g:Nat,g=Rf.nx ls n i:=⟨_,rfl⟩
      rw[HN.out]at hnx2;rw[<-hg]at hcall c0 hnx hnx2;have HG:Hid (g=Rf.nx ls n i):=hg;have HA:Hid (wr.cell? ⟨b,off+i,none⟩=some (.int .i64 ((n:Int)+1))):=by rw[<-hye];exact hc2
      have WI:Hid (y=(n:Int)+1):=hye;clear hg ha hc2 hye;have hc2:=HA.out;clear HA;go_wp2_with fail;rw[hd.call,Oper.upon_enter];refine hcall.mono ?_;rintro e w1 ⟨rfl,hF1,hk1⟩;have Rc:Hid (w1.heap[w.heap.size]?=_):=(hk1.block w.heap.size Ie hS).trans HC.out;obtain⟨d0,d1,Rb,Zr⟩:=fq Rc.out;rw[<-HG.out]at d0;go_wp2
      go_roundw
      case rel =>
       refine⟨i+1,by omega,by go_num,?_,?_,(hkp.trans hk1).setCell (p:=⟨w.heap.size,0,none⟩) (.inr (aad _)) _⟩
       ·rw[HN.out,<-HG.out];exact Nw Rc.out _
       ·exact hd.keep _ _ _ _ hF1 ((Kp.refl (·=w.heap.size) w1).setCell (p:=⟨w.heap.size,0,none⟩) (.inl rfl) _)
      case measure=>simp[intOf];omega
     ·have HN:Hid (Rf.nx ls n (i+1)=Rf.nx ls n i):=by show Rf.pP _ _ _ _+_=_;rw[HY.out,aae (by omega)];rfl
      go_wp2
      go_roundw
      case rel=>exact⟨i+1,by omega,by go_num,by rw[HN.out];exact HC.out,hd.next _ _ _ HF.out (by rw[HY.out];omega),hkp⟩
      case measure=>simp[intOf];omega
    ·have e:i=N:=by omega
     subst e;go_wp2
     go_roundw
     case rel =>
      refine⟨n+1,by omega,by go_num,?_,?_,hkp⟩
      ·have h:=HC.out;rw[<-hN]at h;exact h
      ·have h:=HF.out;rw[<-hN]at h;exact hd.row _ _ h
     case measure=>simp[intOf];omega
  ·have e:n=15:=by omega
   subst e;go_wp2
   go_end0
   exact⟨rfl,HF.out,hkp⟩
theorem Lt (args:Array Value)(w:World):(callFunc 242 args).run Tryz.prog w=.ok (.enter 242 args) w:=by kernel_rfl
def ey (ls:List Int)(n i j:Nat):Value×Value :=
 if (1<=ls.getD j 0/\ls.getD j 0<=(n:Int))\/(ls.getD j 0=((n+1:Nat):Int)/\j<i) then (.int .u16 (Rf.nx ls ((ls.getD j 0).toNat-1) j:Nat),.int .u16 (ls.getD j 0)) else (.int .u16 0,.int .u16 0)
structure j9 (w:World) (Lb C:Nat) (ls:List Int) (n i:Nat):Prop where
 box:w.heap[Lb]?=some (.cells #[.slice (some ⟨C,0,none⟩) ls.length ls.length] 257 (0,0))
 row:jr w C 230 ls.length (ey ls n i)
theorem j9.kept {w w':World}{Lb C:Nat}{ls:List Int}{n i:Nat}(h:j9 w Lb C ls n i)(h1:w'.heap[Lb]?=w.heap[Lb]?)(h2:w'.heap[C]?=w.heap[C]?):j9 w' Lb C ls n i:=⟨h1.trans h.box,h.row.kept h2⟩
theorem zi (ls:List Int)(n i j:Nat)(h:ls.getD i 0≠((n+1:Nat):Int)):ey ls n (i+1) j=ey ls n i j:=by
 unfold ey;by_cases e:j=i
 ·subst e
  have a:((1<=ls.getD j 0/\ls.getD j 0<=(n:Int))\/(ls.getD j 0=((n+1:Nat):Int)/\j<j+1))↔((1<=ls.getD j 0/\ls.getD j 0<=(n:Int))\/(ls.getD j 0=((n+1:Nat):Int)/\j<j)):=by
   constructor
   ·rintro (q|q)
    ·exact .inl q
    ·exact absurd q.1 h
   ·rintro (q|q)
    ·exact .inl q
    ·omega
  simp only[a]
 ·have a:j<i+1↔j<i:=by omega
  simp only[a]
theorem Bc (ls:List Int)(n j:Nat)(hj:j<ls.length):ey ls (n+1) 0 j=ey ls n ls.length j:=by
 unfold ey;have a:((1<=ls.getD j 0/\ls.getD j 0<=((n+1:Nat):Int))\/(ls.getD j 0=((n+1+1:Nat):Int)/\j<0))↔((1<=ls.getD j 0/\ls.getD j 0<=(n:Int))\/(ls.getD j 0=((n+1:Nat):Int)/\j<ls.length)):=by omega
 simp only[a]
theorem Be (ls:List Int)(n i j:Nat)(h:ls.getD i 0=((n+1:Nat):Int)): (if j=i then (Value.int .u16 (Rf.nx ls n i:Nat),Value.int .u16 ((n+1:Nat):Int)) else ey ls n i j)=ey ls n (i+1) j:=by
 by_cases e:j=i
 ·subst e;unfold ey;rw[aaf rfl,aaf (.inr ⟨h,by omega⟩),h];rfl
 ·rw[aae e];unfold ey;have a:j<i+1↔j<i:=by omega
  simp only[a]
theorem OL (Lb C:Nat)(ls:List Int)(n i:Nat)(w:World)(h:j9 w Lb C ls n i)(hi:i<ls.length)(hl:ls.getD i 0=((n+1:Nat):Int)): Calls Tryz.prog 242 #[.int .i64 i,Dd (Rf.nx ls n i) (n+1),.pointer (some ⟨Lb,0,none⟩)] w fun e w'=>e=.returned (.tuple #[])/\j9 w' Lb C ls n (i+1)/\Kp (·=C) w w':=by
 obtain⟨x0,x1⟩:=h.row.cell i hi;have hfz:=fun j=>h.row.frozen j;have ol:w.cell? ⟨Lb,0,none⟩=some (.slice (some ⟨C,0,none⟩) ls.length ls.length):=aan _ _ _ _ _ _ h.box;have WJ:=h.row.lt;have Sf:=aab h.box
 have hne:Lb≠C:=by
  intro e;obtain⟨cs,h1,_⟩:=h.row;have:=h.box;rw[e,h1]at this;simp at this
 go_enter Tryz.func242,Tryz.ntmps242
 go_wp2;have H:=h.row.put i hi (.int .u16 (Rf.nx ls n i:Nat)) (.int .u16 ((n:Int)+1));have K:=Bb w C i (.int .u16 (Rf.nx ls n i:Nat)) (.int .u16 ((n:Int)+1));have e1:((n+1:Nat):Int)=(n:Int)+1:=by omega
 have HR:jr ((w.setCell ⟨C,i*2,none⟩ (.int .u16 (Rf.nx ls n i:Nat))).setCell ⟨C,i*2+1,none⟩ (.int .u16 ((n:Int)+1))) C 230 ls.length (ey ls n (i+1)) :=
  H.congr (fun j _=>by rw[<-Be ls n i j hl,e1])
 go_end0
 exact⟨rfl,⟨aw ((K.block Lb Sf hne).trans h.box) _,HR.kept (aaM _ _ _ HR.lt)⟩,K.alloc _⟩
theorem Fr.kept {B:Nat}{w w':World}(h:Fr B w w'){k:Nat}(hk:k≠B){cs:Array Value}{t:TypeId}{fr:Nat×Nat}(hb:w.heap[k]?=some (.cells cs t fr))(ht:t≠5):w'.heap[k]?=w.heap[k]?:=by
 have hlt:=aab hb;rcases Nat.lt_or_gt_of_ne hk with q|q
 ·exact h.below.block k q
 ·refine h.other k q hlt (fun c fr' e=>?_);rw[hb]at e;simp at e;exact ht e.2.1
structure eV (w:World) (fv:Value) (B:Nat) (ls:List Int) (lo:Nat):Prop where
 val:∃WB Lb C,fv=.func (.func 243) #[] #[.pointer (some ⟨WB,0,none⟩),.pointer (some ⟨Lb,0,none⟩)]/\w.heap[WB]?=some (.cells #[.pointer (some ⟨B,0,none⟩)] 179 (0,0))/\j9 w Lb C ls 15 0/\WB≠B/\Lb≠B/\C≠B/\lo<=WB/\lo<=Lb/\lo<=C
 len:ls.length<=320
 Nz:∀j,0<=ls.getD j 0/\ls.getD j 0<=15
theorem eV.fr {w w':World}{fv:Value}{B lo:Nat}{ls:List Int}(h:eV w fv B ls lo)(k:Fr B w w'):eV w' fv B ls lo:=by
 obtain⟨⟨WB,Lb,C,h1,h2,h3,n1,n2,n3,r⟩,h4,h5⟩:=h;obtain⟨cs,c1,c2⟩:=h3.row;exact⟨⟨WB,Lb,C,h1,(k.kept n1 h2 (by decide)).trans h2,h3.kept (k.kept n2 h3.box (by decide)) (k.kept n3 c1 (by decide)),n1,n2,n3,r⟩,h4,h5⟩
theorem eV.below {w w':World}{fv:Value}{B lo:Nat}{ls:List Int}(h:eV w fv B ls lo)(k:Below w.heap.size w w'):eV w' fv B ls lo:=by
 obtain⟨⟨WB,Lb,C,h1,h2,h3,r⟩,h4,h5⟩:=h;exact⟨⟨WB,Lb,C,h1,(k.block _ (aab h2)).trans h2,h3.kept (k.block _ (aab h3.box)) (k.block _ h3.row.lt),r⟩,h4,h5⟩
theorem eV.kept {w w':World}{fv:Value}{B lo:Nat}{ls:List Int}{S:Nat->Prop}(h:eV w fv B ls lo)(k:Kp S w w')(hS:∀j,S j->j<lo):eV w' fv B ls lo:=by
 obtain⟨⟨WB,Lb,C,h1,h2,h3,n1,n2,n3,m1,m2,m3⟩,h4,h5⟩:=h;have ne:∀j,lo<=j->¬S j:=fun j hj hs=>by have:=hS j hs;omega
 exact⟨⟨WB,Lb,C,h1,(k.block _ (aab h2) (ne _ m1)).trans h2,h3.kept (k.block _ (aab h3.box) (ne _ m2)) (k.block _ h3.row.lt (ne _ m3)),n1,n2,n3,m1,m2,m3⟩,h4,h5⟩
theorem eV.weak {w:World}{fv:Value}{B lo lo':Nat}{ls:List Int}(h:eV w fv B ls lo)(hl:lo'<=lo):eV w fv B ls lo':=by
 obtain⟨⟨WB,Lb,C,h1,h2,h3,n1,n2,n3,m1,m2,m3⟩,h4,h5⟩:=h;exact⟨⟨WB,Lb,C,h1,h2,h3,n1,n2,n3,by omega,by omega,by omega⟩,h4,h5⟩
theorem EY (ls:List Int)(j:Nat)(h:0<=ls.getD j 0/\ls.getD j 0<=15):∃c n:Nat,ey ls 15 0 j=(.int .u16 c,.int .u16 n)/\n<=15/\Rf.cb c n=Rf.a8 ls j:=by
 unfold ey;by_cases h0:1<=ls.getD j 0
 ·rw[aaf (.inl ⟨h0,by omega⟩)];exact⟨_,(ls.getD j 0).toNat,by rw[show (((ls.getD j 0).toNat:Nat):Int)=ls.getD j 0 by omega],by omega,rfl⟩
 ·have e:ls.getD j 0=0:=by omega
  rw[aae (by omega)];exact⟨0,0,rfl,by omega,by rw[Rf.a8,e];rfl⟩
theorem sG (i:Nat)(x:Int)(k:Nat)(WB Lb C:Nat)(ls:List Int)(B:Nat)(W:List Int)(w:World)(h2:w.heap[WB]?=some (.cells #[.pointer (some ⟨B,0,none⟩)] 179 (0,0)))(h3:j9 w Lb C ls 15 0)(hn:WB≠B)(h5:∀j,0<=ls.getD j 0/\ls.getD j 0<=15)(h:aB w B W)(hi:i<ls.length)(hk:k<=16)(hW:W.length<=800000000): Calls Tryz.prog 243 #[.int .i64 i,.int .i64 x,.int .i64 k,.pointer (some ⟨WB,0,none⟩),.pointer (some ⟨Lb,0,none⟩)] w fun e w'=>e=.returned (.tuple #[])/\aB w' B (W++(Rf.a8 ls i++xb x k))/\Fr B w w':=by
 obtain⟨x0,x1⟩:=h3.row.cell i hi;have hfz:=fun j=>h3.row.frozen j;have ol:w.cell? ⟨Lb,0,none⟩=some (.slice (some ⟨C,0,none⟩) ls.length ls.length):=aan _ _ _ _ _ _ h3.box;have hwb:w.cell? ⟨WB,0,none⟩=some (.pointer (some ⟨B,0,none⟩)):=aan _ _ _ _ _ _ h2;have WJ:=h3.row.lt;have Sf:=aab h3.box;have hltW:=aab h2;obtain⟨c,n,hc,WK,hcb⟩:=EY ls i (h5 i);rw[hc]at x0 x1;have hcl:(Rf.a8 ls i).length=n:=by rw[<-hcb,Rf.fC]
 have EZ:Hid (Rf.cb c n=Rf.a8 ls i):=hcb;clear hc hcb
 go_enter Tryz.func243,Tryz.ntmps243
 go_wp2
 go_region_with ((go_at_call 244;refine (Lq c n B W _ ?_ WK (by omega)).mono ?_;obtain⟨pv,P,h⟩:=h;exact⟨pv,P,h.drew⟩;rintro e w1 ⟨rfl,hw1,hf1⟩))
 all_goals
  have acl:w1.cell? ⟨WB,0,none⟩=some (.pointer (some ⟨B,0,none⟩)):=aan _ _ _ _ _ _ ((hf1.kept (k:=WB) hn h2 (by decide)).trans h2);have hf0:=(Fr.refl B w).drew.trans hf1;go_wp2_with fail;refine (dX x k B (W++Rf.cb c n) w1 hw1 hk (by rw[aac,Rf.fC];omega)).mono ?_;rintro e w2 ⟨rfl,hw2,hf2⟩;go_wp2
  go_end0
  exact⟨rfl,by rw[<-EZ.out,<-aaq];exact hw2,hf0.trans hf2⟩
theorem xd (args:Array Value)(w:World):(callFunc 243 args).run Tryz.prog w=.ok (.enter 243 args) w:=by kernel_rfl
theorem Tryz.infoCode:(Tryz.prog.info? 230).map (fun i=>(i.zero,i.size,i.bytes))=some (some (.agg #[.int .u16 0,.int .u16 0]),2,4):=by kernel_rfl
theorem Ig (a b:Value)(n j:Nat)(hj:j<n):(madeCells #[a,b] (n*2))[j*2]?=some a/\(madeCells #[a,b] (n*2))[j*2+1]?=some b:=by
 unfold madeCells;constructor
 ·rw[Array.getElem?_map,Array.getElem?_eq_getElem (by simp;omega)];simp
 ·rw[Array.getElem?_map,Array.getElem?_eq_getElem (by simp;omega)];have:(j*2+1)%2=1:=by omega
  simp[this]
theorem Bf (n:Nat)(hn:n<=320)(cs:Array Value)(hc:cs=madeCells #[.int .u16 0,.int .u16 0] (n*2))(u:World): (Instr.makeSlice 257 (.int .i64 (n:Int)) (.int .i64 (n:Int))).run Tryz.prog u=.ok (.slice (some ⟨u.heap.size,0,none⟩) n n) (u.alloc (.cells cs 230)):=by
 obtain⟨i0,hi,hz0,hz1,hz2⟩:=aaX Tryz.infoCode;have h:=run_make (P:=Tryz.prog) u 257 230 i0 (.agg #[.int .u16 0,.int .u16 0]) Tryz.underlying257 hi hz0 .i64 .i64 (n:Int) (n:Int) (by omega) (abj _) (by rw[hz2];omega) (by omega);rw[hc];simpa[hz1,Value.cells]using h
theorem js (B:Nat)(ao:Option Addr)(cap:Nat)(ls:List Int)(N:Nat)(w:World)(hN:ls.length=N)(hlen:N<=320)(hint:Ints w ao ls)(ha:∀a,ao=some a->ls≠[]->a.block<w.heap.size)(hw:∀j,0<=ls.getD j 0/\ls.getD j 0<=15)(hf:Rf.fs ls ls.length<=32768)(hB:B<w.heap.size): Calls Tryz.prog 231 #[.pointer (some ⟨B,0,none⟩),.slice ao N cap] w fun e w'=>∃fv,e=.returned fv/\eV w' fv B ls w.heap.size/\Below w.heap.size w w':=by
 subst hN;obtain⟨cs,hcs⟩:∃cs,cs=madeCells #[.int .u16 0,.int .u16 0] (ls.length*2):=⟨_,rfl⟩
 have hmk:=Bf ls.length hlen cs hcs;have hcz:cs.size=ls.length*2:=by rw[hcs,size_madeCells]
 have hc2:∀j,j<ls.length->cs[j*2]?=some (.int .u16 0)/\cs[j*2+1]?=some (.int .u16 0):=fun j hj=>by rw[hcs];exact Ig _ _ _ j hj
 have Zs:Hid (_/\_):=⟨hcz,hc2⟩
 clear hcs hcz hc2
 go_enter Tryz.func231,Tryz.ntmps231
 go_wp2_with fail
 have hb3:Below w.heap.size w (((w.alloc (.cells #[.pointer (some ⟨B,0,none⟩)] 179)).alloc (.cells cs 230)).alloc (.cells #[.slice (some ⟨w.heap.size+1,0,none⟩) ls.length ls.length] 257)) :=
  (((aak _ _).alloc (aad _) _).alloc (by simp) _).alloc (by simp;omega) _
 have hL:j9 (((w.alloc (.cells #[.pointer (some ⟨B,0,none⟩)] 179)).alloc (.cells cs 230)).alloc (.cells #[.slice (some ⟨w.heap.size+1,0,none⟩) ls.length ls.length] 257)) (w.heap.size+1+1) (w.heap.size+1) ls 0 0:=by
  refine⟨?_,cs,?_,by rw[Zs.out.1];omega,fun j hj=>?_⟩
  ·have:=ak ((w.alloc (.cells #[.pointer (some ⟨B,0,none⟩)] 179)).alloc (.cells cs 230)) (.cells #[.slice (some ⟨w.heap.size+1,0,none⟩) ls.length ls.length] 257);simpa only[aaC]using this
  ·have:=ak (w.alloc (.cells #[.pointer (some ⟨B,0,none⟩)] 179)) (.cells cs 230);rw[aaC]at this;exact aw this _
  ·have e:ey ls 0 0 j=(.int .u16 0,.int .u16 0):=by
    unfold ey;rw[aae (by have:=hw j;omega)]
   rw[e];exact Zs.out.2 j hj
 have hWB:(((w.alloc (.cells #[.pointer (some ⟨B,0,none⟩)] 179)).alloc (.cells cs 230)).alloc (.cells #[.slice (some ⟨w.heap.size+1,0,none⟩) ls.length ls.length] 257)).heap[w.heap.size]?=some (.cells #[.pointer (some ⟨B,0,none⟩)] 179 (0,0)) :=
  aw (aw (ak w _) _) _
 have hsz:(((w.alloc (.cells #[.pointer (some ⟨B,0,none⟩)] 179)).alloc (.cells cs 230)).alloc (.cells #[.slice (some ⟨w.heap.size+1,0,none⟩) ls.length ls.length] 257)).heap.size=w.heap.size+1+1+1:=by simp only[aaC]
 generalize (((w.alloc (.cells #[.pointer (some ⟨B,0,none⟩)] 179)).alloc (.cells cs 230)).alloc (.cells #[.slice (some ⟨w.heap.size+1,0,none⟩) ls.length ls.length] 257))=w3 at *
 have hdo:zh 242 #[.pointer (some ⟨w.heap.size+1+1,0,none⟩)] ls w3.heap.size (·=w.heap.size+1) (fun u n i=>j9 u (w.heap.size+1+1) (w.heap.size+1) ls n i):=by
  refine⟨fun u n i hI _ hi hl _=>OL _ _ ls n i u hI hi hl,fun u n i hI hl=>⟨hI.box,hI.row.congr (fun j _=>zi ls n i j hl)⟩,fun u n hI=>⟨hI.box,hI.row.congr (fun j hj=>Bc ls n j hj)⟩,fun u u' n i hI k=>?_,fun k hk=>by omega,Lt⟩;exact hI.kept (k.block _ (aab hI.box) (by omega)) (k.block _ hI.row.lt (by omega))
 refine (Se 242 _ _ _ ao cap ls ls.length w3 rfl hlen (hint.below hb3 (fun a e h=>ha a e h)) (fun a e h=>⟨by have:=ha a e h;omega,by have:=ha a e h;omega⟩) (fun j=>(hw j).2) hf hdo hL).mono ?_;rintro e w4 ⟨rfl,hL4,k4⟩;go_wp2
 go_ret
 refine⟨_,rfl,⟨⟨_,_,_,rfl,(k4.block _ (by omega) (by omega)).trans hWB,hL4,by omega,by omega,by omega,by omega,by omega,by omega⟩,hlen,hw⟩,hb3.trans (k4.below (by omega) (fun k _ hk=>by omega))⟩
end Go.Proofs.YtmfijackgekioaaGreatDoor
