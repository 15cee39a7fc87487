import Derived.Test.YtmfijackgekioaaGreatDoorQ02
set_option maxHeartbeats 2000000
set_option maxRecDepth 100000
namespace Go.Proofs.YtmfijackgekioaaGreatDoor
open Go.RowKit
structure dk (w:World) (B:Nat) (L:List Int) (ao:Option Addr) (cap:Nat) (limit:Int) (st:Rf.St) (ov kv:Value):Prop where
 blk:w.heap[B]?=some (.cells #[.slice ao L.length cap,.int .i64 st.pos,.int .i64 limit,.bool st.bad,.bool st.full,ov,kv] 109 (0,0))
 hl:Ints w ao L
 hla:∀a,ao=some a->L≠[]->a.block<B
 hb:Rf.Bits L
 hpos:st.pos<=L.length
 hlen:L.length<=40000000
 h8:L.length%8=0
 ho:w.ownsRow (B+1) 5 1 ov st.out.length (st.out.map bG)
 hk:w.ownsRow (B+1) 3 1 kv st.kinds.length (vals st.kinds)
theorem dk.drewN {w:World}{B:Nat}{L:List Int}{ao:Option Addr}{cap:Nat}{limit:Int}{st:Rf.St}{ov kv:Value}(h:dk w B L ao cap limit st ov kv)(n:Nat):dk (w.drewN n) B L ao cap limit st ov kv :=
 ⟨h.blk,h.hl,h.hla,h.hb,h.hpos,h.hlen,h.h8,h.ho,h.hk⟩
theorem dk.set {w:World}{B:Nat}{L:List Int}{ao:Option Addr}{cap:Nat}{limit:Int}{st:Rf.St}{ov kv:Value}(h:dk w B L ao cap limit st ov kv)(j:Nat)(u:Value)(st':Rf.St)(hcs:(#[.slice ao L.length cap,.int .i64 st.pos,.int .i64 limit,.bool st.bad,.bool st.full,ov,kv]:Array Value).setIfInBounds j u=#[.slice ao L.length cap,.int .i64 st'.pos,.int .i64 limit,.bool st'.bad,.bool st'.full,ov,kv])(ho:st'.out=st.out)(hk:st'.kinds=st.kinds)(hp:st'.pos<=L.length):dk (w.setCell ⟨B,j,none⟩ u) B L ao cap limit st' ov kv:=by
 refine⟨(aat w B j _ _ u h.blk).trans (by rw[hcs]),?_,h.hla,h.hb,hp,h.hlen,h.h8,?_,?_⟩
 ·intro k hk';obtain⟨b,off,rfl,hc⟩:=h.hl k hk';exact⟨b,off,rfl,(aaT (aag w ⟨B,j,none⟩ u b (Nat.ne_of_lt (h.hla _ rfl (ne_of_lt hk'))))).trans hc⟩
 ·rw[ho];exact aby h.ho (abD B) u
 ·rw[hk];exact aby h.hk (abD B) u
theorem dk.cells {w:World}{B:Nat}{L:List Int}{ao:Option Addr}{cap:Nat}{limit:Int}{st:Rf.St}{ov kv:Value}(h:dk w B L ao cap limit st ov kv): w.cell? ⟨B,0,none⟩=some (.slice ao L.length cap)/\w.cell? ⟨B,1,none⟩=some (.int .i64 st.pos)/\w.cell? ⟨B,2,none⟩=some (.int .i64 limit)/\w.cell? ⟨B,3,none⟩=some (.bool st.bad) /\ w.cell? ⟨B,4,none⟩=some (.bool st.full)/\w.cell? ⟨B,5,none⟩=some ov/\w.cell? ⟨B,6,none⟩=some kv/\∀j,w.frozen? ⟨B,j,none⟩=false :=
 ⟨aan _ _ _ _ _ _ h.blk,aan _ _ _ _ _ _ h.blk,aan _ _ _ _ _ _ h.blk,aan _ _ _ _ _ _ h.blk,aan _ _ _ _ _ _ h.blk,aan _ _ _ _ _ _ h.blk,aan _ _ _ _ _ _ h.blk,fun j=>aaE w B j _ _ h.blk⟩
theorem pM (B:Nat)(L:List Int)(ao:Option Addr)(cap:Nat)(limit:Int)(st:Rf.St)(ov kv:Value)(w:World)(hr:dk w B L ao cap limit st ov kv): Calls Tryz.prog 78 #[.pointer (some ⟨B,0,none⟩)] w fun e w'=>e=.returned (.bool (st.bad||st.full))/\w'=w:=by
 obtain⟨c0,c1,c2,c3,c4,c5,c6,fz⟩:=hr.cells;cases hb:st.bad
 all_goals
  rw[hb]at c3
  go_enter Tryz.func78,Tryz.ntmps78
  go_wp2
  go_ret
  exact⟨rfl,rfl⟩
theorem dV (n B:Nat)(L:List Int)(ao:Option Addr)(cap:Nat)(limit:Int)(st:Rf.St)(ov kv:Value)(w:World)(hr:dk w B L ao cap limit st ov kv)(hn:n<=16): Calls Tryz.prog 79 #[.pointer (some ⟨B,0,none⟩),.int .i64 n] w fun e w'=>e=.returned (.int .i64 (Rf.take L st n).1)/\dk w' B L ao cap limit (Rf.take L st n).2 ov kv/\Kp (·=B) w w':=by
 obtain⟨c0,c1,c2,c3,c4,c5,c6,fz⟩:=hr.cells;have hp:=hr.hpos;have hl:=hr.hlen;by_cases h:L.length<st.pos+n
 ·have h':(L.length:Int)<(st.pos:Int)+(n:Int):=by omega
  have HT:Hid (Rf.take L st n=(0,{ st with bad:=true })):=by show _=_;rw[Rf.take,aaf h]
  have HR:Hid (∀m,dk ((w.drewN m).setCell ⟨B,3,none⟩ (.bool true)) B L ao cap limit { st with bad:=true } ov kv):=fun m=>(hr.drewN m).set 3 (.bool true) _ rfl rfl rfl hp
  go_enter Tryz.func79,Tryz.ntmps79
  go_wp2
  go_quiet (fail)
  go_wp2
  go_ret
  rw[HT.out];exact⟨rfl,HR.out _,((Kp.refl _ w).drewN _).set1 _ _⟩
 ·have h':(st.pos:Int)+(n:Int)<=(L.length:Int):=by omega
  have HT:Hid (Rf.take L st n=(Rf.bv L st.pos n,{ st with pos:=st.pos+n })):=by show _=_;rw[Rf.take,aae h]
  go_enter Tryz.func79,Tryz.ntmps79
  go_wp2
  go_quiet (fail)
  go_wp2
  go_loopw [5,6] (fun v i wr=>∃k:Nat,k<=n/\i=.int .i64 k/\v=.int .i64 (Rf.bv L st.pos k)/\∃m,wr=w.drewN m) (fun _ i _=>n-(intOf i).toNat)
  case atStart=>exact⟨0,aaj _,rfl,rfl,_,rfl⟩
  case round =>
   obtain⟨k,hk,rfl,rfl,m,rfl⟩:=hrel;by_cases hlt:k<n
   ·obtain⟨b,off,rfl,hc⟩:=hr.hl (st.pos+k) (by omega);have h01:=hr.hb (st.pos+k);have hbv:=Rf.rO hr.hb st.pos k;have hpw:=u9 k (by omega);obtain⟨x,hx⟩:∃x:Int,x=L[st.pos+k]:=⟨_,rfl⟩
    have hx2:L.getD (st.pos+k) 0=x:=by rw[hx];simp[List.getD,List.getElem?_eq_getElem (show st.pos+k<L.length by omega)]
    rw[<-hx]at hc;rw[hx2]at h01;obtain⟨y,hy⟩:∃y:Int,y=x*2^k:=⟨_,rfl⟩
    have hyr:0<=y/\y<=32768:=by rcases h01 with h0|h0<;>rw[hy,h0]<;>omega
    have w1:IntKind.i64.wrap (x*2^k)=y:=by rw[<-hy];exact aah _ (by omega)
    have w2:wrap64 (x*2^k)=y:=by rw[<-hy];exact abM _ (by omega)
    have HV:Hid (Rf.bv L st.pos (k+1)=Rf.bv L st.pos k+y):=by show _=_;rw[Rf.bv,hx2,hy]
    have hq:0<=Rf.bv L st.pos k/\Rf.bv L st.pos k<=65536:=by omega
    have j1:(st.pos:Int)+(k:Int)<(L.length:Int):=by omega
    clear hx hx2 hy hpw hbv h01;go_wp2
    go_quiet (fail)
    go_wp2
    go_roundw
    case rel=>exact⟨k+1,by omega,by go_num,by rw[HV.out],_,rfl⟩
    case measure=>simp[intOf];omega
   ·have hkn:k=n:=by omega
    subst hkn;have HR:Hid (∀m,dk ((w.drewN m).setCell ⟨B,1,none⟩ (.int .i64 ((st.pos:Int)+k))) B L ao cap limit { st with pos:=st.pos+k } ov kv):=fun m=>(hr.drewN m).set 1 _ _ rfl rfl rfl (by show st.pos+k<=_;omega);go_wp2
    go_ret
    rw[HT.out];exact⟨rfl,HR.out _,((Kp.refl _ w).drewN _).set1 _ _⟩
theorem AX (n B:Nat)(L:List Int)(ao:Option Addr)(cap:Nat)(limit:Int)(st:Rf.St)(ov kv:Value)(w:World)(hr:dk w B L ao cap limit st ov kv)(hn:n<=65535)(hout:st.out.length<=4611686018427387904): Calls Tryz.prog 110 #[.pointer (some ⟨B,0,none⟩),.int .i64 n] w fun e w'=>e=.returned (.bool (Rf.room limit st n).1)/\dk w' B L ao cap limit (Rf.room limit st n).2 ov kv/\Kp (·=B) w w':=by
 obtain⟨c0,c1,c2,c3,c4,c5,c6,fz⟩:=hr.cells;obtain⟨oa,oc,rfl⟩:=aD hr.ho;by_cases h0:0<n
 ·have h0':(0:Int)<(n:Int):=by omega
  by_cases h:limit<(st.out.length:Int)+n
  ·have HT:Hid (Rf.room limit st n=(false,{ st with full:=true })):=by show _=_;rw[Rf.room,aaf ⟨h0,h⟩]
   have HR:Hid (∀m,dk ((w.drewN m).setCell ⟨B,4,none⟩ (.bool true)) B L ao cap limit { st with full:=true } (.slice oa st.out.length oc) kv):=fun m=>(hr.drewN m).set 4 (.bool true) _ rfl rfl rfl hr.hpos
   go_enter Tryz.func110,Tryz.ntmps110
   go_wp2
   go_quiet (fail)
   go_wp2
   go_ret
   rw[HT.out];exact⟨rfl,HR.out _,((Kp.refl _ w).drewN _).set1 _ _⟩
  ·have HT:Hid (Rf.room limit st n=(true,st)):=by show _=_;rw[Rf.room,aae (by omega)]
   go_enter Tryz.func110,Tryz.ntmps110
   go_wp2
   go_quiet (fail)
   go_wp2
   go_ret
   rw[HT.out];exact⟨rfl,hr.drewN _,(Kp.refl _ w).drewN _⟩
 ·have HT:Hid (Rf.room limit st n=(true,st)):=by show _=_;rw[Rf.room,aae (by omega)]
  have h0':decide ((0:Int)<(n:Int))=false:=by simp;omega
  go_enter Tryz.func110,Tryz.ntmps110
  go_wp2
  go_quiet (fail)
  go_wp2
  go_ret
  rw[HT.out];exact⟨rfl,hr.drewN _,(Kp.refl _ w).drewN _⟩
theorem wM (ao:Option Addr)(cap:Nat)(ls:List Int)(n:Nat)(w:World)(hn0:ls.length=n)(hn:n<=320)(hint:Ints w ao ls)(ha:∀a,ao=some a->ls≠[]->a.block<w.heap.size): Calls Tryz.prog 111 #[.slice ao n cap] w fun e w'=>e=.returned (.slice (some ⟨w.heap.size,0,none⟩) n n)/\w'.heap[w.heap.size]?=some (.cells (vals (Rf.codes ls)).toArray 3 (0,0))/\Below w.heap.size w w':=by
 obtain⟨Z,hZ⟩:∃Z:List Value,Z=List.replicate n (.int .i64 0):=⟨_,rfl⟩
 have hmk:=iE n hn Z hZ;have HZ:Hid (Z=vals (Rf.cOut ls 0).out):=by show _=_;rw[hZ,Rf.cOut,hn0,aX]
 clear hZ
 go_enter Tryz.func111,Tryz.ntmps111
 go_wp2
 go_loopw [4,5,6] (fun x y i wr=>∃m:Nat,m<=15/\i=.int .i64 ((m:Int)+1)/\x=.int .i64 (Rf.cOut ls m).next/\y=.int .i64 (Rf.cOut ls m).last/\Hid (wr.heap[w.heap.size]?=some (.cells (vals (Rf.cOut ls m).out).toArray 3 (0,0)))/\Below w.heap.size w wr) (fun _ _ i _=>16-(intOf i).toNat)
 case atStart=>exact⟨0,by omega,rfl,rfl,rfl,(ak w _).trans (by rw[HZ.out]),(aak _ _).alloc (aad _) _⟩
 case round =>
  clear hmk;obtain⟨m,hm,rfl,rfl,rfl,HG,hb⟩:=hrel;by_cases hlt:m<15
  ·go_wp2
   go_loopw [4,5,7] (fun x y i wr=>∃k:Nat,k<=n/\i=.int .i64 k/\x=.int .i64 (Rf.iX ls (m+1) (Rf.cOut ls m) k).next/\y=.int .i64 (Rf.iX ls (m+1) (Rf.cOut ls m) k).last/\Hid (wr.heap[w.heap.size]?=some (.cells (vals (Rf.iX ls (m+1) (Rf.cOut ls m) k).out).toArray 3 (0,0)))/\Below w.heap.size w wr) (fun _ _ i _=>n-(intOf i).toNat)
   case atStart=>exact⟨0,aaj _,rfl,rfl,rfl,HG,hb⟩
   case round =>
    clear HG hb;obtain⟨k,hk,rfl,rfl,rfl,HG,hb⟩:=hrel;by_cases hlt2:k<n
    ·obtain⟨b,off,rfl,hc⟩:=hint k (by omega);have hc':wr.cell? ⟨b,off+k,none⟩=some (.int .i64 ls[k]):=(hb.cell (p:=⟨b,off+k,none⟩) (ha ⟨b,off,none⟩ rfl (ne_of_lt (show k<ls.length by omega)))).trans hc;obtain⟨x,hx⟩:∃x:Int,x=ls[k]:=⟨_,rfl⟩
     have hx2:ls.getD k 0=x:=by rw[hx];simp[List.getD,List.getElem?_eq_getElem (show k<ls.length by omega)]
     rw[<-hx]at hc';have hsm:=Rf.KV ls m k hlt (by omega) (by omega)
     have HC:Hid (Rf.iX ls (m+1) (Rf.cOut ls m) (k+1)=if x=((m+1:Nat):Int) then { next:=(Rf.iX ls (m+1) (Rf.cOut ls m) k).next*2^(m+1-(Rf.iX ls (m+1) (Rf.cOut ls m) k).last)+1,last:=m+1,out:=(Rf.iX ls (m+1) (Rf.cOut ls m) k).out.set k ((Rf.iX ls (m+1) (Rf.cOut ls m) k).next*2^(m+1-(Rf.iX ls (m+1) (Rf.cOut ls m) k).last):Nat) } else Rf.iX ls (m+1) (Rf.cOut ls m) k):=by
      show _=_;rw[<-hx2];rfl
     have hol:(Rf.iX ls (m+1) (Rf.cOut ls m) k).out.length=n:=by rw[Rf.n9,Rf.lz,hn0]
     clear hc hx hx2;generalize Rf.iX ls (m+1) (Rf.cOut ls m) k=c at *;obtain⟨s1,s2,s3⟩:=hsm;by_cases heq:x=(m:Int)+1
     ·have heq':(x==(m:Int)+1)=true:=abs.2 heq;obtain⟨y,hy⟩:∃y:Nat,y=c.next*2^(m+1-c.last):=⟨_,rfl⟩
      have hg:=HG.out;have c1:wr.cell? ⟨w.heap.size,k,none⟩=some (.int .i64 (c.out.getD k 0)):=(aan _ _ _ _ _ _ hg).trans (by simp[vals,List.getD,List.getElem?_eq_getElem (show k<c.out.length by omega)]);have f1:wr.frozen? ⟨w.heap.size,k,none⟩=false:=aaE wr _ _ _ _ hg;have hyb:y<=157286400:=by rw[hy];exact s3
      have w1:wrap64 ((c.next:Int)*2^(m+1-c.last))=(y:Int):=by
       have e:((c.next:Int)*2^(m+1-c.last))=(y:Int):=by rw[hy];simp
       rw[e];exact abM _ (by omega)
      have K5:Hid (Rf.iX ls (m+1) (Rf.cOut ls m) (k+1)={ next:=y+1,last:=m+1,out:=c.out.set k (y:Int) }):=by
       show _=_;rw[HC.out,aaf (by omega),<-hy]
      have HN:Hid ((wr.setCell ⟨w.heap.size,k,none⟩ (.int .i64 (y:Int))).heap[w.heap.size]?=some (.cells (vals (c.out.set k (y:Int))).toArray 3 (0,0))/\Below w.heap.size w (wr.setCell ⟨w.heap.size,k,none⟩ (.int .i64 (y:Int)))) :=
       ⟨by rw[aat _ _ _ _ _ _ hg,yC],hb.setCell (aad _) _⟩
      clear hg hy s3;go_wp2
      go_roundw
      case rel=>exact⟨k+1,by omega,by go_num,by rw[K5.out];go_num,by rw[K5.out];go_num,by rw[K5.out];exact HN.out.1,HN.out.2⟩
      case measure=>simp[intOf];omega
     ·have heq':(x==(m:Int)+1)=false:=aam.2 heq;go_wp2
      go_roundw
      case rel=>exact⟨k+1,by omega,by go_num,by rw[HC.out,aae (by omega)],by rw[HC.out,aae (by omega)],by rw[HC.out,aae (by omega)];exact HG,hb⟩
      case measure=>simp[intOf];omega
    ·have hkn:k=n:=by omega
     subst hkn;have HE:Hid (Rf.cOut ls (m+1)=Rf.iX ls (m+1) (Rf.cOut ls m) k):=by show _=_;rw[Rf.cOut,hn0]
     go_wp2
     go_roundw
     case rel=>exact⟨m+1,by omega,by go_num,by rw[HE.out],by rw[HE.out],by rw[HE.out];exact HG,hb⟩
     case measure=>simp[intOf];omega
  ·have hm2:m=15:=by omega
   subst hm2;go_wp2
   go_ret
   exact⟨rfl,HG.out,hb⟩
theorem Apart.later {w w':World}{B:Nat}{ao:Option Addr}{ls:List Int}(h:Apart w B ao ls)(hk:Kp (·=B) w w'):Apart w' B ao ls :=
 ⟨fun j hj=>by
  obtain⟨b,off,rfl,hc⟩:=h.ints j hj;have hn:=h.ne _ rfl (ne_of_lt hj);exact⟨b,off,rfl,(hk.cell (p:=⟨b,off+j,none⟩) hn.2 hn.1).trans hc⟩,
  fun a e e2=>⟨(h.ne a e e2).1,aar (h.ne a e e2).2 hk.size⟩⟩
theorem se (a1 a2:Option Addr)(c1 c2 n B:Nat)(ls cd L:List Int)(ao:Option Addr)(cap:Nat)(limit:Int)(st:Rf.St)(ov kv:Value)(w:World)(hr:dk w B L ao cap limit st ov kv)(hl1:ls.length=n)(hl2:cd.length=n)(hn:n<=320)(hA1:Apart w B a1 ls)(hA2:Apart w B a2 cd): Calls Tryz.prog 112 #[.pointer (some ⟨B,0,none⟩),.slice a1 n c1,.slice a2 n c2] w fun e w'=>e=.returned (.int .i64 (Rf.symbol L ls cd st).1)/\dk w' B L ao cap limit (Rf.symbol L ls cd st).2 ov kv/\Kp (·=B) w w':=by
 have a9:=hr.hb
 go_enter Tryz.func112,Tryz.ntmps112
 go_wp2
 go_loopw [7,8] (fun x i wr=>∃(f m:Nat) (v:Int) (st':Rf.St),f+m=15/\i=.int .i64 ((m:Int)+1)/\x=.int .i64 v/\(0<=v/\v<2^m)/\dk wr B L ao cap limit st' ov kv/\Kp (·=B) w wr/\Hid (Rf.gW L ls cd f m v st'=Rf.symbol L ls cd st)) (fun _ i _=>16-(intOf i).toNat)
 case atStart=>exact⟨15,0,0,st,rfl,rfl,rfl,by simp,hr,Kp.refl _ _,rfl⟩
 case round =>
  obtain⟨f,m,v,st',hfm,rfl,rfl,hv,hr',hkp,HF⟩:=hrel;have hpm:=YtmfijackgekioaaGreatDoor.u9 m (by omega);cases f with
  | zero =>
   have hm:m=15:=by omega
   subst hm;obtain⟨d0,d1,d2,d3,d4,d5,d6,fz⟩:=hr'.cells;have HR:Hid (dk (wr.setCell ⟨B,3,none⟩ (.bool true)) B L ao cap limit { st' with bad:=true } ov kv):=hr'.set 3 (.bool true) _ rfl rfl rfl hr'.hpos;go_wp2
   go_ret
   rw[<-HF.out];exact⟨rfl,HR.out,hkp.set1 _ _⟩
  | succ f =>
   have hm:m<15:=by omega
   go_wp2_with fail;refine (dV 1 B L ao cap limit st' ov kv _ hr' (by omega)).mono ?_;rintro e w1 ⟨rfl,hr1,hk1⟩;have h01:=Rf.take_one a9 st';have HS:Hid (Rf.gW L ls cd (f+1) m v st'=if (Rf.take L st' 1).2.bad then (0,(Rf.take L st' 1).2) else match Rf.find ls cd ((m:Int)+1) (2*v+(Rf.take L st' 1).1) with|some i=>((i:Int),(Rf.take L st' 1).2)|none=>Rf.gW L ls cd f (m+1) (2*v+(Rf.take L st' 1).1) (Rf.take L st' 1).2):=rfl;have oP:=hkp.trans hk1;clear hkp hk1 hr';generalize (Rf.take L st' 1).1=k at *;generalize (Rf.take L st' 1).2=st1 at *;obtain⟨d0,d1,d2,d3,d4,d5,d6,fz⟩:=hr1.cells;cases hbad:st1.bad
   ·rw[hbad]at d3 HS;have B1:=hA1.later oP;have B2:=hA2.later oP;have hv1:0<=2*v+k/\2*v+k<2^(m+1):=by rw[CO];omega
    have hv2:2*v+k<=65536:=by rw[CO]at hv1;omega
    have hv3:2*v<=65536:=by omega
    go_wp2
    go_loop [10] (fun i=>∃j:Nat,j<=n/\i=.int .i64 j/\Hid (Rf.cA ls cd ((m:Int)+1) (2*v+k) (n-j) j=Rf.find ls cd ((m:Int)+1) (2*v+k))) (fun i=>n-(intOf i).toNat)
    case atStart=>exact⟨0,aaj _,rfl,by show _=_;rw[Rf.find,hl1];rfl⟩
    case round =>
     obtain⟨j,hj,rfl,HJ⟩:=hrel;by_cases hlt:j<n
     ·obtain⟨b1,o1,rfl,e1⟩:=B1.ints j (by omega);obtain⟨b2,o2,rfl,e2⟩:=B2.ints j (by omega);obtain⟨x,hx⟩:∃x:Int,x=ls[j]:=⟨_,rfl⟩
      obtain⟨y,hy⟩:∃y:Int,y=cd[j]:=⟨_,rfl⟩
      have hx2:ls.getD j 0=x:=by rw[hx];simp[List.getD,List.getElem?_eq_getElem (show j<ls.length by omega)]
      have hy2:cd.getD j 0=y:=by rw[hy];simp[List.getD,List.getElem?_eq_getElem (show j<cd.length by omega)]
      rw[<-hx]at e1;rw[<-hy]at e2;have HX:Hid (ls.getD j 0=x/\cd.getD j 0=y):=⟨hx2,hy2⟩
      clear hx hy hx2 hy2;by_cases h1:x=(m:Int)+1
      ·have h1':(x==(m:Int)+1)=true:=abs.2 h1;have H1:Hid (x=(m:Int)+1):=h1;clear h1;by_cases h2:y=2*v+k
       ·have h2':(y==2*v+k)=true:=abs.2 h2;have H2:Hid (y=2*v+k):=h2;clear h2;go_wp2
        go_ret
        have hf:Rf.find ls cd ((m:Int)+1) (2*v+k)=some j:=by
         rw[<-HJ.out,show n-j=(n-j-1)+1 by omega];exact Rf.KW _ _ _ _ _ _ ⟨HX.out.1.trans H1.out,HX.out.2.trans H2.out⟩
        rw[<-HF.out,HS.out,hf];exact⟨rfl,hr1,oP⟩
       ·have h2':(y==2*v+k)=false:=aam.2 h2;go_wp2
        go_round
        case rel=>exact⟨j+1,by omega,by go_num,by show _=_;rw[<-HJ.out,show n-j=(n-(j+1))+1 by omega,Rf.CL _ _ _ _ _ _ (fun h=>h2 (HX.out.2.symm.trans h.2))]⟩
        case measure=>simp[intOf];omega
      ·have h1':(x==(m:Int)+1)=false:=aam.2 h1;go_wp2
       go_round
       case rel=>exact⟨j+1,by omega,by go_num,by show _=_;rw[<-HJ.out,show n-j=(n-(j+1))+1 by omega,Rf.CL _ _ _ _ _ _ (fun h=>h1 (HX.out.1.symm.trans h.1))]⟩
       case measure=>simp[intOf];omega
     ·have hf:Rf.find ls cd ((m:Int)+1) (2*v+k)=none:=by
       rw[<-HJ.out,show n-j=0 by omega];rfl
      have cz:Hid (Rf.gW L ls cd f (m+1) (2*v+k) st1=Rf.symbol L ls cd st):=by
       show _=_;rw[<-HF.out,HS.out,hf];rfl
      clear hf HF HS HJ;go_wp2
      go_roundw
      case rel=>exact⟨f,m+1,2*v+k,st1,by omega,by go_num,rfl,hv1,hr1,oP,cz⟩
      case measure=>simp[intOf];omega
   ·rw[hbad]at d3 HS;go_wp2
    go_ret
    rw[<-HF.out,HS.out];exact⟨rfl,hr1,oP⟩
theorem dk.lt {w:World}{B:Nat}{L:List Int}{ao:Option Addr}{cap:Nat}{limit:Int}{st:Rf.St}{ov kv:Value}(h:dk w B L ao cap limit st ov kv):B<w.heap.size:=aab h.blk
theorem dk.push {w w2:World}{B:Nat}{L:List Int}{ao:Option Addr}{cap:Nat}{limit:Int}{st:Rf.St}{ov kv v':Value}(h:dk w B L ao cap limit st ov kv)(o:Obj)(c:UInt8)(hown':w2.ownsRow (B+1) 5 1 v' (st.out.length+1) (st.out.map bG++[bG c]))(hgrow:(w.alloc o).grownBy w2 ov.ownBlock): dk (w2.setCell ⟨B,5,none⟩ v') B L ao cap limit { st with out:=st.out++[c] } v' kv/\Fr B w (w2.setCell ⟨B,5,none⟩ v'):=by
 have hlt:=h.lt;have hne:∀k,k<=B->some k≠ov.ownBlock:=fun k hk e=>by have:=(h.ho.lt k e.symm).1;omega
 have hblk:∀k,k<w.heap.size->some k≠ov.ownBlock->w2.heap[k]?=w.heap[k]?:=fun k hk hn=>(hgrow.block k (by simp;omega) hn).trans (aaM w o k hk);have hB2:w2.heap[B]?=_:=(hblk B hlt (hne B (aad _))).trans h.blk;have hsz:w.heap.size<=w2.heap.size:=by have:=hgrow.size;simp at this;omega
 refine⟨⟨(aat w2 B 5 _ _ v' hB2).trans rfl,?_,h.hla,h.hb,h.hpos,h.hlen,h.h8,?_,?_⟩,⟨⟨hgrow.os,hgrow.tape,hgrow.output,by simp;omega,?_⟩,?_⟩⟩
 ·intro k hk;obtain⟨b,off,rfl,hc⟩:=h.hl k hk;have hb:=h.hla _ rfl (ne_of_lt hk);have e1:(w2.setCell ⟨B,5,none⟩ v').heap[b]?=w.heap[b]?:=(aag w2 ⟨B,5,none⟩ v' b (Nat.ne_of_lt hb)).trans (hblk b (Nat.lt_trans hb hlt) (hne b (aaI hb)));exact⟨b,off,rfl,(aaT (w:=w) e1).trans hc⟩
 ·have:(st.out++[c]).map bG=st.out.map bG++[bG c]:=by simp
  rw[show ({ st with out:=st.out++[c] }:Rf.St).out=st.out++[c] from rfl,this,aac];exact aby hown' (abD B) v'
 ·refine aby (((h.hk.alloc o).kept hgrow ?_)) (abD B) v';cases hkv:kv.ownBlock with
  | none=>exact .inl rfl
  | some g =>
   right
   intro e;obtain⟨cur,q1⟩:=eU h.hk g hkv;obtain⟨Wq,q2⟩:=eU h.ho g e.symm;rw[q1]at q2;simp at q2
 ·intro k hk;exact (aag w2 ⟨B,5,none⟩ v' k (Nat.ne_of_lt hk)).trans (hblk k (Nat.lt_trans hk hlt) (hne k (aaI hk)))
 ·intro k h1 h2 h3;refine (aag w2 ⟨B,5,none⟩ v' k (Nat.ne_of_gt h1)).trans (hblk k h2 ?_);intro e;obtain⟨cur,q1⟩:=eU h.ho k e.symm;exact h3 _ _ q1
theorem dk.grown {w w2:World}{B:Nat}{L:List Int}{ao:Option Addr}{cap:Nat}{limit:Int}{st:Rf.St}{ov kv:Value}(h:dk w B L ao cap limit st ov kv)(o:Obj)(hgrow:(w.alloc o).grownBy w2 ov.ownBlock): w2.cell? ⟨B,5,none⟩=some ov/\w2.frozen? ⟨B,5,none⟩=false/\w2.heap[B]?=w.heap[B]?:=by
 have hlt:=h.lt;have e:w2.heap[B]?=w.heap[B]?:=(hgrow.block B (by simp;omega) (fun e=>by have:=(h.ho.lt B e.symm).1;omega)).trans (aaM w o B hlt);have hB:=e.trans h.blk;exact⟨aan _ _ _ _ _ _ hB,aaE w2 B 5 _ _ hB,e⟩
theorem CS (B:Nat)(L:List Int)(ao:Option Addr)(cap:Nat)(limit:Int)(st:Rf.St)(ov kv:Value)(w:World)(hr:dk w B L ao cap limit st ov kv)(hout:Hid (st.out.length<=11000000000)): Calls Tryz.prog 80 #[.pointer (some ⟨B,0,none⟩)] w fun e w'=>e=.returned (.tuple #[])/\(∃pN,dk w' B L ao cap limit (Rf.plain L limit st) pN kv)/\Fr B w w':=by
 obtain⟨i0,hi,hz0,hz1,hz2⟩:=aaX Tryz.info5;obtain⟨c0,c1,c2,c3,c4,c5,c6,fz⟩:=hr.cells;have a9:=hr.hb;have hp:=hr.hpos;have hl:=hr.hlen;have h8:=hr.h8;have hlt:=hr.lt
 have r1:dk (w.setCell ⟨B,1,none⟩ (.int .i64 (((st.pos:Int)+7)/8*8))) B L ao cap limit { st with pos:=(st.pos+7)/8*8 } ov kv :=
  hr.set 1 _ _ (by simp) rfl rfl (by show (st.pos+7)/8*8<=_;omega)
 have hk0:Kp (·=B) w (w.setCell ⟨B,1,none⟩ (.int .i64 (((st.pos:Int)+7)/8*8))):=(Kp.refl _ w).set1 _ _;obtain⟨PL,RO⟩:∃PL,PL=Rf.plain L limit st:=⟨_,rfl⟩
 have HQ:Hid (Rf.plain L limit st=PL):=RO.symm;unfold Rf.plain at RO;simp only at RO;have HP:Hid (PL=_):=RO;clear RO;generalize hs1:({ st with pos:=(st.pos+7)/8*8 }:Rf.St)=st1 at *;have ho1:st1.out=st.out:=by rw[<-hs1]
 clear hs1
 go_enter Tryz.func80,Tryz.ntmps80
 go_wp2_with fail;refine (dV 16 B L ao cap limit st1 ov kv _ r1 (by omega)).mono ?_;rintro e w1 ⟨rfl,r2,k2⟩;have hA:=Rf.take_range a9 st1 16;have RP:=(Rf.bY L st1 16).1;generalize Rf.take L st1 16=A at *;obtain⟨a,st2⟩:=A;simp only at hA RP r2 HP ⊢;go_wp2_with fail;refine (dV 16 B L ao cap limit st2 ov kv _ r2 (by omega)).mono ?_;rintro e w2 ⟨rfl,r3,k3⟩;have hB:=Rf.take_range a9 st2 16;have RQ:=(Rf.bY L st2 16).1;generalize Rf.take L st2 16=A at *;obtain⟨b,eL⟩:=A;simp only at hB RQ r3 HP ⊢;have hk3:=(hk0.trans k2).trans k3;clear hk0 k2 k3 r1 r2 c0 c1 c2 c3 c4 c5 c6 fz;obtain⟨c0,c1,c2,c3,c4,c5,c6,fz⟩:=r3.cells;have hA':a<65536:=by omega
 have hB':b<65536:=by omega
 by_cases hab:a+b=65535
 ·have hab':(a+b != 65535)=false:=by simp[hab]
  rw[aaf hab]at HP;clear hab;cases hbad:eL.bad
  ·rw[hbad]at c3 HP;simp only[abl,acA]at HP;obtain⟨n,rfl⟩:=aaO hA.1;rw[aa5]at HP;go_wp2_with fail;refine (AX n B L ao cap limit eL ov kv _ r3 (by omega) (by rw[RQ,RP,ho1];have:=hout.out;omega)).mono ?_;rintro e w3 ⟨rfl,r4,k4⟩;have VE:=Rf.iC limit eL n;generalize Rf.room limit eL n=R at *;obtain⟨ok,aT⟩:=R;simp only at VE r4 HP ⊢;have hk4:=hk3.trans k4;have AY:=Fr.fW (aaI hlt) hk4;have Gw:Hid (aT.out.length<=11000000000):=by show _<=_;rw[VE.1,RQ,RP,ho1];exact hout.out
   clear hk3 k4 r3 c0 c1 c2 c3 c4 c5 c6 fz hk4;cases ok
   ·simp only[abl,acA]at HP;go_wp2;clear VE RQ RP ho1 hab' hA hB hA' hB' hl hp h8 hbad
    go_loopw [5] (fun i wr=>i=.int .i64 0/\wr=w3) (fun _ _=>0)
    case atStart=>exact⟨rfl,rfl⟩
    case round =>
     obtain⟨rfl,rfl⟩:=hrel;go_wp2_with fail
     all_goals go_end0
     all_goals exact⟨rfl,⟨ov,by rw[HQ.out,HP.out];exact r4⟩,AY⟩
   ·simp only[if_true]at HP;go_wp2
    go_loopw [5] (fun i wr=>∃(k:Nat) (st':Rf.St) (pN:Value),k<=n/\i=.int .i64 k/\dk wr B L ao cap limit st' pN kv/\Fr B w wr/\Hid (Rf.yu L (n-k) st'=PL)/\Hid (st'.out.length<=11000000000+k)) (fun i _=>n-(intOf i).toNat)
    case atStart=>exact⟨0,aT,ov,aaj _,rfl,r4,AY,HP.out.symm,Gw⟩
    case round =>
     have hn6:(n:Int)<=65535:=by omega
     clear r4 AY Gw VE RQ RP ho1 hab' hA hB hA' hB' hl hp h8 hbad;obtain⟨k,st',pN,hk,rfl,r5,f5,HF,Gx⟩:=hrel;obtain⟨d0,d1,d2,d3,d4,d5,d6,fz⟩:=r5.cells;by_cases hlt2:k<n
     ·cases CT:st'.bad
      ·rw[CT]at d3
       have cz:Hid (Rf.yu L (n-(k+1)) { (Rf.take L st' 8).2 with out:=(Rf.take L st' 8).2.out++[UInt8.ofNat (Rf.take L st' 8).1.toNat] }=PL):=by
        show _=_;rw[<-HF.out,show n-k=(n-(k+1))+1 by omega,Rf.yu,CT];rfl
       have hT:=Rf.take_range a9 st' 8;have Ws:=(Rf.bY L st' 8).1;go_wp2_with fail;refine (dV 8 B L ao cap limit st' pN kv _ r5 (by omega)).mono ?_;rintro e w5 ⟨rfl,r6,k6⟩;have f6:=f5.trans (Fr.fW (aaI r5.lt) k6);generalize Rf.take L st' 8=T at *;obtain⟨c,K6⟩:=T;simp only at hT Ws r6 cz ⊢;have hT':c<256:=by omega
       clear r5 f5 k6 HF d0 d1 d2 d3 d4 d5 d6 fz;obtain⟨d0,d1,d2,d3,d4,d5,d6,fz⟩:=r6.cells;have hl6:=r6.lt;have Zm:Hid (K6.out.length+1<=11000000000+(k+1)):=by show _<=_;rw[Ws];have:=Gx.out;omega
       have Zn:Hid (K6.out.length+1<=maxLen/\(K6.out.length+1)*1<=140737488355328):=by have:=Zm.out;show _/\_;unfold maxLen;omega
       clear Ws;obtain⟨oa,oc,rfl⟩:=aD r6.ho;go_wp2_with (at_builtin;(refine aax _ rfl _ _ 107 rfl (B+1) 5 i0 (.int .u8 0) 1 1 Tryz.underlying107 hi hz0 hz1 hz2 rfl (by decide) _ _ _ rfl (r6.ho.alloc _) ⟨w5.heap.size,0,none⟩ 1 1 [.int .u8 c] rfl rfl (aa1 _ _ _) (by intro u hu;simp at hu;subst hu;rfl) Zn.out.1 Zn.out.2 (by simp;omega) ?_);intro v' w6 hown' hgrow _;obtain⟨q1,q2,_⟩:=r6.grown _ hgrow;obtain⟨ll,j5,rfl⟩:=aD hown');have R7:=r6.push (.cells #[.int .u8 c] 5) (UInt8.ofNat c.toNat) (by rw[byte_of c ⟨hT.1,hT'⟩];exact hown') hgrow;have f7:=f6.trans R7.2;have R8:=R7.1
       go_roundw
       case rel=>exact⟨k+1,_,_,by omega,by go_num,R8,f7,cz,by simpa[Hid]using Zm⟩
       case measure=>simp[intOf];omega
      ·rw[CT]at d3
       have cz:Hid (st'=PL):=by
        show _=_;rw[<-HF.out,show n-k=(n-(k+1))+1 by omega,Rf.yu,CT];rfl
       go_wp2
       go_end0
       exact⟨rfl,⟨pN,by rw[HQ.out,<-cz.out];exact r5⟩,f5⟩
     ·have cz:Hid (st'=PL):=by
       show _=_;rw[<-HF.out,show n-k=0 by omega];rfl
      go_wp2
      go_end0
      exact⟨rfl,⟨pN,by rw[HQ.out,<-cz.out];exact r5⟩,f5⟩
  ·rw[hbad]at c3 HP;go_wp2;exact aal (abe rfl _ _ _) rfl ⟨rfl,⟨ov,by rw[HQ.out,HP.out];exact r3⟩,Fr.fW (aaI hlt) hk3⟩
 ·have hab':(a+b != 65535)=true:=by simp[hab]
  rw[aae hab]at HP;have HR:Hid (dk (w2.setCell ⟨B,3,none⟩ (.bool true)) B L ao cap limit { eL with bad:=true } ov kv):=r3.set 3 (.bool true) _ rfl rfl rfl r3.hpos;go_wp2;exact aal (abe rfl _ _ _) rfl ⟨rfl,⟨ov,by rw[HQ.out,HP.out];exact HR.out⟩,Fr.fW (aaI hlt) (hk3.set1 _ _)⟩
theorem AZ (ao:Option Addr)(cap:Nat)(ls:List Int)(n:Nat)(w:World)(hn0:ls.length=n)(hn:n<=320)(hint:Ints w ao ls)(hrg:∀j,ls.getD j 0<=15): Calls Tryz.prog 114 #[.slice ao n cap] w fun e w'=>e=.returned (.bool (Rf.full ls))/\w'=w:=by
 go_enter Tryz.func114,Tryz.ntmps114
 go_wp2
 go_loop [3,4] (fun s i=>∃k:Nat,k<=n/\i=.int .i64 k/\s=.int .i64 (Rf.fs ls k)) (fun _ i=>n-(intOf i).toNat)
 case atStart=>exact⟨0,aaj _,rfl,rfl⟩
 case round =>
  obtain⟨k,hk,rfl,rfl⟩:=hrel;have hfs:=Rf.Np ls k;by_cases hlt:k<n
  ·obtain⟨b,off,rfl,hc⟩:=hint k (by omega);obtain⟨x,hx⟩:∃x:Int,x=ls[k]:=⟨_,rfl⟩
   have hx2:ls.getD k 0=x:=by rw[hx];simp[List.getD,List.getElem?_eq_getElem (show k<ls.length by omega)]
   have K8:x<=15:=by rw[<-hx2];exact hrg k
   rw[<-hx]at hc;have HF:Hid (Rf.fs ls (k+1)=Rf.fs ls k+if 0<x then 32768/2^x.toNat else 0):=by show _=_;rw[<-hx2];rfl
   have ve:(Rf.fs ls k:Int)<=10485760:=by omega
   clear hx hx2 hrg hfs;by_cases h0:0<x
   ·obtain⟨y,hy⟩:∃y:Nat,y=32768/2^x.toNat:=⟨_,rfl⟩
    have hyb:y<=32768:=by rw[hy];exact Nat.div_le_self _ _
    have e1:(32768:Int)/2^x.toNat=(y:Int):=by rw[hy];simp
    have e2:(32768:Int)/2^min x.toNat 64=(y:Int):=by rw[Nat.min_eq_left (by omega)];exact e1
    have cz:Hid (Rf.fs ls (k+1)=Rf.fs ls k+y):=by show _=_;rw[HF.out,aaf h0,<-hy]
    clear hy HF;go_wp2
    go_round
    case rel=>exact⟨k+1,by omega,by go_num,by rw[cz.out];go_num⟩
    case measure=>simp[intOf];omega
   ·have cz:Hid (Rf.fs ls (k+1)=Rf.fs ls k):=by show _=_;rw[HF.out,aae h0];rfl
    clear HF;go_wp2
    go_round
    case rel=>exact⟨k+1,by omega,by go_num,by rw[cz.out]⟩
    case measure=>simp[intOf];omega
  ·have hkn:k=n:=by omega
   subst hkn;go_wp2
   go_ret
   refine⟨aG ?_,rfl⟩;rw[Rf.full,hn0,aa3];simp;omega
theorem CU (w:World): Calls Tryz.prog 81 #[] w fun e w'=>∃g,e=.returned (.tuple #[.slice (some ⟨w.heap.size,0,none⟩) 288 288,.slice (some ⟨g,0,none⟩) 32 32])/\aR w' w.heap.size Rf.bE/\aR w' g Rf.jl/\w.heap.size<g/\Below w.heap.size w w':=by
 obtain⟨Z,hZ⟩:∃Z:List Value,Z=List.replicate 288 (.int .i64 0):=⟨_,rfl⟩
 obtain⟨Y,hY⟩:∃Y:List Value,Y=List.replicate 32 (.int .i64 0):=⟨_,rfl⟩
 have hmk:∀u:World,(Instr.makeSlice 24 (.int .i64 288) (.int .i64 288)).run Tryz.prog u=.ok (.slice (some ⟨u.heap.size,0,none⟩) 288 288) (u.alloc (.cells Z.toArray 3)):=fun u=>iE 288 (by omega) Z hZ u;have Wt:∀u:World,(Instr.makeSlice 24 (.int .i64 32) (.int .i64 32)).run Tryz.prog u=.ok (.slice (some ⟨u.heap.size,0,none⟩) 32 32) (u.alloc (.cells Y.toArray 3)):=fun u=>iE 32 (by omega) Y hY u;have HZ:Hid (Z=vals (part 288 0 Rf.rP)):=by show _=_;rw[hZ,mY,aX]
 have HY:Hid (Y=vals (part 32 0 fun _=>5)):=by show _=_;rw[hY,mY,aX]
 clear hZ hY
 go_enter Tryz.func81,Tryz.ntmps81
 go_wp2
 go_loopw [3] (fun i wr=>∃k:Nat,k<=288/\i=.int .i64 k/\aR wr w.heap.size (part 288 k Rf.rP)/\Below w.heap.size w wr) (fun i _=>288-(intOf i).toNat)
 case atStart=>exact⟨0,aaj _,rfl,(ak w _).trans (by rw[HZ.out]),(aak _ _).alloc (aad _) _⟩
 case round =>
  obtain⟨k,hk,rfl,hl,hb⟩:=hrel;by_cases hlt:k<288
  ·obtain⟨x,c1⟩:∃x,wr.cell? ⟨w.heap.size,k,none⟩=some (.int .i64 x):=⟨_,hl.cell k (by simp;omega)⟩
   have f1:wr.frozen? ⟨w.heap.size,k,none⟩=false:=aaE wr _ _ _ _ hl;obtain⟨y,hy⟩:∃y:Int,y=Rf.rP k:=⟨_,rfl⟩
   have HL:Hid (aR (wr.setCell ⟨w.heap.size,k,none⟩ (.int .i64 y)) w.heap.size (part 288 (k+1) Rf.rP)/\Below w.heap.size w (wr.setCell ⟨w.heap.size,k,none⟩ (.int .i64 y))):=⟨by rw[hy,<-oL];exact hl.set k _,hb.setCell (aad _) _⟩
   unfold Rf.rP at hy;by_cases h1:k<144
   ·rw[aaf h1]at hy;subst hy;go_wp2
    go_roundw
    case rel=>exact⟨k+1,by omega,by go_num,HL.out.1,HL.out.2⟩
    case measure=>simp[intOf];omega
   ·rw[aae h1]at hy;by_cases h2:k<256
    ·rw[aaf h2]at hy;subst hy;go_wp2
     go_roundw
     case rel=>exact⟨k+1,by omega,by go_num,HL.out.1,HL.out.2⟩
     case measure=>simp[intOf];omega
    ·rw[aae h2]at hy;by_cases h3:k<280
     ·rw[aaf h3]at hy;subst hy;go_wp2
      go_roundw
      case rel=>exact⟨k+1,by omega,by go_num,HL.out.1,HL.out.2⟩
      case measure=>simp[intOf];omega
     ·rw[aae h3]at hy;subst hy;go_wp2
      go_roundw
      case rel=>exact⟨k+1,by omega,by go_num,HL.out.1,HL.out.2⟩
      case measure=>simp[intOf];omega
  ·have hk2:k=288:=by omega
   subst hk2
   rename World=>W1
   have KH:=aab hl;go_wp2
   go_loopw [5] (fun i wr=>∃k:Nat,k<=32/\i=.int .i64 k/\aR wr W1.heap.size (part 32 k fun _=>5)/\Below W1.heap.size W1 wr) (fun i _=>32-(intOf i).toNat)
   case atStart=>exact⟨0,aaj _,rfl,(ak W1 _).trans (by rw[HY.out]),(aak _ _).alloc (aad _) _⟩
   case round =>
    obtain⟨k,hk,rfl,hl2,hb2⟩:=hrel;by_cases hlt2:k<32
    ·obtain⟨x,c1⟩:∃x,wr.cell? ⟨W1.heap.size,k,none⟩=some (.int .i64 x):=⟨_,hl2.cell k (by simp;omega)⟩
     have f1:wr.frozen? ⟨W1.heap.size,k,none⟩=false:=aaE wr _ _ _ _ hl2;have HL:Hid (aR (wr.setCell ⟨W1.heap.size,k,none⟩ (.int .i64 5)) W1.heap.size (part 32 (k+1) fun _=>5)/\Below W1.heap.size W1 (wr.setCell ⟨W1.heap.size,k,none⟩ (.int .i64 5))):=⟨by rw[<-oL];exact hl2.set k _,hb2.setCell (aad _) _⟩
     go_wp2
     go_roundw
     case rel=>exact⟨k+1,by omega,by go_num,HL.out.1,HL.out.2⟩
     case measure=>simp[intOf];omega
    ·have hk2:k=32:=by omega
     subst hk2;go_wp2
     go_ret2
     refine⟨W1.heap.size,rfl,?_,?_,KH,hb.trans (hb2.mono (aaI KH))⟩
     ·rw[Rf.bE,<-oM];exact (hb2.block _ KH).trans hl
     ·rw[Rf.jl,<-oM];exact hl2
theorem dk.keep {w w':World}{B:Nat}{L:List Int}{ao:Option Addr}{cap:Nat}{limit:Int}{st:Rf.St}{ov kv:Value}(h:dk w B L ao cap limit st ov kv)(hb:∀k,k<=B->w'.heap[k]?=w.heap[k]?)(ho:∀g,ov.ownBlock=some g->w'.heap[g]?=w.heap[g]?)(hk:∀g,kv.ownBlock=some g->w'.heap[g]?=w.heap[g]?):dk w' B L ao cap limit st ov kv :=
 ⟨(hb B (aad _)).trans h.blk,fun j hj=>by
  obtain⟨b,off,rfl,hc⟩:=h.hl j hj
  exact⟨b,off,rfl,(aaT (w:=w) (hb b (aaI (h.hla _ rfl (ne_of_lt hj))))).trans hc⟩,h.hla,h.hb,h.hpos,h.hlen,h.h8,mZ h.ho ho,mZ h.hk hk⟩
theorem dk.later {w w':World}{B:Nat}{L:List Int}{ao:Option Addr}{cap:Nat}{limit:Int}{st:Rf.St}{ov kv:Value}(h:dk w B L ao cap limit st ov kv)(hb:Below w.heap.size w w'):dk w' B L ao cap limit st ov kv :=
 h.keep (fun k hk=>hb.block k (Nat.lt_of_le_of_lt hk h.lt)) (fun g hg=>hb.block g (h.ho.lt g hg).2) (fun g hg=>hb.block g (h.hk.lt g hg).2)
structure Ls (w0 wr:World) (B:Nat) (v:Value) (out:List Int):Prop where
 own:wr.ownsRow w0.heap.size 3 1 v out.length (vals out)
 kp:Kp (·=B) w0 wr
end Go.Proofs.YtmfijackgekioaaGreatDoor
