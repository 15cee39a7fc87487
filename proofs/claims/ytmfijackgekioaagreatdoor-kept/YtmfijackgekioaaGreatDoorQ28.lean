import Derived.Test.YtmfijackgekioaaGreatDoorQ09
import Derived.Maps.AppendAt
import Derived.Lib.AppendZeros
set_option maxHeartbeats 4000000
set_option maxRecDepth 100000
namespace Go.Proofs.YtmfijackgekioaaGreatDoor
structure Ch where
 name:ByteArray
 data:ByteArray
def et (c:Nat):Bool:=(decide (65<=c)&&decide (c<=90))||(decide (97<=c)&&decide (c<=122))
def pH (s:ByteArray):Int:=4294967295-(Mx.o9 s.data.toList:Int)
def dY (b:ByteArray):Nat:=(aM b 0).toNat
theorem pI (b:ByteArray)(i:Nat):0<=aM b i/\aM b i<4294967296:=by
 have h0:=dI b i;have h1:=dI b (i+1);have h2:=dI b (i+2);have h3:=dI b (i+3);unfold aM;omega
theorem ua (b:ByteArray):aM b 0=(dY b:Int):=by have:=pI b 0;unfold dY;omega
def fq (b:ByteArray)(i:Nat):Bool:=et (ag b i)&&(et (ag b (i+1))&&(et (ag b (i+2))&&et (ag b (i+3))))
def la (b:ByteArray):Bool:=decide (12<=b.size)&&(decide (dY b<=2147483647)&&(decide (dY b+12<=b.size)&&(fq b 4&&decide (aM b (8+dY b)=pH (b.extract 4 (8+dY b))))))
def oM (b:ByteArray):Ch:=⟨b.extract 4 8,b.extract 8 (8+dY b)⟩
def gw (b:ByteArray):ByteArray:=b.extract (12+dY b) b.size
def Ki:Nat->ByteArray->Option (List Ch)
 | 0,_=>none
 | f+1,b=>if b.size=0 then some [] else if la b=true then (Ki f (gw b)).map (fun l=>oM b::l) else none
def aO (b:ByteArray):Option (List Ch):=Ki (b.size+1) b
theorem qH {b:ByteArray}(h:la b=true):12<=b.size/\dY b+12<=b.size/\dY b<=2147483647:=by
 simp only[la,Bool.and_eq_true,decide_eq_true_eq]at h;exact⟨h.1,h.2.2.1,h.2.1⟩
theorem jA {b:ByteArray}(h:la b=true):(gw b).size+12+dY b=b.size:=by
 have:=qH h;unfold gw;rw[ByteArray.size_extract];omega
theorem Am:∀(f g:Nat) (b:ByteArray),b.size<f->b.size<g->Ki f b=Ki g b
 | 0,_,_,h,_=>absurd h (by omega)
 | _+1,0,_,_,h=>absurd h (by omega)
 | f+1,g+1,b,h1,h2=>by
  rw[Ki,Ki];split
  ·rfl
  ·split
   ·rename_i h;have:=jA h;rw[Am f g (gw b) (by omega) (by omega)]
   ·rfl
theorem ub {b:ByteArray}(h:b.size=0):aO b=some []:=by rw[aO,Ki,if_pos h]
theorem ru {b:ByteArray}(h0:b.size≠0)(h:la b=true):aO b=(aO (gw b)).map (fun l=>oM b::l):=by
 have:=jA h;rw[aO,Ki,if_neg h0,if_pos h,Am b.size ((gw b).size+1) (gw b) (by omega) (by omega)];rfl
theorem CT {b:ByteArray}(h0:b.size≠0)(h:la b=false):aO b=none:=by rw[aO,Ki,if_neg h0,if_neg (by rw[h];decide)]
section
open Go.RowKit
def mj (c:Nat):Bool:=decide (65<=c)&&decide (c<=90)
theorem Ao (c:Nat)(w:World): Calls Tryz.prog 201 #[.int .u8 c] w fun e w'=>e=.returned (.bool (mj c))/\w'=w:=by
 by_cases h1:65<=c
 ·have h1i:(65:Int)<=(c:Int):=by omega
  have HC:Hid (mj c=decide ((c:Int)<=90)):=by show _=_;unfold mj;rw[Bool.eq_iff_iff];simp;omega
  go_enter Tryz.func201,Tryz.ntmps201
  go_wp2
  all_goals go_ret
  all_goals refine⟨aK ?_,rfl⟩
  all_goals (rw[HC.out];try (first|rfl|(simp;omega)|simp))
 ·have h1i:¬(65:Int)<=(c:Int):=by omega
  have HC:Hid (mj c=false):=by show _=_;unfold mj;simp;omega
  go_enter Tryz.func201,Tryz.ntmps201
  go_wp2
  all_goals go_ret
  all_goals exact⟨aK (by rw[HC.out]),rfl⟩
def pJ (s:ByteArray):Nat->Bool
 | 0=>true
 | k+1=>pJ s k&&et (ag s k)
theorem Ew {s:ByteArray}{k:Nat}(h:et (ag s k)=false):∀m,k<m->pJ s m=false
 | 0,hm=>absurd hm (by omega)
 | m+1,hm=>by
  by_cases e:k=m
  ·subst e;rw[pJ,h,Bool.and_false]
  ·rw[pJ,Ew h m (by omega),Bool.false_and]
theorem Ap (s:ByteArray)(w:World)(hs:s.size<=1000000000): Calls Tryz.prog 200 #[.string s] w fun e w'=>e=.returned (.bool (pJ s s.size))/\w'=w:=by
 go_enter Tryz.func200,Tryz.ntmps200
 go_wp2
 go_loop [7] (fun i=>∃k:Nat,k<=s.size/\i=.int .i64 k/\Hid (pJ s k=true)) (fun i=>s.size-(intOf i).toNat)
 case atStart=>exact⟨0,Nat.zero_le _,rfl,rfl⟩
 case round =>
  obtain⟨k,hk,rfl,HK⟩:=hrel;by_cases hlt:k<s.size
  ·have hb:=dH s k hlt;have hb2:=dI s k;have Gx:(k:Int)<(s.size:Int):=by omega
   have HN:Hid (et (ag s k)=false->pJ s s.size=false):=fun h=>Ew h _ hlt;have HY:Hid (et (ag s k)=true->pJ s (k+1)=true):=fun h=>by rw[pJ,HK.out,h];rfl
   have hcap:=fun v=>Ao (ag s k) v
   have HL:Hid (et (ag s k)=((decide (97<=ag s k)&&decide (ag s k<=122))||mj (ag s k))):=by
    show _=_;unfold et mj;rw[Bool.or_comm]
   generalize ag s k=c at *;by_cases hsm:97<=c/\c<=122
   ·have q1:(97:Int)<=(c:Int):=by omega
    have q2:(c:Int)<=122:=by omega
    have hl:et c=true:=by rw[HL.out];simp[hsm.1,hsm.2]
    have HY2:Hid (pJ s (k+1)=true):=HY.out hl;clear hl HN HY HL;go_wp2
    go_round
    case rel=>exact⟨k+1,by omega,by go_num,HY2⟩
    case measure=>simp[intOf];omega
   ·have hd:(decide (97<=c)&&decide (c<=122))=false:=by
     rw[Bool.eq_false_iff];intro h;simp at h;exact hsm h
    have hl:et c=mj c:=by rw[HL.out,hd,Bool.false_or]
    rw[hl]at HN HY;have hor:¬(97:Int)<=(c:Int)\/((97:Int)<=(c:Int)/\¬(c:Int)<=122):=by omega
    clear HL hd hl hsm;generalize mj c=cb at *;cases cb
    ·have RY:Hid (pJ s s.size=false):=HN.out rfl;clear HN HY;rcases hor with q1|⟨q1,q2⟩
     all_goals
      go_wp2_with (go_at_call 201;refine (hcap _).mono ?_;rintro e w' ⟨rfl,rfl⟩)
      go_ret
      exact⟨aK (by rw[RY.out]),rfl⟩
    ·have HY2:Hid (pJ s (k+1)=true):=HY.out rfl;clear HN HY;rcases hor with q1|⟨q1,q2⟩
     all_goals
      go_wp2_with (go_at_call 201;refine (hcap _).mono ?_;rintro e w' ⟨rfl,rfl⟩)
      go_round
      case rel=>exact⟨k+1,by omega,by go_num,HY2⟩
      case measure=>simp[intOf];omega
  ·have Gx:¬(k:Int)<(s.size:Int):=by omega
   have e:k=s.size:=by omega
   go_wp2
   go_ret
   exact⟨aK (by rw[<-e,HK.out]),rfl⟩
theorem bG (b:ByteArray)(i j k:Nat)(h1:i+k<j)(_h2:j<=b.size):ag (b.extract i j) k=ag b (i+k):=by
 unfold ag;rw[ByteArray.data_extract,Array.toList_extract,List.extract_eq_take_drop];simp only[List.getD_eq_getElem?_getD];rw[List.getElem?_take,if_pos (by omega),List.getElem?_drop]
theorem mX (b:ByteArray)(i j k:Nat)(h1:i+k+3<j)(h2:j<=b.size):aM (b.extract i j) k=aM b (i+k):=by
 unfold aM;rw[bG b i j k (by omega) h2,bG b i j (k+1) (by omega) h2,bG b i j (k+2) (by omega) h2,bG b i j (k+3) (by omega) h2];rfl
theorem jP (b:ByteArray):qY b.data.toList=aM b 0:=by unfold qY aM ag;simp
theorem rO (b:ByteArray)(h:8<=b.size):pJ (b.extract 4 8) (b.extract 4 8).size=fq b 4:=by
 have e:(b.extract 4 8).size=4:=by rw[ByteArray.size_extract];omega
 rw[e];simp only[pJ,fq,Bool.true_and];rw[bG b 4 8 0 (by omega) h,bG b 4 8 1 (by omega) h,bG b 4 8 2 (by omega) h,bG b 4 8 3 (by omega) h];simp only[Bool.and_assoc]
def Kj (b:ByteArray)(w:World)(e:Ending)(w':World):Prop :=
 ((la b=true/\e=.returned (.agg #[.string (oM b).name,.string (oM b).data]))\/(la b=false/\e=dies 11))/\Below w.heap.size w w'
theorem Ex (b:ByteArray)(i j k l:Nat)(h:i+l<=j):(b.extract i j).extract k l=b.extract (i+k) (i+l):=by
 rw[ByteArray.extract_extract]
 congr 1
 omega
theorem RZ (b:ByteArray)(w:World)(hs:b.size<=1000000000): Calls Tryz.prog 171 #[.string b] w fun e w'=>Kj b w e w':=by
 unfold Kj;by_cases h12:b.size<12
 ·have HE:Hid (la b=false):=by show _=_;unfold la;rw[show decide (12<=b.size)=false from decide_eq_false (by omega),Bool.false_and]
  have Kk:(b.size:Int)-4-4-4<0:=by omega
  go_enter Tryz.func171,Tryz.ntmps171
  go_wp2;exact⟨rfl,.inr ⟨HE.out,rfl⟩,ae _ _⟩
 ·have Kk:¬(b.size:Int)-4-4-4<0:=by omega
  have TL:=fun v=>jW b v (by omega);rw[jP,ua]at TL
  have oZ:Hid (la b=(decide (dY b<=2147483647)&&(decide (dY b+12<=b.size)&&(fq b 4&&decide (aM b (8+dY b)=pH (b.extract 4 (8+dY b))))))):=by
   show _=_;unfold la;rw[show decide (12<=b.size)=true from decide_eq_true (by omega),Bool.true_and]
  have hch:oM b=⟨b.extract 4 8,b.extract 8 (8+dY b)⟩:=rfl;have hn2:dY b<4294967296:=by have:=pI b 0;have:=ua b;omega
  rw[hch];generalize dY b=n at *;by_cases hbig:n<=2147483647/\n+12<=b.size
  ·obtain⟨hb1,hb2⟩:=hbig;have hal:=fun v=>Ap (b.extract 4 8) v (by rw[ByteArray.size_extract];omega);rw[rO b (by omega)]at hal;have hfr:=fun v=>jW (b.extract (8+n) b.size) v (by rw[ByteArray.size_extract];omega);rw[jP,mX b (8+n) b.size 0 (by omega) (Nat.le_refl _),Nat.add_zero]at hfr;have hcr:=fun v=>Uu (b.extract 4 (8+n)) v (by rw[ByteArray.size_extract];unfold maxLen;omega);have hK:(b.extract 4 (8+n)).size=n+4:=by rw[ByteArray.size_extract];omega
   have hx1:(b.extract 4 (8+n)).extract 0 4=b.extract 4 8:=Ex b 4 (8+n) 0 4 (by omega)
   have hx2:(b.extract 4 (8+n)).extract 4 (n+4)=b.extract 8 (8+n):=by
    rw[Ex b 4 (8+n) 4 (n+4) (by omega)]
    congr 1
    omega
   have R8:Hid (la b=(fq b 4&&decide (aM b (8+n)=4294967295-(Mx.o9 (b.extract 4 (8+n)).data.toList:Int)))):=by
    show _=_;rw[oZ.out,decide_eq_true hb1,decide_eq_true hb2,Bool.true_and,Bool.true_and];rfl
   have n1:¬(n:Int)>2147483647:=by omega
   have n2:¬(n:Int)>(b.size:Int)-4-4-4:=by omega
   have s1:IntKind.i64.wrap (8+(n:Int))=((8+n:Nat):Int):=(IntWalk.i64_in _ (by omega)).trans (by omega);have s2:((8+n:Nat):Int)<=(b.size:Int):=by omega
   have s3:(4:Int)<=((8+n:Nat):Int):=by omega
   have HB:Hid (b.size<=1000000000/\n<=2147483647/\n+12<=b.size):=⟨hs,hb1,hb2⟩
   obtain⟨rm,hrm⟩:∃rm,(b.size:Int)-4-4-4=rm:=⟨_,rfl⟩
   have r1:IntKind.i64.wrap ((b.size:Int)-4)=(b.size:Int)-4:=IntWalk.i64_in _ (by omega);have r2:IntKind.i64.wrap ((b.size:Int)-4-4)=(b.size:Int)-4-4:=IntWalk.i64_in _ (by omega);have r3:IntKind.i64.wrap ((b.size:Int)-4-4-4)=rm:=(IntWalk.i64_in _ (by omega)).trans hrm;rw[hrm]at Kk n2;have d1:decide ((2147483647:Int)<(n:Int))=false:=decide_eq_false n1;have d2:decide (rm<(n:Int))=false:=decide_eq_false n2;have d3:decide (rm<0)=false:=decide_eq_false Kk;clear oZ hch hs hb1 hb2 hn2 h12 hrm n1 n2 Kk;generalize (4294967295-(Mx.o9 (b.extract 4 (8+n)).data.toList:Int))=CR at *;generalize aM b (8+n)=FR at *;generalize fq b 4=LB at *;generalize hCO:la b=CO at *;generalize hKE:b.extract 4 (8+n)=KK at *;generalize hR:b.extract (8+n) b.size=RS at *;generalize b.extract 4 8=NM at *;generalize b.extract 8 (8+n)=DT at *
   go_enter Tryz.func171,Tryz.ntmps171
   go_wp2_with fail;refine (TL _).mono ?_;rintro e w1 ⟨rfl,m1,rfl⟩;go_wp2_with fail
   go_quiet (fail)
   rw[hKE,hR];have HRB:(((w.alloc (.cells #[.string ⟨#[]⟩,.string ⟨#[]⟩] 94)).drewN m1).drewN nq).heap[w.heap.size]?=some (.cells #[.string ⟨#[]⟩,.string ⟨#[]⟩] 94 (0,0)):=ah w _;have B1:Below w.heap.size w (((w.alloc (.cells #[.string ⟨#[]⟩,.string ⟨#[]⟩] 94)).drewN m1).drewN nq):=below_drewN (below_drewN (ae w _) m1) nq;generalize (((w.alloc (.cells #[.string ⟨#[]⟩,.string ⟨#[]⟩] 94)).drewN m1).drewN nq)=u at *;have hS:True:=trivial;clear TL s1 s2 s3 r1 r2 r3 d1 d2 d3;go_wp2_with fail;refine ax (by kernel_rfl) (fun _=>True) 999 ?_;have B2:=B1.drew;have HR2:u.drew.heap[w.heap.size]?=some (.cells #[.string ⟨#[]⟩,.string ⟨#[]⟩] 94 (0,0)):=HRB;clear B1 HRB;generalize u.drew=v at *;have hK4:(4:Int)<=(KK.size:Int):=by omega
   refine ap [0] ?_
   iterate 1 (refine ar (v:=?_) rfl (by kernel_rfl) (fun _ _ _ h=>h) ?_ hS ?_;rotate_left;(·intro w hSw;(try dsimp only at hSw);go_simp;try with_reducible rfl);try simp only[Act.put])
   refine ai ?_;refine aw (i:=1) (v:=.string NM) rfl (by kernel_rfl) (by kernel_rfl) (by kernel_rfl) (by kernel_rfl) (fun _ _ _ h=>h) (by kernel_rfl) ?_ hS ?_
   ·intro w hSw;(try dsimp only at hSw);go_simp;try (intro h9;exact absurd h9 (by omega))
   simp only[Act.put];refine ap [2] ?_
   iterate 1 (refine ar (v:=?_) rfl (by kernel_rfl) (fun _ _ _ h=>h) ?_ hS ?_;rotate_left;(·intro w hSw;(try dsimp only at hSw);go_simp;try with_reducible rfl);try simp only[Act.put])
   refine ai ?_;refine aw (i:=3) (v:=.string DT) rfl (by kernel_rfl) (by kernel_rfl) (by kernel_rfl) (by kernel_rfl) (fun _ _ _ h=>h) (by kernel_rfl) ?_ hS ?_
   ·intro w hSw;(try dsimp only at hSw);go_simp;try (intro h9;exact absurd h9 (by omega))
   simp only[Act.put];refine ap [4] ?_
   iterate 1 (refine ar (v:=?_) rfl (by kernel_rfl) (fun _ _ _ h=>h) ?_ hS ?_;rotate_left;(·intro w hSw;(try dsimp only at hSw);go_simp;try with_reducible rfl);try simp only[Act.put])
   refine ai ?_;refine af (i:=5) (by kernel_rfl) rfl (fun K hK=>?_);go_simp;refine hK _ _ (fun _=>trivial) ?_;clear hK K;refine af (i:=6) (by kernel_rfl) rfl (fun K hK=>?_);go_simp;refine hK _ _ (fun _=>trivial) ?_;clear hK K;refine ak (by kernel_rfl) ?_ _;have hC:=ah v (.cells #[.string NM,.string DT] 94);have HR3:=(Below.heap_alloc v (.cells #[.string NM,.string DT] 94) w.heap.size (lt_of_block HR2)).trans HR2;have B3:Below w.heap.size w (v.alloc (.cells #[.string NM,.string DT] 94)):=B2.trans ((ae v _).mono B2.size);obtain⟨C,VW⟩:∃C,v.heap.size=C:=⟨_,rfl⟩
   have hne:w.heap.size≠C:=by have:=lt_of_block HR2;omega
   rw[VW]at hC ⊢;clear B2 HR2 VW hx1 hx2 hK hK4 hKE hR;generalize v.alloc (.cells #[.string NM,.string DT] 94)=v2 at *;obtain⟨c0,c1,cf,cl⟩:=aL hC;cases LB
   ·have HF:Hid (CO=false):=by show _=_;rw[R8.out];rfl
    go_wp2_with fail;refine (hal _).mono ?_;rintro e w' ⟨rfl,rfl⟩;go_wp2;exact⟨rfl,.inr ⟨HF.out,rfl⟩,B3⟩
   ·go_wp2_with fail;refine (hal _).mono ?_;rintro e w' ⟨rfl,rfl⟩;go_wp2_with fail;refine (hfr _).mono ?_;rintro e w' ⟨rfl,m2,rfl⟩;have B4:Below w.heap.size w (w'.drewN m2):=below_drewN B3 m2;have hC4:(w'.drewN m2).heap[C]?=some (.cells #[.string NM,.string DT] 94 (0,0)):=hC;have HR4:(w'.drewN m2).heap[w.heap.size]?=some (.cells #[.string ⟨#[]⟩,.string ⟨#[]⟩] 94 (0,0)):=HR3;clear c0 c1 cf cl hC HR3 B3;generalize w'.drewN m2=v3 at *;go_wp2_with fail;refine (hcr _).mono ?_;rintro e w'' ⟨rfl,rfl⟩;by_cases hq:FR=CR
    ·have hqb:(FR != CR)=false:=by rw[bne_eq_false_iff_eq];exact hq
     have HF:Hid (CO=true):=by show _=_;rw[R8.out,decide_eq_true hq];rfl
     obtain⟨c0,c1,cf,cl⟩:=aL hC4;obtain⟨x0,x1,xf,xl⟩:=aL HR4;have hset:=fZ HR4 (.string NM) (.string DT);obtain⟨y0,y1,_,_⟩:=aL hset;clear hC4 HR4 hset hq;go_wp2;refine bodyPost_ret (v:=.agg #[.string NM,.string DT]) (by simp[results,Tryz.results171,go_sem,y0,y1]) rfl ⟨.inl ⟨HF.out,rfl⟩,(B4.setCell (p:=⟨w.heap.size,0,none⟩) (Nat.le_refl _) _).setCell (p:=⟨w.heap.size,1,none⟩) (Nat.le_refl _) _⟩
    ·have hqb:(FR != CR)=true:=by rw[bne_iff_ne];exact hq
     have HF:Hid (CO=false):=by show _=_;rw[R8.out,decide_eq_false hq];rfl
     clear hq;go_wp2;exact⟨rfl,.inr ⟨HF.out,rfl⟩,B4⟩
  ·have HF:Hid (la b=false):=by
    show _=_;rw[oZ.out];by_cases q:n<=2147483647
    ·rw[decide_eq_false (show ¬n+12<=b.size from fun h=>hbig ⟨q,h⟩),Bool.false_and,Bool.and_false]
    ·rw[decide_eq_false q,Bool.false_and]
   obtain⟨rm,hrm⟩:∃rm,(b.size:Int)-4-4-4=rm:=⟨_,rfl⟩
   have r1:IntKind.i64.wrap ((b.size:Int)-4)=(b.size:Int)-4:=IntWalk.i64_in _ (by omega);have r2:IntKind.i64.wrap ((b.size:Int)-4-4)=(b.size:Int)-4-4:=IntWalk.i64_in _ (by omega);have r3:IntKind.i64.wrap ((b.size:Int)-4-4-4)=rm:=(IntWalk.i64_in _ (by omega)).trans hrm;have d3:decide (rm<0)=false:=decide_eq_false (by omega)
   have hor:(decide ((2147483647:Int)<(n:Int))=true)\/(decide ((2147483647:Int)<(n:Int))=false/\decide (rm<(n:Int))=true):=by
    by_cases q:(2147483647:Int)<(n:Int)
    ·exact .inl (decide_eq_true q)
    ·exact .inr ⟨decide_eq_false q,decide_eq_true (by omega)⟩
   clear hs hn2 h12 Kk hrm hbig oZ hch;rcases hor with d1|⟨d1,d2⟩
   all_goals
    go_enter Tryz.func171,Tryz.ntmps171
    go_wp2_with fail;refine (TL _).mono ?_;rintro e w1 ⟨rfl,m1,rfl⟩;go_wp2;exact⟨rfl,.inr ⟨HF.out,rfl⟩,below_drewN (ae w _) m1⟩
end
section
open Go.RowKit Go.Maps
def gM (s:ByteArray):Bool:=decide (8<=s.size)&&((s.extract 0 8).toList==[137,80,78,71,13,10,26,10])
theorem CU (s:ByteArray)(w:World)(hs:s.size<=1000000000): Calls Tryz.prog 222 #[.string s,.string ⟨#[137,80,78,71,13,10,26,10]⟩] w fun e w'=>e=.returned (.bool (gM s))/\w'=w:=by
 by_cases h8:8<=s.size
 ·have h8i:(s.size:Int)≥8:=by omega
  have HS:Hid (gM s=((s.extract 0 8).toList==[137,80,78,71,13,10,26,10])):=by show _=_;rw[gM,decide_eq_true h8,Bool.true_and]
  go_enter Tryz.func222,Tryz.ntmps222
  go_wp2
  go_ret
  exact⟨aK (by rw[HS.out]),rfl⟩
 ·have h8i:¬(s.size:Int)≥8:=by omega
  have HS:Hid (gM s=false):=by show _=_;rw[gM,decide_eq_false h8,Bool.false_and]
  go_enter Tryz.func222,Tryz.ntmps222
  go_wp2
  go_ret
  exact⟨aK (by rw[HS.out]),rfl⟩
theorem VX (s:ByteArray)(w:World)(hs:s.size<=1000000000): Calls Tryz.prog 199 #[.string s,.string ⟨#[137,80,78,71,13,10,26,10]⟩] w fun e w'=>e=.returned (.tuple #[.string (if gM s=true then s.extract 8 s.size else s),.bool (gM s)])/\w'=w:=by
 have hh:=CU s w hs
 have H8:Hid (gM s=true->8<=s.size):=fun h=>by
  simp only[gM,Bool.and_eq_true,decide_eq_true_eq]at h;exact h.1
 generalize gM s=sb at *;cases sb
 ·go_enter Tryz.func199,Tryz.ntmps199
  go_wp2_with fail;refine hh.mono ?_;rintro e w' ⟨rfl,rfl⟩;go_wp2;exact bodyPost_ret (v:=.tuple #[.string s,.bool false]) (by simp[results,Tryz.results199,go_sem]) rfl ⟨rfl,rfl⟩
 ·have h8:=H8.out rfl;have h8i:(8:Int)<=(s.size:Int):=by omega
  go_enter Tryz.func199,Tryz.ntmps199
  go_wp2_with fail;refine hh.mono ?_;rintro e w' ⟨rfl,rfl⟩;go_wp2;exact bodyPost_ret (v:=.tuple #[.string (s.extract 8 s.size),.bool true]) (by simp[results,Tryz.results199,go_sem]) rfl ⟨rfl,rfl⟩
theorem aaw (s:ByteArray)(w:World)(hs:s.size<=1000000000): Calls Tryz.prog 170 #[.string s,.string ⟨#[137,80,78,71,13,10,26,10]⟩] w fun e w'=>e=.returned (.tuple #[.string (if gM s=true then s.extract 8 s.size else s),.bool (gM s)])/\w'=w:=by
 have hh:=VX s w hs;generalize (if gM s=true then s.extract 8 s.size else s)=R at *;generalize gM s=sb at *
 go_enter Tryz.func170,Tryz.ntmps170
 go_wp2_with fail;refine hh.mono ?_;rintro e w' ⟨rfl,rfl⟩;go_wp2;exact bodyPost_ret (v:=.tuple #[.string R,.bool sb]) (by simp[results,Tryz.results170,go_sem]) rfl ⟨rfl,rfl⟩
theorem Tryz.infoChunk:(Tryz.prog.info? 94).map (fun i=>(i.zero,i.size,i.bytes))=some (some (.agg #[.string ⟨#[]⟩,.string ⟨#[]⟩]),2,32):=by kernel_rfl
def fE (L:List Ch):List Value:=L.flatMap fun c=>[.string c.name,.string c.data]
theorem yb (L:List Ch)(c:Ch):fE (L++[c])=fE L++[.string c.name,.string c.data]:=by simp[fE]
theorem uc (L:List Ch):(fE L).length=L.length*2:=by
 induction L with
 | nil=>rfl
 | cons x l ih=>simp only[fE,List.flatMap_cons,List.length_append,List.length_cons,List.length_nil]at *;omega
structure uW (w:World) (X:Nat) (L:List Ch) (v:Value):Prop where
 box:bu w X v 169
 own:w.ownsRow (X+1) 94 2 v L.length (fE L)
theorem uW.kept {w w':World}{X:Nat}{L:List Ch}{v:Value}(h:uW w X L v)(k:∀j,j=X\/v.ownBlock=some j->w'.heap[j]?=w.heap[j]?):uW w' X L v :=
 ⟨(k _ (.inl rfl)).trans h.box,aI h.own (fun g hg=>k g (.inr hg))⟩
theorem uW.lt {w:World}{X:Nat}{L:List Ch}{v:Value}(h:uW w X L v)(g:Nat)(hg:v.ownBlock=some g):X+1<=g/\g<w.heap.size:=h.own.lt g hg
theorem uW.below {w w':World}{X:Nat}{L:List Ch}{v:Value}(h:uW w X L v)(k:Below w.heap.size w w'):uW w' X L v :=
 h.kept (fun j hj=>k.block j (by rcases hj with rfl|hj;exact lt_of_block h.box;exact (h.lt j hj).2))
theorem VY (X:Nat)(c:Ch)(L:List Ch)(v:Value)(w:World)(h:uW w X L v)(hL:L.length<=100000000): Calls Tryz.prog 127 #[.agg #[.string c.name,.string c.data],.pointer (some ⟨X,0,none⟩)] w fun e w'=>e=.returned (.tuple #[])/\∃v',uW w' X (L++[c]) v'/\Kp (fun k=>v.ownBlock=some k\/k=X) w w':=by
 obtain⟨i0,hi,hz0,hz1,hz2⟩:=info_parts Tryz.infoChunk;have hlx:=lt_of_block h.box;obtain⟨k0,q0,q1⟩:=bJ w (.cells #[.string c.name,.string c.data] 94) (.cells #[.string c.name,.string c.data] 94);have h2:=h.below k0;have hsz2:((w.alloc (.cells #[.string c.name,.string c.data] 94)).alloc (.cells #[.string c.name,.string c.data] 94)).heap.size=w.heap.size+1+1:=by simp
 obtain⟨v',w',hr,ho',hg',_,_⟩:=run_append_own_at (P:=Tryz.prog) ((w.alloc (.cells #[.string c.name,.string c.data] 94)).alloc (.cells #[.string c.name,.string c.data] 94)) (X+1) 169 169 94 i0 _ 2 32 Tryz.underlying169 hi hz0 hz1 hz2 rfl (by decide) v L.length (fE L) h2.own ⟨w.heap.size+1,0,none⟩ 1 1 [.string c.name,.string c.data] rfl (fun j u hj=>by
   rw[eU,Nat.zero_add,aR q1];simpa using hj) (fun u hu=>by
   simp only[List.mem_cons,List.not_mem_nil,or_false]at hu
   rcases hu with rfl|rfl<;>rfl) (by unfold maxLen;omega) (by omega) (by omega)
 have hbx:w'.heap[X]?=some (.cells #[v] 169 (0,0)):=(hg'.block X (lt_of_block h2.box) (fun e=>by have:=(h2.lt X e.symm).1;omega)).trans h2.box
 have hsl:uW (w'.setCell ⟨X,0,none⟩ v') X (L++[c]) v' :=
  ⟨one_set hbx v',aI (by rw[List.length_append,yb];exact ho') (fun g hg=>Below.heap_setCell _ ⟨X,0,none⟩ _ g (fun e=>by have:=(ho'.lt g hg).1;dsimp only at e;omega))⟩
 have hkp:Kp (fun k=>v.ownBlock=some k\/k=X) w (w'.setCell ⟨X,0,none⟩ v') :=
  (Kp.grown (Kp.aG k0) hg' (fun k hk=>.inl (.inl hk))).setCell (p:=⟨X,0,none⟩) (.inl (.inr rfl)) _
 obtain⟨x0,x1,x2⟩:=one_cell hbx;have c0:=h.box.cell;have HH:Hid (_/\_):=⟨hsl,hkp⟩
 obtain⟨oa,oc,rfl⟩:=aT h.own;obtain⟨vT,qm,rfl⟩:=aT ho';clear h2 hsl hkp ho' hg' hbx k0 q0 q1 h hsz2
 go_enter Tryz.func127,Tryz.ntmps127
 go_wp2_with (at_builtin;refine Lib.wpList_append_run _ rfl _ _ _ _ rfl _ _ rfl rfl _ _ hr ?_)
 go_end0
 exact⟨rfl,_,HH.out⟩
theorem VZ (args:Array Value)(w:World):(callFunc 127 args).run Tryz.prog w=.ok (.enter 127 args) w:=by kernel_rfl
def R9:Value->Nat|.string s=>s.size|_=>0
theorem uW.bel {w w':World}{X:Nat}{L:List Ch}{v:Value}(h:uW w X L v)(k:Kp (fun k=>v.ownBlock=some k\/k=X) w w'):Below X w w' :=
 k.below (Nat.le_of_lt (lt_of_block h.box)) (fun j _ hj=>by
  rcases hj with hj|hj
  ·have:=(h.lt j hj).1;omega
  ·omega)
inductive Ey (b:ByteArray) (X:Nat) (w:World):Ending->World->Prop
 | sig {w'}:gM b=false->Below X w w'->Ey b X w (dies 10) w'
 | bad {w'}:gM b=true->aO (b.extract 8 b.size)=none->Below X w w'->Ey b X w (dies 11) w'
 | ok {w' L v}:gM b=true->aO (b.extract 8 b.size)=some L->uW w' X L v->Below X w w'->Ey b X w (.returned (.tuple #[])) w'
theorem V0 (b:ByteArray)(X:Nat)(w:World)(hs:b.size<=1000000000)(h:uW w X [] (.slice none 0 0)): Calls Tryz.prog 126 #[.string b,.func (.func 127) #[] #[.pointer (some ⟨X,0,none⟩)]] w fun e w'=>Ey b X w e w':=by
 have hcut:=aaw b w hs;have hcall:=VZ;have hX:=lt_of_block h.box;rcases Bool.eq_false_or_eq_true (gM b) with hsb|hsb;rotate_left
 ·rw[hsb,if_neg (by decide)]at hcut
  go_enter Tryz.func126,Tryz.ntmps126
  go_wp2_with fail;refine hcut.mono ?_;rintro e w' ⟨rfl,rfl⟩;go_wp2;exact⟨rfl,.sig hsb (Below.refl _ _)⟩
 ·rw[hsb,if_pos rfl]at hcut;have HSB:Hid (gM b=true):=hsb;have Sb:(b.extract 8 b.size).size<=1000000000:=by rw[ByteArray.size_extract];omega
  obtain⟨b8,Bx⟩:∃b8,b.extract 8 b.size=b8:=⟨_,rfl⟩
  have QG:Hid (b.extract 8 b.size=b8):=Bx;rw[Bx]at hcut Sb;clear Bx;have HS:Hid (b8.size<=1000000000):=Sb;have YE:Hid (uW w X [] (.slice none 0 0)):=h;clear hs Sb hsb h
  go_enter Tryz.func126,Tryz.ntmps126
  go_wp2_with fail;refine hcut.mono ?_;rintro e w' ⟨rfl,rfl⟩;clear hcut;go_wp2
  go_loopw [4] (fun rv wr=>∃(r:ByteArray) (L:List Ch) (v:Value),rv=.string r/\Hid (aO b8=(aO r).map (fun l=>L++l))/\Hid (uW wr X L v)/\Hid (L.length*12+r.size<=1000000000)/\Below X w' wr) (fun rv _=>R9 rv)
  case atStart=>exact⟨b8,[],.slice none 0 0,rfl,by show _=_;cases aO b8<;>rfl,YE,by show _<=_;have:=HS.out;simp;omega,Below.refl _ _⟩
  case round =>
   obtain⟨r,L,v,rfl,HC,HL,HZ,hbl⟩:=hrel;by_cases hr0:r.size=0
   ·have HD:Hid (aO b8=some L):=by show _=_;rw[HC.out,ub hr0];simp
    have aax:¬(r.size:Int)>0:=by omega
    clear HC;go_wp2
    go_end0
    exact .ok HSB.out (by rw[QG.out];exact HD.out) HL.out hbl
   ·have aax:(r.size:Int)>0:=by omega
    have hfi:=RZ r wr (by have:=HZ.out;omega);unfold Kj at hfi;have BW:Hid (r.size≠0):=hr0;clear hr0;go_wp2_with fail;refine hfi.mono ?_;rintro e w1 ⟨⟨hok,rfl⟩|⟨hno,rfl⟩,b1⟩
    ·have oZ:Hid (la r=true):=hok;have hL1:=HL.out.below b1;have B1:Below X w' w1:=hbl.trans (b1.mono (Nat.le_trans (Nat.le_of_lt hX) hbl.size));have hsz:=qH hok;have hrs:=jA hok
     have HD:Hid (aO b8=(aO (gw r)).map (fun l=>(L++[oM r])++l)):=by
      show _=_;rw[HC.out,ru BW.out hok];cases aO (gw r)<;>simp
     have hdl:(oM r).data.size=dY r:=by show (r.extract 8 (8+dY r)).size=_;rw[ByteArray.size_extract];omega
     have hre:r.extract (12+dY r) r.size=gw r:=rfl;generalize hCH:oM r=c at *;generalize gw r=R2 at *;generalize dY r=n at *
     have HZ2:Hid ((L++[c]).length*12+R2.size<=1000000000/\R2.size<r.size/\L.length<=100000000):=by
      have:=HZ.out;show _/\_/\_;rw[List.length_append,List.length_singleton];omega
     have hN:=ah w1 (.cells #[.string c.name,.string c.data] 94);have kN:=ae w1 (.cells #[.string c.name,.string c.data] 94);have hL2:=hL1.below kN;have B2:Below X w' (w1.alloc (.cells #[.string c.name,.string c.data] 94)):=B1.trans (kN.mono (Nat.le_trans (Nat.le_of_lt hX) B1.size));obtain⟨C,VW⟩:∃C,w1.heap.size=C:=⟨_,rfl⟩
     have hCX:C≠X:=by have:=lt_of_block hL1.box;omega
     have hCv:v.ownBlock≠some C:=fun e=>by have:=(hL1.lt C e).2;omega
     have rx:=VY X c L v _ hL2 HZ2.out.2.2;have HN:Hid ((w1.alloc (.cells #[.string c.name,.string c.data] 94)).heap[C]?=some (.cells #[.string c.name,.string c.data] 94 (0,0))/\uW (w1.alloc (.cells #[.string c.name,.string c.data] 94)) X L v):=⟨VW▸hN,hL2⟩
     have n12:(n:Int)+12<=(r.size:Int):=by omega
     have s1:IntKind.i64.wrap (8+(n:Int))=8+(n:Int):=IntWalk.i64_in _ (by omega);have s2:IntKind.i64.wrap (8+(n:Int)+4)=((12+n:Nat):Int):=(IntWalk.i64_in _ (by omega)).trans (by omega);have s3:((12+n:Nat):Int)<=(r.size:Int):=by omega
     clear hfi HC HL HZ hbl b1 hL1 B1 hN kN hL2 hok hsz hrs oZ hCH;go_wp2_with fail;refine rx.mono ?_;rintro e w3 ⟨rfl,v',hL3,Bn⟩;have Ij:w3.heap[C]?=some (.cells #[.string c.name,.string c.data] 94 (0,0)):=gb HN.out.1 Bn (fun e=>by rcases e with e|e;exact hCv e;exact hCX e);have B3:Below X w' w3:=B2.trans (HN.out.2.bel Bn);have O9:Hid (uW w3 X (L++[c]) v'):=hL3;obtain⟨c0,c1,cf,cl⟩:=aL Ij;clear rx hL3 Bn B2 HN Ij VW;have hcs:(c.data.size:Int)=(n:Int):=by omega
     go_wp2
     go_roundw
     case rel=>exact⟨R2,L++[c],v',by rw[hre],HD,O9,HZ2.out.1,B3⟩
     case measure=>simp[R9];have:=HZ2.out;omega
    ·have HD:Hid (aO b8=none):=by show _=_;rw[HC.out,CT BW.out hno];rfl
     have B1:Below X w' w1:=hbl.trans (b1.mono (Nat.le_trans (Nat.le_of_lt hX) hbl.size));clear HC hfi;go_wp2;exact⟨rfl,.bad HSB.out (by rw[QG.out];exact HD.out) B1⟩
end
abbrev jg:List UInt8:=[73,72,68,82]
abbrev dP:List UInt8:=[80,76,84,69]
abbrev cV:List UInt8:=[73,68,65,84]
abbrev n9:List UInt8:=[73,69,78,68]
def jn (s:ByteArray)(l:List UInt8):Bool:=s.toList==l
theorem yd {s:ByteArray}{l:List UInt8}(h:jn s l=true):s.data.toList=l:=by
 unfold jn at h;rw[ByteArray.toList_eq]at h;exact eq_of_beq h
theorem gN {s:ByteArray}{l m:List UInt8}(h:jn s l=true)(hne:l≠m):jn s m=false:=by
 rw[Bool.eq_false_iff];intro hm;exact hne ((yd h).symm.trans (yd hm))
def dU:ByteArray->List ByteArray->Option ByteArray->List Ch->Option (List ByteArray×Option ByteArray)
 | _,d,p,[]=>some (d,p)
 | a,d,p,c::r =>
  if (jn c.name cV&&(d.isEmpty||jn a cV))=true then dU c.name (d++[c.data]) p r
  else if (jn c.name dP&&d.isEmpty&&p.isNone)=true then dU c.name d (some c.data) r
  else if mj (ag c.name 0)=true then none
  else dU c.name d p r
def fe:List ByteArray->ByteArray
 | []=>⟨#[]⟩
 | x::r=>x++fe r
structure j0 where
 head:ByteArray
 aD:Option ByteArray
 data:ByteArray
def mY (L:List Ch):Ch:=L.getD (L.length-1) ⟨⟨#[]⟩,⟨#[]⟩⟩
def gx (L:List Ch):Ch:=L.getD 0 ⟨⟨#[]⟩,⟨#[]⟩⟩
def dO (L:List Ch):List Ch:=(L.take (L.length-1)).drop 1
def ld (L:List Ch):Bool:=decide (2<=L.length)&&(jn (gx L).name jg&&(jn (mY L).name n9&&(mY L).data.toList.isEmpty))
def cQ (L:List Ch):Option j0 :=
 if ld L=true then
  match dU (gx L).name [] none (dO L) with
  | some (d,p)=>if d.isEmpty=true then none else some ⟨(gx L).data,p,fe d⟩
  | none=>none
 else none
def Sc:Option ByteArray->Nat|none=>0|some _=>1
def gy (nm:List UInt8)(L:List Ch):ByteArray:=L.foldl (fun s c=>if jn c.name nm=true then s++c.data else s) ⟨#[]⟩
def iH (nm:List UInt8)(L:List Ch):Nat:=L.foldl (fun n c=>if jn c.name nm=true then n+1 else n) 0
theorem ud (nm:List UInt8)(L:List Ch)(c:Ch):gy nm (L++[c])=if jn c.name nm=true then gy nm L++c.data else gy nm L:=by
 unfold gy;rw[List.foldl_append];rfl
theorem CV (nm:List UInt8)(L:List Ch)(c:Ch):iH nm (L++[c])=if jn c.name nm=true then iH nm L+1 else iH nm L:=by
 unfold iH;rw[List.foldl_append];rfl
theorem iU (b:ByteArray):(⟨#[]⟩:ByteArray)++b=b:=ByteArray.ext (by simp[ByteArray.data_append])
theorem lj (b:ByteArray):b++(⟨#[]⟩:ByteArray)=b:=ByteArray.ext (by simp[ByteArray.data_append])
theorem qI (a b c:ByteArray):a++b++c=a++(b++c):=ByteArray.ext (by simp[ByteArray.data_append])
theorem oN (nm:List UInt8):∀(L:List Ch) (s:ByteArray),L.foldl (fun s c=>if jn c.name nm=true then s++c.data else s) s=s++gy nm L
 | [],s=>(lj s).symm
 | c::r,s=>by
  have e:gy nm (c::r)=(if jn c.name nm=true then (⟨#[]⟩:ByteArray)++c.data else ⟨#[]⟩)++gy nm r:=by
   show List.foldl _ _ (c::r)=_;rw[List.foldl_cons,oN nm r]
  rw[List.foldl_cons,oN nm r,e];split
  ·rw[iU,qI]
  ·rw[iU]
theorem oO (nm:List UInt8):∀(L:List Ch) (n:Nat),L.foldl (fun n c=>if jn c.name nm=true then n+1 else n) n=n+iH nm L
 | [],n=>rfl
 | c::r,n=>by
  have e:iH nm (c::r)=(if jn c.name nm=true then 0+1 else 0)+iH nm r:=by
   show List.foldl _ _ (c::r)=_;rw[List.foldl_cons,oO nm r]
  rw[List.foldl_cons,oO nm r,e];split<;>omega
theorem gO (nm:List UInt8)(c:Ch)(r:List Ch):gy nm (c::r)=if jn c.name nm=true then c.data++gy nm r else gy nm r:=by
 rw[gy,List.foldl_cons,oN];split
 ·rw[iU]
 ·rw[iU]
theorem oP (nm:List UInt8)(c:Ch)(r:List Ch):iH nm (c::r)=if jn c.name nm=true then iH nm r+1 else iH nm r:=by
 rw[iH,List.foldl_cons,oO];split<;>omega
theorem Aq (d:List ByteArray)(x:ByteArray):fe (d++[x])=fe d++x:=by
 induction d with
 | nil=>show x++_=_;rw[show fe []=⟨#[]⟩ from rfl,lj,iU]
 | cons y r ih=>show y++fe (r++[x])=y++fe r++x;rw[ih,qI]
theorem Kl {c:Ch}{nm:List UInt8}(h:jn c.name nm=true)(h0:(nm.getD 0 0).toNat<=90)(h1:65<=(nm.getD 0 0).toNat):mj (ag c.name 0)=true:=by
 have:=yd h;unfold ag;rw[this];unfold mj;simp at h0 h1 ⊢;omega
theorem nL:∀(r:List Ch) (a:ByteArray) (d:List ByteArray) (p:Option ByteArray) (d':List ByteArray) (p':Option ByteArray),dU a d p r=some (d',p') -> fe d'=fe d++gy cV r/\iH dP r+Sc p=Sc p'/\(p=none->gy dP r=p'.getD ⟨#[]⟩)/\(∀x,p=some x->p'=some x)
 | [],a,d,p,d',p',h=>by
  rw[dU]at h;injection h with h;injection h with h1 h2;subst h1 h2;refine⟨(lj _).symm,Nat.zero_add _,fun e=>?_,fun x e=>e⟩;rw[e];rfl
 | c::r,a,d,p,d',p',h=>by
  rw[dU]at h;rw[gO,oP,gO];by_cases h1:(jn c.name cV&&(d.isEmpty||jn a cV))=true
  ·rw[if_pos h1]at h;obtain⟨b1,b2,b3,b4⟩:=nL r c.name _ p d' p' h;have hI:jn c.name cV=true:=by rw[Bool.and_eq_true]at h1;exact h1.1
   have hP:jn c.name dP=false:=gN hI (by decide);rw[if_pos hI,if_neg (by rw[hP];decide),if_neg (by rw[hP];decide)];refine⟨?_,b2,b3,b4⟩;rw[b1,Aq,qI]
  ·rw[if_neg h1]at h;by_cases h2:(jn c.name dP&&d.isEmpty&&p.isNone)=true
   ·rw[if_pos h2]at h;obtain⟨b1,b2,b3,b4⟩:=nL r c.name d (some c.data) d' p' h;simp only[Bool.and_eq_true]at h2;obtain⟨⟨hP,_⟩,hp⟩:=h2;have hI:jn c.name cV=false:=gN hP (by decide);have hp':p=none:=by cases p with|none=>rfl|some x=>cases hp
    subst hp';rw[if_neg (by rw[hI];decide),if_pos hP,if_pos hP];have e:=b4 _ rfl;subst e;have b2':iH dP r+1=1:=b2;refine⟨b1,?_,fun _=>?_,fun x e=>by cases e⟩
    ·show iH dP r+1+0=1;omega
    ·have:gy dP r=⟨#[]⟩:=join_none dP r (by omega);rw[this,lj];rfl
   ·rw[if_neg h2]at h;by_cases h3:mj (ag c.name 0)=true
    ·rw[if_pos h3]at h;cases h
    ·rw[if_neg h3]at h;obtain⟨b1,b2,b3,b4⟩:=nL r c.name d p d' p' h;have hI:¬jn c.name cV=true:=fun e=>h3 (Kl e (by decide) (by decide));have hP:¬jn c.name dP=true:=fun e=>h3 (Kl e (by decide) (by decide));rw[if_neg hI,if_neg hP,if_neg hP];exact⟨b1,b2,b3,b4⟩
 where
 join_none (nm:List UInt8):∀(r:List Ch),iH nm r=0->gy nm r=⟨#[]⟩
  | [],_=>rfl
  | c::r,h=>by
   rw[oP]at h
   rw[gO]
   split
   ·rename_i e
    rw[if_pos e]at h
    omega
   ·rename_i e
    rw[if_neg e]at h
    exact join_none nm r h
theorem CW {L:List Ch}(h:2<=L.length):L=gx L::(dO L++[mY L]):=by
 cases L with
 | nil=>simp at h
 | cons x r =>
  have hr:r≠[]:=fun e=>by subst e;simp at h
  have e1:dO (x::r)=r.dropLast:=by
   unfold dO;rw[List.length_cons,Nat.add_sub_cancel];obtain⟨n,hn⟩:∃n,r.length=n+1:=⟨r.length-1,by have:=List.length_pos_iff.2 hr;omega⟩
   rw[hn,List.take_succ_cons,List.drop_succ_cons,List.drop_zero,List.dropLast_eq_take,hn];rfl
  have e2:mY (x::r)=r.getLast hr:=by
   unfold mY;rw[List.length_cons,Nat.add_sub_cancel];obtain⟨n,hn⟩:∃n,r.length=n+1:=⟨r.length-1,by have:=List.length_pos_iff.2 hr;omega⟩
   rw[hn,List.getD_cons_succ,List.getLast_eq_getElem,List.getD_eq_getElem?_getD,List.getElem?_eq_getElem (by omega)];simp only[Option.getD_some,hn,Nat.add_sub_cancel]
  show x::r=x::_;rw[e1,e2,List.dropLast_concat_getLast]
theorem CX {L:List Ch}{P:j0}(h:cQ L=some P):gy cV L=P.data/\iH dP L=Sc P.aD/\gy dP L=P.aD.getD ⟨#[]⟩:=by
 unfold cQ at h;split at h
 ·rename_i he;simp only[ld,Bool.and_eq_true,decide_eq_true_eq]at he;obtain⟨h2,hf,hl,_⟩:=he;cases ho:dU (gx L).name [] none (dO L) with
  | none=>rw[ho]at h;cases h
  | some x =>
   obtain⟨d,p⟩:=x;rw[ho]at h;simp only at h;split at h
   ·cases h
   ·injection h with h;subst h;obtain⟨b1,b2,b3,_⟩:=nL _ _ _ _ _ _ ho;have hs:=CW h2;have fI:jn (gx L).name cV=false:=gN hf (by decide);have fP:jn (gx L).name dP=false:=gN hf (by decide);have lI:jn (mY L).name cV=false:=gN hl (by decide);have lP:jn (mY L).name dP=false:=gN hl (by decide);rw[hs];generalize gx L=x at *;generalize mY L=z at *;generalize dO L=mid at *;rw[gO,gO,oP,ud,ud,CV];simp only[fI,fP,lI,lP,Bool.false_eq_true,if_false];refine⟨?_,b2,b3 rfl⟩;show gy cV mid=fe d;rw[b1];exact (iU _).symm
 ·cases h
section
open Go.RowKit
def bQ (c:Int)(n:Int):Int:=(if c<0 then -(c+1) else c)%n
theorem bg (c:Int){n:Int}(h:0<n):0<=bQ c n/\bQ c n<n:=⟨Int.emod_nonneg _ (by omega),Int.emod_lt_of_pos _ h⟩
theorem ob (c n:Int)(w:World)(h1:-9223372036854775808<=c)(h2:c<=9223372036854775807)(h3:0<n)(h4:n<=9223372036854775807): Calls Tryz.prog 48 #[.int .i64 c,.int .i64 n] w fun e w'=>e=.returned (.int .i64 (bQ c n))/\w'=w:=by
 have hn0:n≠0:=by omega
 have hn1:n≠-1:=by omega
 by_cases h:c<0
 ·have HP:Hid (bQ c n=(-(c+1))%n):=by show _=_;rw[bQ,if_pos h]
  have HE:Hid ((-(c+1)).tmod n=(-(c+1))%n):=Int.tmod_eq_emod_of_nonneg (by omega)
  go_enter Tryz.func48,Tryz.ntmps48
  go_wp2
  go_ret
  exact⟨aH (by rw[HP.out,<-HE.out,Int.neg_tmod]),rfl⟩
 ·have HP:Hid (bQ c n=c%n):=by show _=_;rw[bQ,if_neg h]
  have h0:0<=c:=by omega
  go_enter Tryz.func48,Tryz.ntmps48
  go_wp2
  go_ret
  exact⟨aH (by rw[HP.out]),rfl⟩
theorem ye:Rf.inflate (lw ⟨#[75,4,2,0]⟩) 4=⟨30,false,false,[97,97,97,97],[1]⟩:=by kernel_rfl
theorem Gy:Rf.inflate (lw ⟨#[75,4,0,0,98,0,98]⟩) 1=⟨18,false,false,[97],[1]⟩:=by kernel_rfl
theorem Ar:cX ⟨#[120,156,75,4,0,0,98,0,98]⟩ 1=0/\i7 ⟨#[120,156,75,4,0,0,98,0,98]⟩ 1=⟨#[97]⟩:=by
 have hm:mid ⟨#[120,156,75,4,0,0,98,0,98]⟩ 1=⟨18,false,false,[97],[1]⟩:=Gy
 have hc:cX ⟨#[120,156,75,4,0,0,98,0,98]⟩ 1=0:=by
  unfold cX;rw[hm];decide +kernel
 exact⟨hc,by rw[i7,hc,hm];rfl⟩
theorem Se (w:World):Calls Tryz.prog 17 #[] w fun e w'=>e=.returned (.bool true)/\Below w.heap.size w w':=by
 have h1:=FH ⟨#[75,4,2,0]⟩ 4 w (by decide) (by decide) (by decide);have h2:=fun v=>zB ⟨#[120,156,75,4,0,0,98,0,98]⟩ 1 v (by decide) (by decide) (by decide);rw[ye]at h1;rw[Ar.1,Ar.2]at h2;have ea:answer ⟨30,false,false,[97,97,97,97],[1]⟩=.tuple #[.string ⟨#[97,97,97,97]⟩,.int .i64 4,.int .i64 0]:=rfl;rw[ea]at h1;clear ea
 go_enter Tryz.func17,Tryz.ntmps17
 go_wp2_with fail;refine h1.mono ?_;rintro e w1 ⟨rfl,b1⟩;go_wp2_with fail;refine (h2 _).mono ?_;rintro e w2 ⟨rfl,-,b2⟩;go_wp2
 go_ret
 exact⟨rfl,b1.trans (b2.mono b1.size)⟩
theorem Gz (n:Nat)(hn:n<4294967296):(four (n:Int)).map bU=[.int .u8 ((n:Int)/16777216),.int .u8 ((n:Int)/65536%256),.int .u8 ((n:Int)/256%256),.int .u8 ((n:Int)%256)]:=by
 have h:∀x:Int,0<=x->x<256->((UInt8.ofNat x.toNat).toNat:Int)=x:=fun x h0 h1=>by
  rw[UInt8.toNat_ofNat'];have:x.toNat%2^8=x.toNat:=Nat.mod_eq_of_lt (by omega);rw[this];omega
 simp only[four,List.map_cons,List.map_nil,bU];rw[h _ (by omega) (by omega),h _ (by omega) (by omega),h _ (by omega) (by omega),h _ (by omega) (by omega)];rw[show (n:Int)/16777216%256=(n:Int)/16777216 by omega]
theorem Au (n:Nat)(hn:n<4294967296)(w:World):(convert 107 9 (.slice (some ⟨w.heap.size,0,none⟩) 4 4)).run Tryz.prog (w.alloc (.cells #[.int .u8 ((n:Int)/16777216),.int .u8 ((n:Int)/65536%256),.int .u8 ((n:Int)/256%256),.int .u8 ((n:Int)%256)] 5)) = .ok (.string ⟨(four (n:Int)).toArray⟩) (w.alloc (.cells #[.int .u8 ((n:Int)/16777216),.int .u8 ((n:Int)/65536%256),.int .u8 ((n:Int)/256%256),.int .u8 ((n:Int)%256)] 5)):=by
 refine fH (base:=w.heap.size) (n:=4) (l:=four (n:Int)) ⟨rfl,.inr ⟨w.heap.size,4,_,rfl,Nat.le_refl _,ah w _,Nat.le_refl _,by unfold maxLen;omega,rfl,?_⟩⟩ rfl;rw[Gz n hn];rfl
theorem pK (n:Nat)(w:World)(hn:n<4294967296): Calls Tryz.prog 98 #[.int .i64 n] w fun e w'=>e=.returned (.string ⟨(four n).toArray⟩)/\Below w.heap.size w w':=by
 have hcv:=Au n hn w
 go_enter Tryz.func98,Tryz.ntmps98
 go_wp2
 go_ret
 exact⟨rfl,ae w _⟩
end
end Go.Proofs.YtmfijackgekioaaGreatDoor
