import Derived.Test.YtmfijackgekioabGreatDoorQ10
set_option maxHeartbeats 4000000
set_option maxRecDepth 100000
namespace Go.Proofs.YtmfijackgekioabGreatDoor
structure Ch where
 name:ByteArray
 data:ByteArray
def eK (c:Nat):Bool:=(decide (65<=c)&&decide (c<=90))||(decide (97<=c)&&decide (c<=122))
def fF (s:ByteArray):Int:=4294967295-(Mx.mT s.data.toList:Int)
def dY (b:ByteArray):Nat:=(aJ b 0).toNat
theorem qi (b:ByteArray)(i:Nat):0<=aJ b i/\aJ b i<4294967296:=by
 have h0:=cu b i;have h1:=cu b (i+1);have h2:=cu b (i+2);have h3:=cu b (i+3);unfold aJ;omega
theorem nO (b:ByteArray):aJ b 0=(dY b:Int):=by have:=qi b 0;unfold dY;omega
def fG (b:ByteArray)(i:Nat):Bool:=eK (af b i)&&(eK (af b (i+1))&&(eK (af b (i+2))&&eK (af b (i+3))))
def ky (b:ByteArray):Bool:=decide (12<=b.size)&&(decide (dY b<=2147483647)&&(decide (dY b+12<=b.size)&&(fG b 4&&decide (aJ b (8+dY b)=fF (b.extract 4 (8+dY b))))))
def pA (b:ByteArray):Ch:=⟨b.extract 4 8,b.extract 8 (8+dY b)⟩
def gL (b:ByteArray):ByteArray:=b.extract (12+dY b) b.size
def LC:Nat->ByteArray->Option (List Ch)
 | 0,_=>none
 | f+1,b=>if b.size=0 then some [] else if ky b=true then (LC f (gL b)).map (fun l=>pA b::l) else none
def aM (b:ByteArray):Option (List Ch):=LC (b.size+1) b
theorem ot {b:ByteArray}(h:ky b=true):12<=b.size/\dY b+12<=b.size/\dY b<=2147483647:=by
 simp only[ky,aaQ,aaP]at h;exact⟨h.1,h.2.2.1,h.2.1⟩
theorem jU {b:ByteArray}(h:ky b=true):(gL b).size+12+dY b=b.size:=by
 have:=ot h;unfold gL;rw[aaO];omega
theorem Bs:∀(f g:Nat) (b:ByteArray),b.size<f->b.size<g->LC f b=LC g b
 | 0,_,_,h,_=>absurd h (by omega)
 | _+1,0,_,_,h=>absurd h (by omega)
 | f+1,g+1,b,h1,h2=>by
  rw[LC,LC];split
  ·rfl
  ·split
   ·rename_i h;have:=jU h;rw[Bs f g (gL b) (by omega) (by omega)]
   ·rfl
theorem pB {b:ByteArray}(h:b.size=0):aM b=some []:=by rw[aM,LC,aai h]
theorem jV {b:ByteArray}(h0:b.size≠0)(h:ky b=true):aM b=(aM (gL b)).map (fun l=>pA b::l):=by
 have:=jU h;rw[aM,LC,aag h0,aai h,Bs b.size ((gL b).size+1) (gL b) (by omega) (by omega)];rfl
theorem pC {b:ByteArray}(h0:b.size≠0)(h:ky b=false):aM b=none:=by rw[aM,LC,aag h0,aag (by rw[h];decide)]
section
open Go.RowKit
def gU (c:Nat):Bool:=decide (65<=c)&&decide (c<=90)
theorem Bt (c:Nat)(w:World): Calls Tryz.prog 131 #[.int .u8 c] w fun e w'=>e=.returned (.bool (gU c))/\w'=w:=by
 by_cases h1:65<=c
 ·have h1i:(65:Int)<=(c:Int):=by omega
  have HC:Hid (gU c=decide ((c:Int)<=90)):=by show _=_;unfold gU;rw[acE];simp;omega
  go_enter Tryz.func131,Tryz.ntmps131
  go_wp2
  all_goals go_ret
  all_goals refine⟨aO ?_,rfl⟩
  all_goals (rw[HC.out];try (first|rfl|(simp;omega)|simp))
 ·have h1i:¬(65:Int)<=(c:Int):=by omega
  have HC:Hid (gU c=false):=by show _=_;unfold gU;simp;omega
  go_enter Tryz.func131,Tryz.ntmps131
  go_wp2
  all_goals go_ret
  all_goals exact⟨aO (by rw[HC.out]),rfl⟩
def qj (s:ByteArray):Nat->Bool
 | 0=>true
 | k+1=>qj s k&&eK (af s k)
theorem FC {s:ByteArray}{k:Nat}(h:eK (af s k)=false):∀m,k<m->qj s m=false
 | 0,hm=>absurd hm (by omega)
 | m+1,hm=>by
  by_cases e:k=m
  ·subst e;rw[qj,h,Bool.and_false]
  ·rw[qj,FC h m (by omega),abN]
theorem Bu (s:ByteArray)(w:World)(hs:s.size<=1000000000): Calls Tryz.prog 130 #[.string s] w fun e w'=>e=.returned (.bool (qj s s.size))/\w'=w:=by
 go_enter Tryz.func130,Tryz.ntmps130
 go_wp2
 go_loop [7] (fun i=>∃k:Nat,k<=s.size/\i=.int .i64 k/\Hid (qj s k=true)) (fun i=>s.size-(intOf i).toNat)
 case atStart=>exact⟨0,aao _,rfl,rfl⟩
 case round =>
  obtain⟨k,hk,rfl,HK⟩:=hrel;by_cases hlt:k<s.size
  ·have hb:=ct s k hlt;have hb2:=cu s k;have H5:(k:Int)<(s.size:Int):=by omega
   have HN:Hid (eK (af s k)=false->qj s s.size=false):=fun h=>FC h _ hlt;have HY:Hid (eK (af s k)=true->qj s (k+1)=true):=fun h=>by rw[qj,HK.out,h];rfl
   have hcap:=fun v=>Bt (af s k) v
   have HL:Hid (eK (af s k)=((decide (97<=af s k)&&decide (af s k<=122))||gU (af s k))):=by
    show _=_;unfold eK gU;rw[Bool.or_comm]
   generalize af s k=c at *;by_cases hsm:97<=c/\c<=122
   ·have q1:(97:Int)<=(c:Int):=by omega
    have q2:(c:Int)<=122:=by omega
    have hl:eK c=true:=by rw[HL.out];simp[hsm.1,hsm.2]
    have HY2:Hid (qj s (k+1)=true):=HY.out hl;clear hl HN HY HL;go_wp2
    go_round
    case rel=>exact⟨k+1,by omega,by go_num,HY2⟩
    case measure=>simp[intOf];omega
   ·have hd:(decide (97<=c)&&decide (c<=122))=false:=by
     rw[Bool.eq_false_iff];intro h;simp at h;exact hsm h
    have hl:eK c=gU c:=by rw[HL.out,hd,Bool.false_or]
    rw[hl]at HN HY;have hor:¬(97:Int)<=(c:Int)\/((97:Int)<=(c:Int)/\¬(c:Int)<=122):=by omega
    clear HL hd hl hsm;generalize gU c=cb at *;cases cb
    ·have Tq:Hid (qj s s.size=false):=HN.out rfl;clear HN HY;rcases hor with q1|⟨q1,q2⟩
     all_goals
      go_wp2_with (go_at_call 131;refine (hcap _).mono ?_;rintro e w' ⟨rfl,rfl⟩)
      go_ret
      exact⟨aO (by rw[Tq.out]),rfl⟩
    ·have HY2:Hid (qj s (k+1)=true):=HY.out rfl;clear HN HY;rcases hor with q1|⟨q1,q2⟩
     all_goals
      go_wp2_with (go_at_call 131;refine (hcap _).mono ?_;rintro e w' ⟨rfl,rfl⟩)
      go_round
      case rel=>exact⟨k+1,by omega,by go_num,HY2⟩
      case measure=>simp[intOf];omega
  ·have H5:¬(k:Int)<(s.size:Int):=by omega
   have e:k=s.size:=by omega
   go_wp2
   go_ret
   exact⟨aO (by rw[<-e,HK.out]),rfl⟩
theorem bU (b:ByteArray)(i j k:Nat)(h1:i+k<j)(_h2:j<=b.size):af (b.extract i j) k=af b (i+k):=by
 unfold af;rw[acs,acP,acl];simp only[aad];rw[ab6,aai (by omega),List.getElem?_drop]
theorem nP (b:ByteArray)(i j k:Nat)(h1:i+k+3<j)(h2:j<=b.size):aJ (b.extract i j) k=aJ b (i+k):=by
 unfold aJ;rw[bU b i j k (by omega) h2,bU b i j (k+1) (by omega) h2,bU b i j (k+2) (by omega) h2,bU b i j (k+3) (by omega) h2];rfl
theorem kD (b:ByteArray):oG b.data.toList=aJ b 0:=by unfold oG aJ af;simp
theorem sN (b:ByteArray)(h:8<=b.size):qj (b.extract 4 8) (b.extract 4 8).size=fG b 4:=by
 have e:(b.extract 4 8).size=4:=by rw[aaO];omega
 rw[e];simp only[qj,fG,ade];rw[bU b 4 8 0 (by omega) h,bU b 4 8 1 (by omega) h,bU b 4 8 2 (by omega) h,bU b 4 8 3 (by omega) h];simp only[Bool.and_assoc]
def LD (b:ByteArray)(w:World)(e:Ending)(w':World):Prop :=
 ((ky b=true/\e=.returned (.agg #[.string (pA b).name,.string (pA b).data]))\/(ky b=false/\e=dies 11))/\Below w.heap.size w w'
theorem FE (b:ByteArray)(i j k l:Nat)(h:i+l<=j):(b.extract i j).extract k l=b.extract (i+k) (i+l):=by
 rw[ByteArray.extract_extract]
 congr 1
 omega
theorem Tr (b:ByteArray)(w:World)(hs:b.size<=1000000000): Calls Tryz.prog 89 #[.string b] w fun e w'=>LD b w e w':=by
 unfold LD;by_cases h12:b.size<12
 ·have HE:Hid (ky b=false):=by show _=_;unfold ky;rw[show decide (12<=b.size)=false from abT (by omega),abN]
  have LE:(b.size:Int)-4-4-4<0:=by omega
  go_enter Tryz.func89,Tryz.ntmps89
  go_wp2;exact⟨rfl,.inr ⟨HE.out,rfl⟩,ae _ _⟩
 ·have LE:¬(b.size:Int)-4-4-4<0:=by omega
  have UT:=fun v=>kI b v (by omega);rw[kD,nO]at UT
  have pO:Hid (ky b=(decide (dY b<=2147483647)&&(decide (dY b+12<=b.size)&&(fG b 4&&decide (aJ b (8+dY b)=fF (b.extract 4 (8+dY b))))))):=by
   show _=_;unfold ky;rw[show decide (12<=b.size)=true from abh (by omega),ade]
  have hch:pA b=⟨b.extract 4 8,b.extract 8 (8+dY b)⟩:=rfl;have hn2:dY b<4294967296:=by have:=qi b 0;have:=nO b;omega
  rw[hch];generalize dY b=n at *;by_cases hbig:n<=2147483647/\n+12<=b.size
  ·obtain⟨hb1,hb2⟩:=hbig;have hal:=fun v=>Bu (b.extract 4 8) v (by rw[aaO];omega);rw[sN b (by omega)]at hal;have hfr:=fun v=>kI (b.extract (8+n) b.size) v (by rw[aaO];omega);rw[kD,nP b (8+n) b.size 0 (by omega) (aaf _),acq]at hfr;have hcr:=fun v=>Vv (b.extract 4 (8+n)) v (by rw[aaO];unfold maxLen;omega);have hK:(b.extract 4 (8+n)).size=n+4:=by rw[aaO];omega
   have hx1:(b.extract 4 (8+n)).extract 0 4=b.extract 4 8:=FE b 4 (8+n) 0 4 (by omega)
   have hx2:(b.extract 4 (8+n)).extract 4 (n+4)=b.extract 8 (8+n):=by
    rw[FE b 4 (8+n) 4 (n+4) (by omega)]
    congr 1
    omega
   have Ts:Hid (ky b=(fG b 4&&decide (aJ b (8+n)=4294967295-(Mx.mT (b.extract 4 (8+n)).data.toList:Int)))):=by
    show _=_;rw[pO.out,abh hb1,abh hb2,ade,ade];rfl
   have n1:¬(n:Int)>2147483647:=by omega
   have n2:¬(n:Int)>(b.size:Int)-4-4-4:=by omega
   have s1:IntKind.i64.wrap (8+(n:Int))=((8+n:Nat):Int):=(aan _ (by omega)).trans (by omega);have s2:((8+n:Nat):Int)<=(b.size:Int):=by omega
   have s3:(4:Int)<=((8+n:Nat):Int):=by omega
   have HB:Hid (b.size<=1000000000/\n<=2147483647/\n+12<=b.size):=⟨hs,hb1,hb2⟩
   obtain⟨rm,hrm⟩:∃rm,(b.size:Int)-4-4-4=rm:=⟨_,rfl⟩
   have r1:IntKind.i64.wrap ((b.size:Int)-4)=(b.size:Int)-4:=aan _ (by omega);have r2:IntKind.i64.wrap ((b.size:Int)-4-4)=(b.size:Int)-4-4:=aan _ (by omega);have r3:IntKind.i64.wrap ((b.size:Int)-4-4-4)=rm:=(aan _ (by omega)).trans hrm;rw[hrm]at LE n2;have d1:decide ((2147483647:Int)<(n:Int))=false:=abT n1;have d2:decide (rm<(n:Int))=false:=abT n2;have d3:decide (rm<0)=false:=abT LE;clear pO hch hs hb1 hb2 hn2 h12 hrm n1 n2 LE;generalize (4294967295-(Mx.mT (b.extract 4 (8+n)).data.toList:Int))=CR at *;generalize aJ b (8+n)=FR at *;generalize fG b 4=LB at *;generalize hCO:ky b=CO at *;generalize hKE:b.extract 4 (8+n)=KK at *;generalize hR:b.extract (8+n) b.size=RS at *;generalize b.extract 4 8=NM at *;generalize b.extract 8 (8+n)=DT at *
   go_enter Tryz.func89,Tryz.ntmps89
   go_wp2_with fail;refine (UT _).mono ?_;rintro e w1 ⟨rfl,m1,rfl⟩;go_wp2_with fail
   go_quiet (fail)
   rw[hKE,hR];have HRB:(((w.alloc (.cells #[.string ⟨#[]⟩,.string ⟨#[]⟩] 83)).drewN m1).drewN nq).heap[w.heap.size]?=some (.cells #[.string ⟨#[]⟩,.string ⟨#[]⟩] 83 (0,0)):=ah w _;have B1:Below w.heap.size w (((w.alloc (.cells #[.string ⟨#[]⟩,.string ⟨#[]⟩] 83)).drewN m1).drewN nq):=aaA (aaA (ae w _) m1) nq;generalize (((w.alloc (.cells #[.string ⟨#[]⟩,.string ⟨#[]⟩] 83)).drewN m1).drewN nq)=u at *;have hS:True:=trivial;clear UT s1 s2 s3 r1 r2 r3 d1 d2 d3;go_wp2_with fail;refine ax (fun _=>True) 999 ?_;have B2:=B1.drew;have HR2:u.drew.heap[w.heap.size]?=some (.cells #[.string ⟨#[]⟩,.string ⟨#[]⟩] 83 (0,0)):=HRB;clear B1 HRB;generalize u.drew=v at *;have hK4:(4:Int)<=(KK.size:Int):=by omega
   refine ap [0] ?_
   iterate 1 (refine au (v:=?_) ?_ hS ?_;rotate_left;(·intro w hSw;(try dsimp only at hSw);go_simp;try with_reducible rfl);try simp only[Act.put])
   refine aj ?_;refine aD 1 (v:=.string NM) ?_ hS ?_
   ·intro w hSw;(try dsimp only at hSw);go_simp;try (intro h9;exact absurd h9 (by omega))
   simp only[Act.put];refine ap [2] ?_
   iterate 1 (refine au (v:=?_) ?_ hS ?_;rotate_left;(·intro w hSw;(try dsimp only at hSw);go_simp;try with_reducible rfl);try simp only[Act.put])
   refine aj ?_;refine aD 3 (v:=.string DT) ?_ hS ?_
   ·intro w hSw;(try dsimp only at hSw);go_simp;try (intro h9;exact absurd h9 (by omega))
   simp only[Act.put];refine ap [4] ?_
   iterate 1 (refine au (v:=?_) ?_ hS ?_;rotate_left;(·intro w hSw;(try dsimp only at hSw);go_simp;try with_reducible rfl);try simp only[Act.put])
   refine aj ?_;refine ag 5 fun K hK=>?_;go_simp;refine hK _ _ (fun _=>trivial) ?_;clear hK K;refine ag 6 fun K hK=>?_;go_simp;refine hK _ _ (fun _=>trivial) ?_;clear hK K;refine am ?_;have hC:=ah v (.cells #[.string NM,.string DT] 83);have HR3:=(abV v (.cells #[.string NM,.string DT] 83) w.heap.size (aac HR2)).trans HR2;have B3:Below w.heap.size w (v.alloc (.cells #[.string NM,.string DT] 83)):=B2.trans ((ae v _).mono B2.size);obtain⟨C,Xa⟩:∃C,v.heap.size=C:=⟨_,rfl⟩
   have hne:w.heap.size≠C:=by have:=aac HR2;omega
   rw[Xa]at hC ⊢;clear B2 HR2 Xa hx1 hx2 hK hK4 hKE hR;generalize v.alloc (.cells #[.string NM,.string DT] 83)=v2 at *;obtain⟨c0,c1,cf,cl⟩:=aP hC;cases LB
   ·have HF:Hid (CO=false):=by show _=_;rw[Ts.out];rfl
    go_wp2_with fail;refine (hal _).mono ?_;rintro e w' ⟨rfl,rfl⟩;go_wp2;exact⟨rfl,.inr ⟨HF.out,rfl⟩,B3⟩
   ·go_wp2_with fail;refine (hal _).mono ?_;rintro e w' ⟨rfl,rfl⟩;go_wp2_with fail;refine (hfr _).mono ?_;rintro e w' ⟨rfl,m2,rfl⟩;have B4:Below w.heap.size w (w'.drewN m2):=aaA B3 m2;have hC4:(w'.drewN m2).heap[C]?=some (.cells #[.string NM,.string DT] 83 (0,0)):=hC;have HR4:(w'.drewN m2).heap[w.heap.size]?=some (.cells #[.string ⟨#[]⟩,.string ⟨#[]⟩] 83 (0,0)):=HR3;clear c0 c1 cf cl hC HR3 B3;generalize w'.drewN m2=v3 at *;go_wp2_with fail;refine (hcr _).mono ?_;rintro e w'' ⟨rfl,rfl⟩;by_cases hq:FR=CR
    ·have hqb:(FR != CR)=false:=by rw[bne_eq_false_iff_eq];exact hq
     have HF:Hid (CO=true):=by show _=_;rw[Ts.out,abh hq];rfl
     obtain⟨c0,c1,cf,cl⟩:=aP hC4;obtain⟨x0,x1,xf,xl⟩:=aP HR4;have hset:=gD HR4 (.string NM) (.string DT);obtain⟨y0,y1,_,_⟩:=aP hset;clear hC4 HR4 hset hq;go_wp2;refine aaG (v:=.agg #[.string NM,.string DT]) (by simp[results,Tryz.results89,go_sem,y0,y1]) rfl ⟨.inl ⟨HF.out,rfl⟩,(B4.setCell (p:=⟨w.heap.size,0,none⟩) (aaf _) _).setCell (p:=⟨w.heap.size,1,none⟩) (aaf _) _⟩
    ·have hqb:(FR != CR)=true:=by rw[bne_iff_ne];exact hq
     have HF:Hid (CO=false):=by show _=_;rw[Ts.out,abT hq];rfl
     clear hq;go_wp2;exact⟨rfl,.inr ⟨HF.out,rfl⟩,B4⟩
  ·have HF:Hid (ky b=false):=by
    show _=_;rw[pO.out];by_cases q:n<=2147483647
    ·rw[abT (show ¬n+12<=b.size from fun h=>hbig ⟨q,h⟩),abN,Bool.and_false]
    ·rw[abT q,abN]
   obtain⟨rm,hrm⟩:∃rm,(b.size:Int)-4-4-4=rm:=⟨_,rfl⟩
   have r1:IntKind.i64.wrap ((b.size:Int)-4)=(b.size:Int)-4:=aan _ (by omega);have r2:IntKind.i64.wrap ((b.size:Int)-4-4)=(b.size:Int)-4-4:=aan _ (by omega);have r3:IntKind.i64.wrap ((b.size:Int)-4-4-4)=rm:=(aan _ (by omega)).trans hrm;have d3:decide (rm<0)=false:=abT (by omega)
   have hor:(decide ((2147483647:Int)<(n:Int))=true)\/(decide ((2147483647:Int)<(n:Int))=false/\decide (rm<(n:Int))=true):=by
    by_cases q:(2147483647:Int)<(n:Int)
    ·exact .inl (abh q)
    ·exact .inr ⟨abT q,abh (by omega)⟩
   clear hs hn2 h12 LE hrm hbig pO hch;rcases hor with d1|⟨d1,d2⟩
   all_goals
    go_enter Tryz.func89,Tryz.ntmps89
    go_wp2_with fail;refine (UT _).mono ?_;rintro e w1 ⟨rfl,m1,rfl⟩;go_wp2;exact⟨rfl,.inr ⟨HF.out,rfl⟩,aaA (ae w _) m1⟩
end
abbrev bX:List UInt8:=[73,72,68,82]
abbrev cM:List UInt8:=[80,76,84,69]
abbrev cj:List UInt8:=[73,68,65,84]
abbrev jW:List UInt8:=[73,69,78,68]
def iV (s:ByteArray)(l:List UInt8):Bool:=s.toList==l
theorem zg {s:ByteArray}{l:List UInt8}(h:iV s l=true):s.data.toList=l:=by
 unfold iV at h;rw[ByteArray.toList_eq]at h;exact eq_of_beq h
theorem ib {s:ByteArray}{l m:List UInt8}(h:iV s l=true)(hne:l≠m):iV s m=false:=by
 rw[Bool.eq_false_iff];intro hm;exact hne ((zg h).symm.trans (zg hm))
def cE:ByteArray->List ByteArray->Option ByteArray->List Ch->Option (List ByteArray×Option ByteArray)
 | _,d,p,[]=>some (d,p)
 | a,d,p,c::r =>
  if (iV c.name cj&&(d.isEmpty||iV a cj))=true then cE c.name (d++[c.data]) p r
  else if (iV c.name cM&&d.isEmpty&&p.isNone)=true then cE c.name d (some c.data) r
  else if gU (af c.name 0)=true then none
  else cE c.name d p r
def eO:List ByteArray->ByteArray
 | []=>⟨#[]⟩
 | x::r=>x++eO r
structure kV where
 head:ByteArray
 aq:Option ByteArray
 data:ByteArray
def jC (L:List Ch):Ch:=L.getD (L.length-1) ⟨⟨#[]⟩,⟨#[]⟩⟩
def fX (L:List Ch):Ch:=L.getD 0 ⟨⟨#[]⟩,⟨#[]⟩⟩
def dN (L:List Ch):List Ch:=(L.take (L.length-1)).drop 1
def iW (L:List Ch):Bool:=decide (2<=L.length)&&(iV (fX L).name bX&&(iV (jC L).name jW&&(jC L).data.toList.isEmpty))
def cA (L:List Ch):Option kV :=
 if iW L=true then
  match cE (fX L).name [] none (dN L) with
  | some (d,p)=>if d.isEmpty=true then none else some ⟨(fX L).data,p,eO d⟩
  | none=>none
 else none
def Tt:Option ByteArray->Nat|none=>0|some _=>1
def gM (nm:List UInt8)(L:List Ch):ByteArray:=L.foldl (fun s c=>if iV c.name nm=true then s++c.data else s) ⟨#[]⟩
def i6 (nm:List UInt8)(L:List Ch):Nat:=L.foldl (fun n c=>if iV c.name nm=true then n+1 else n) 0
theorem uX (nm:List UInt8)(L:List Ch)(c:Ch):gM nm (L++[c])=if iV c.name nm=true then gM nm L++c.data else gM nm L:=by
 unfold gM;rw[List.foldl_append];rfl
theorem D6 (nm:List UInt8)(L:List Ch)(c:Ch):i6 nm (L++[c])=if iV c.name nm=true then i6 nm L+1 else i6 nm L:=by
 unfold i6;rw[List.foldl_append];rfl
theorem jk (b:ByteArray):(⟨#[]⟩:ByteArray)++b=b:=ByteArray.ext (by simp[ByteArray.data_append])
theorem mh (b:ByteArray):b++(⟨#[]⟩:ByteArray)=b:=ByteArray.ext (by simp[ByteArray.data_append])
theorem rq (a b c:ByteArray):a++b++c=a++(b++c):=ByteArray.ext (by simp[ByteArray.data_append])
theorem pD (nm:List UInt8):∀(L:List Ch) (s:ByteArray),L.foldl (fun s c=>if iV c.name nm=true then s++c.data else s) s=s++gM nm L
 | [],s=>(mh s).symm
 | c::r,s=>by
  have e:gM nm (c::r)=(if iV c.name nm=true then (⟨#[]⟩:ByteArray)++c.data else ⟨#[]⟩)++gM nm r:=by
   show List.foldl _ _ (c::r)=_;rw[List.foldl_cons,pD nm r]
  rw[List.foldl_cons,pD nm r,e];split
  ·rw[jk,rq]
  ·rw[jk]
theorem pE (nm:List UInt8):∀(L:List Ch) (n:Nat),L.foldl (fun n c=>if iV c.name nm=true then n+1 else n) n=n+i6 nm L
 | [],n=>rfl
 | c::r,n=>by
  have e:i6 nm (c::r)=(if iV c.name nm=true then 0+1 else 0)+i6 nm r:=by
   show List.foldl _ _ (c::r)=_;rw[List.foldl_cons,pE nm r]
  rw[List.foldl_cons,pE nm r,e];split<;>omega
theorem ic (nm:List UInt8)(c:Ch)(r:List Ch):gM nm (c::r)=if iV c.name nm=true then c.data++gM nm r else gM nm r:=by
 rw[gM,List.foldl_cons,pD];split
 ·rw[jk]
 ·rw[jk]
theorem pF (nm:List UInt8)(c:Ch)(r:List Ch):i6 nm (c::r)=if iV c.name nm=true then i6 nm r+1 else i6 nm r:=by
 rw[i6,List.foldl_cons,pE];split<;>omega
theorem Bv (d:List ByteArray)(x:ByteArray):eO (d++[x])=eO d++x:=by
 induction d with
 | nil=>show x++_=_;rw[show eO []=⟨#[]⟩ from rfl,mh,jk]
 | cons y r ih=>show y++eO (r++[x])=y++eO r++x;rw[ih,rq]
theorem LF {c:Ch}{nm:List UInt8}(h:iV c.name nm=true)(h0:(nm.getD 0 0).toNat<=90)(h1:65<=(nm.getD 0 0).toNat):gU (af c.name 0)=true:=by
 have:=zg h;unfold af;rw[this];unfold gU;simp at h0 h1 ⊢;omega
theorem ou:∀(r:List Ch) (a:ByteArray) (d:List ByteArray) (p:Option ByteArray) (d':List ByteArray) (p':Option ByteArray),cE a d p r=some (d',p') -> eO d'=eO d++gM cj r/\i6 cM r+Tt p=Tt p'/\(p=none->gM cM r=p'.getD ⟨#[]⟩)/\(∀x,p=some x->p'=some x)
 | [],a,d,p,d',p',h=>by
  rw[cE]at h;injection h with h;injection h with h1 h2;subst h1 h2;refine⟨(mh _).symm,aaR _,fun e=>?_,fun x e=>e⟩;rw[e];rfl
 | c::r,a,d,p,d',p',h=>by
  rw[cE]at h;rw[ic,pF,ic];by_cases h1:(iV c.name cj&&(d.isEmpty||iV a cj))=true
  ·rw[aai h1]at h;obtain⟨b1,b2,b3,b4⟩:=ou r c.name _ p d' p' h;have hI:iV c.name cj=true:=by rw[aaQ]at h1;exact h1.1
   have hP:iV c.name cM=false:=ib hI (by decide);rw[aai hI,aag (by rw[hP];decide),aag (by rw[hP];decide)];refine⟨?_,b2,b3,b4⟩;rw[b1,Bv,rq]
  ·rw[aag h1]at h;by_cases h2:(iV c.name cM&&d.isEmpty&&p.isNone)=true
   ·rw[aai h2]at h;obtain⟨b1,b2,b3,b4⟩:=ou r c.name d (some c.data) d' p' h;simp only[aaQ]at h2;obtain⟨⟨hP,_⟩,hp⟩:=h2;have hI:iV c.name cj=false:=ib hP (by decide);have hp':p=none:=by cases p with|none=>rfl|some x=>cases hp
    subst hp';rw[aag (by rw[hI];decide),aai hP,aai hP];have e:=b4 _ rfl;subst e;have b2':i6 cM r+1=1:=b2;refine⟨b1,?_,fun _=>?_,fun x e=>by cases e⟩
    ·show i6 cM r+1+0=1;omega
    ·have:gM cM r=⟨#[]⟩:=join_none cM r (by omega);rw[this,mh];rfl
   ·rw[aag h2]at h;by_cases h3:gU (af c.name 0)=true
    ·rw[aai h3]at h;cases h
    ·rw[aag h3]at h;obtain⟨b1,b2,b3,b4⟩:=ou r c.name d p d' p' h;have hI:¬iV c.name cj=true:=fun e=>h3 (LF e (by decide) (by decide));have hP:¬iV c.name cM=true:=fun e=>h3 (LF e (by decide) (by decide));rw[aag hI,aag hP,aag hP];exact⟨b1,b2,b3,b4⟩
 where
 join_none (nm:List UInt8):∀(r:List Ch),i6 nm r=0->gM nm r=⟨#[]⟩
  | [],_=>rfl
  | c::r,h=>by
   rw[pF]at h
   rw[ic]
   split
   ·rename_i e
    rw[aai e]at h
    omega
   ·rename_i e
    rw[aag e]at h
    exact join_none nm r h
theorem D7 {L:List Ch}(h:2<=L.length):L=fX L::(dN L++[jC L]):=by
 cases L with
 | nil=>simp at h
 | cons x r =>
  have hr:r≠[]:=fun e=>by subst e;simp at h
  have e1:dN (x::r)=r.dropLast:=by
   unfold dN;rw[aaw,Nat.add_sub_cancel];obtain⟨n,hn⟩:∃n,r.length=n+1:=⟨r.length-1,by have:=List.length_pos_iff.2 hr;omega⟩
   rw[hn,List.take_succ_cons,List.drop_succ_cons,ac6,List.dropLast_eq_take,hn];rfl
  have e2:jC (x::r)=r.getLast hr:=by
   unfold jC;rw[aaw,Nat.add_sub_cancel];obtain⟨n,hn⟩:∃n,r.length=n+1:=⟨r.length-1,by have:=List.length_pos_iff.2 hr;omega⟩
   rw[hn,List.getD_cons_succ,List.getLast_eq_getElem,aad,aaj (by omega)];simp only[adn,hn,Nat.add_sub_cancel]
  show x::r=x::_;rw[e1,e2,List.dropLast_concat_getLast]
theorem D8 {L:List Ch}{P:kV}(h:cA L=some P):gM cj L=P.data/\i6 cM L=Tt P.aq/\gM cM L=P.aq.getD ⟨#[]⟩:=by
 unfold cA at h;split at h
 ·rename_i he;simp only[iW,aaQ,aaP]at he;obtain⟨h2,hf,hl,_⟩:=he;cases ho:cE (fX L).name [] none (dN L) with
  | none=>rw[ho]at h;cases h
  | some x =>
   obtain⟨d,p⟩:=x;rw[ho]at h;simp only at h;split at h
   ·cases h
   ·injection h with h;subst h;obtain⟨b1,b2,b3,_⟩:=ou _ _ _ _ _ _ ho;have hs:=D7 h2;have fI:iV (fX L).name cj=false:=ib hf (by decide);have fP:iV (fX L).name cM=false:=ib hf (by decide);have lI:iV (jC L).name cj=false:=ib hl (by decide);have lP:iV (jC L).name cM=false:=ib hl (by decide);rw[hs];generalize fX L=x at *;generalize jC L=z at *;generalize dN L=mid at *;rw[ic,ic,pF,uX,uX,D6];simp only[fI,fP,lI,lP,ach,if_false];refine⟨?_,b2,b3 rfl⟩;show gM cj mid=eO d;rw[b1];exact (jk _).symm
 ·cases h
section
open Go.RowKit
def cN (c:Int)(n:Int):Int:=(if c<0 then -(c+1) else c)%n
theorem bH (c:Int){n:Int}(h:0<n):0<=cN c n/\cN c n<n:=⟨Int.emod_nonneg _ (by omega),Int.emod_lt_of_pos _ h⟩
theorem oO (c n:Int)(w:World)(h1:-9223372036854775808<=c)(h2:c<=9223372036854775807)(h3:0<n)(h4:n<=9223372036854775807): Calls Tryz.prog 11 #[.int .i64 c,.int .i64 n] w fun e w'=>e=.returned (.int .i64 (cN c n))/\w'=w:=by
 have hn0:n≠0:=by omega
 have hn1:n≠-1:=by omega
 by_cases h:c<0
 ·have HP:Hid (cN c n=(-(c+1))%n):=by show _=_;rw[cN,aai h]
  have HE:Hid ((-(c+1)).tmod n=(-(c+1))%n):=acM (by omega)
  go_enter Tryz.func11,Tryz.ntmps11
  go_wp2
  go_ret
  exact⟨aK (by rw[HP.out,<-HE.out,Int.neg_tmod]),rfl⟩
 ·have HP:Hid (cN c n=c%n):=by show _=_;rw[cN,aag h]
  have h0:0<=c:=by omega
  go_enter Tryz.func11,Tryz.ntmps11
  go_wp2
  go_ret
  exact⟨aK (by rw[HP.out]),rfl⟩
theorem zh:Rf.inflate (lw ⟨#[75,4,2,0]⟩) 4=⟨30,false,false,[97,97,97,97],[1]⟩:=by kernel_rfl
theorem H9:Rf.inflate (lw ⟨#[75,4,0,0,98,0,98]⟩) 1=⟨18,false,false,[97],[1]⟩:=by kernel_rfl
theorem Bw:dx ⟨#[120,156,75,4,0,0,98,0,98]⟩ 1=0/\js ⟨#[120,156,75,4,0,0,98,0,98]⟩ 1=⟨#[97]⟩:=by
 have hm:mid ⟨#[120,156,75,4,0,0,98,0,98]⟩ 1=⟨18,false,false,[97],[1]⟩:=H9
 have hc:dx ⟨#[120,156,75,4,0,0,98,0,98]⟩ 1=0:=by
  unfold dx;rw[hm];decide +kernel
 exact⟨hc,by rw[js,hc,hm];rfl⟩
theorem Tv (w:World):Calls Tryz.prog 17 #[] w fun e w'=>e=.returned (.bool true)/\Below w.heap.size w w':=by
 have h1:=GN ⟨#[75,4,2,0]⟩ 4 w (by decide) (by decide) (by decide);have h2:=fun v=>AB ⟨#[120,156,75,4,0,0,98,0,98]⟩ 1 v (by decide) (by decide) (by decide);rw[zh]at h1;rw[Bw.1,Bw.2]at h2;have ea:answer ⟨30,false,false,[97,97,97,97],[1]⟩=.tuple #[.string ⟨#[97,97,97,97]⟩,.int .i64 4,.int .i64 0]:=rfl;rw[ea]at h1;clear ea
 go_enter Tryz.func17,Tryz.ntmps17
 go_wp2_with fail;refine h1.mono ?_;rintro e w1 ⟨rfl,b1⟩;go_wp2_with fail;refine (h2 _).mono ?_;rintro e w2 ⟨rfl,-,b2⟩;go_wp2
 go_ret
 exact⟨rfl,b1.trans (b2.mono b1.size)⟩
theorem Ia (n:Nat)(hn:n<4294967296):(four (n:Int)).map cx=[.int .u8 ((n:Int)/16777216),.int .u8 ((n:Int)/65536%256),.int .u8 ((n:Int)/256%256),.int .u8 ((n:Int)%256)]:=by
 have h:∀x:Int,0<=x->x<256->((UInt8.ofNat x.toNat).toNat:Int)=x:=fun x h0 h1=>by
  rw[adh];have:x.toNat%2^8=x.toNat:=abt (by omega);rw[this];omega
 simp only[four,acR,List.map_nil,cx];rw[h _ (by omega) (by omega),h _ (by omega) (by omega),h _ (by omega) (by omega),h _ (by omega) (by omega)];rw[show (n:Int)/16777216%256=(n:Int)/16777216 by omega]
theorem sk (n:Nat)(hn:n<4294967296)(w:World):(convert 36 9 (.slice (some ⟨w.heap.size,0,none⟩) 4 4)).run Tryz.prog (w.alloc (.cells #[.int .u8 ((n:Int)/16777216),.int .u8 ((n:Int)/65536%256),.int .u8 ((n:Int)/256%256),.int .u8 ((n:Int)%256)] 5)) = .ok (.string ⟨(four (n:Int)).toArray⟩) (w.alloc (.cells #[.int .u8 ((n:Int)/16777216),.int .u8 ((n:Int)/65536%256),.int .u8 ((n:Int)/256%256),.int .u8 ((n:Int)%256)] 5)):=by
 refine fR (base:=w.heap.size) (n:=4) (l:=four (n:Int)) ⟨rfl,.inr ⟨w.heap.size,4,_,rfl,aaf _,ah w _,aaf _,by unfold maxLen;omega,rfl,?_⟩⟩ rfl;rw[Ia n hn];rfl
theorem qk (n:Nat)(w:World)(hn:n<4294967296): Calls Tryz.prog 80 #[.int .i64 n] w fun e w'=>e=.returned (.string ⟨(four n).toArray⟩)/\Below w.heap.size w w':=by
 have hcv:=sk n hn w
 go_enter Tryz.func80,Tryz.ntmps80
 go_wp2
 go_ret
 exact⟨rfl,ae w _⟩
end
end Go.Proofs.YtmfijackgekioabGreatDoor
