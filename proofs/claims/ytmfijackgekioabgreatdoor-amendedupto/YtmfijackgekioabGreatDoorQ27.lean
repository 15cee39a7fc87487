import Derived.Test.YtmfijackgekioabGreatDoorQ09
set_option maxHeartbeats 4000000
set_option maxRecDepth 100000
namespace Go.Proofs.YtmfijackgekioabGreatDoor
structure Ch where
 name:ByteArray
 data:ByteArray
def eD (c:Nat):Bool:=(decide (65<=c)&&decide (c<=90))||(decide (97<=c)&&decide (c<=122))
def lU (s:ByteArray):Int:=4294967295-(Mx.oE s.data.toList:Int)
def eg (b:ByteArray):Nat:=(aK b 0).toNat
theorem pU (b:ByteArray)(i:Nat):0<=aK b i/\aK b i<4294967296:=by
 have h0:=cE b i;have h1:=cE b (i+1);have h2:=cE b (i+2);have h3:=cE b (i+3);unfold aK;omega
theorem uC (b:ByteArray):aK b 0=(eg b:Int):=by have:=pU b 0;unfold eg;omega
def fA (b:ByteArray)(i:Nat):Bool:=eD (af b i)&&(eD (af b (i+1))&&(eD (af b (i+2))&&eD (af b (i+3))))
def lV (b:ByteArray):Bool:=decide (12<=b.size)&&(decide (eg b<=2147483647)&&(decide (eg b+12<=b.size)&&(fA b 4&&decide (aK b (8+eg b)=lU (b.extract 4 (8+eg b))))))
def o6 (b:ByteArray):Ch:=⟨b.extract 4 8,b.extract 8 (8+eg b)⟩
def gE (b:ByteArray):ByteArray:=b.extract (12+eg b) b.size
def Ld:Nat->ByteArray->Option (List Ch)
 | 0,_=>none
 | f+1,b=>if b.size=0 then some [] else if lV b=true then (Ld f (gE b)).map (fun l=>o6 b::l) else none
def aM (b:ByteArray):Option (List Ch):=Ld (b.size+1) b
theorem qN {b:ByteArray}(h:lV b=true):12<=b.size/\eg b+12<=b.size/\eg b<=2147483647:=by
 simp only[lV,aaS,aaW]at h;exact⟨h.1,h.2.2.1,h.2.1⟩
theorem jH {b:ByteArray}(h:lV b=true):(gE b).size+12+eg b=b.size:=by
 have:=qN h;unfold gE;rw[aaL];omega
theorem A0:∀(f g:Nat) (b:ByteArray),b.size<f->b.size<g->Ld f b=Ld g b
 | 0,_,_,h,_=>absurd h (by omega)
 | _+1,0,_,_,h=>absurd h (by omega)
 | f+1,g+1,b,h1,h2=>by
  rw[Ld,Ld];split
  ·rfl
  ·split
   ·rename_i h;have:=jH h;rw[A0 f g (gE b) (by omega) (by omega)]
   ·rfl
theorem uD {b:ByteArray}(h:b.size=0):aM b=some []:=by rw[aM,Ld,aaj h]
theorem rJ {b:ByteArray}(h0:b.size≠0)(h:lV b=true):aM b=(aM (gE b)).map (fun l=>o6 b::l):=by
 have:=jH h;rw[aM,Ld,aai h0,aaj h,A0 b.size ((gE b).size+1) (gE b) (by omega) (by omega)];rfl
theorem Dx {b:ByteArray}(h0:b.size≠0)(h:lV b=false):aM b=none:=by rw[aM,Ld,aai h0,aai (by rw[h];decide)]
section
open Go.RowKit
def gM (c:Nat):Bool:=decide (65<=c)&&decide (c<=90)
theorem A3 (c:Nat)(w:World): Calls Tryz.prog 131 #[.int .u8 c] w fun e w'=>e=.returned (.bool (gM c))/\w'=w:=by
 by_cases h1:65<=c
 ·have h1i:(65:Int)<=(c:Int):=by omega
  have HC:Hid (gM c=decide ((c:Int)<=90)):=by show _=_;unfold gM;rw[acA];simp;omega
  go_enter Tryz.func131,Tryz.ntmps131
  go_wp2
  all_goals go_ret
  all_goals refine⟨aL ?_,rfl⟩
  all_goals (rw[HC.out];try (first|rfl|(simp;omega)|simp))
 ·have h1i:¬(65:Int)<=(c:Int):=by omega
  have HC:Hid (gM c=false):=by show _=_;unfold gM;simp;omega
  go_enter Tryz.func131,Tryz.ntmps131
  go_wp2
  all_goals go_ret
  all_goals exact⟨aL (by rw[HC.out]),rfl⟩
def pV (s:ByteArray):Nat->Bool
 | 0=>true
 | k+1=>pV s k&&eD (af s k)
theorem Fa {s:ByteArray}{k:Nat}(h:eD (af s k)=false):∀m,k<m->pV s m=false
 | 0,hm=>absurd hm (by omega)
 | m+1,hm=>by
  by_cases e:k=m
  ·subst e;rw[pV,h,Bool.and_false]
  ·rw[pV,Fa h m (by omega),abD]
theorem A4 (s:ByteArray)(w:World)(hs:s.size<=1000000000): Calls Tryz.prog 130 #[.string s] w fun e w'=>e=.returned (.bool (pV s s.size))/\w'=w:=by
 go_enter Tryz.func130,Tryz.ntmps130
 go_wp2
 go_loop [7] (fun i=>∃k:Nat,k<=s.size/\i=.int .i64 k/\Hid (pV s k=true)) (fun i=>s.size-(intOf i).toNat)
 case atStart=>exact⟨0,aaq _,rfl,rfl⟩
 case round =>
  obtain⟨k,hk,rfl,HK⟩:=hrel;by_cases hlt:k<s.size
  ·have hb:=cD s k hlt;have hb2:=cE s k;have G9:(k:Int)<(s.size:Int):=by omega
   have HN:Hid (eD (af s k)=false->pV s s.size=false):=fun h=>Fa h _ hlt;have HY:Hid (eD (af s k)=true->pV s (k+1)=true):=fun h=>by rw[pV,HK.out,h];rfl
   have hcap:=fun v=>A3 (af s k) v
   have HL:Hid (eD (af s k)=((decide (97<=af s k)&&decide (af s k<=122))||gM (af s k))):=by
    show _=_;unfold eD gM;rw[Bool.or_comm]
   generalize af s k=c at *;by_cases hsm:97<=c/\c<=122
   ·have q1:(97:Int)<=(c:Int):=by omega
    have q2:(c:Int)<=122:=by omega
    have hl:eD c=true:=by rw[HL.out];simp[hsm.1,hsm.2]
    have HY2:Hid (pV s (k+1)=true):=HY.out hl;clear hl HN HY HL;go_wp2
    go_round
    case rel=>exact⟨k+1,by omega,by go_num,HY2⟩
    case measure=>simp[intOf];omega
   ·have hd:(decide (97<=c)&&decide (c<=122))=false:=by
     rw[Bool.eq_false_iff];intro h;simp at h;exact hsm h
    have hl:eD c=gM c:=by rw[HL.out,hd,Bool.false_or]
    rw[hl]at HN HY;have hor:¬(97:Int)<=(c:Int)\/((97:Int)<=(c:Int)/\¬(c:Int)<=122):=by omega
    clear HL hd hl hsm;generalize gM c=cb at *;cases cb
    ·have SI:Hid (pV s s.size=false):=HN.out rfl;clear HN HY;rcases hor with q1|⟨q1,q2⟩
     all_goals
      go_wp2_with (go_at_call 131;refine (hcap _).mono ?_;rintro e w' ⟨rfl,rfl⟩)
      go_ret
      exact⟨aL (by rw[SI.out]),rfl⟩
    ·have HY2:Hid (pV s (k+1)=true):=HY.out rfl;clear HN HY;rcases hor with q1|⟨q1,q2⟩
     all_goals
      go_wp2_with (go_at_call 131;refine (hcap _).mono ?_;rintro e w' ⟨rfl,rfl⟩)
      go_round
      case rel=>exact⟨k+1,by omega,by go_num,HY2⟩
      case measure=>simp[intOf];omega
  ·have G9:¬(k:Int)<(s.size:Int):=by omega
   have e:k=s.size:=by omega
   go_wp2
   go_ret
   exact⟨aL (by rw[<-e,HK.out]),rfl⟩
theorem bM (b:ByteArray)(i j k:Nat)(h1:i+k<j)(_h2:j<=b.size):af (b.extract i j) k=af b (i+k):=by
 unfold af;rw[acs,acF,aco];simp only[aab];rw[abZ,aaj (by omega),List.getElem?_drop]
theorem nC (b:ByteArray)(i j k:Nat)(h1:i+k+3<j)(h2:j<=b.size):aK (b.extract i j) k=aK b (i+k):=by
 unfold aK;rw[bM b i j k (by omega) h2,bM b i j (k+1) (by omega) h2,bM b i j (k+2) (by omega) h2,bM b i j (k+3) (by omega) h2];rfl
theorem jY (b:ByteArray):rp b.data.toList=aK b 0:=by unfold rp aK af;simp
theorem r8 (b:ByteArray)(h:8<=b.size):pV (b.extract 4 8) (b.extract 4 8).size=fA b 4:=by
 have e:(b.extract 4 8).size=4:=by rw[aaL];omega
 rw[e];simp only[pV,fA,acT];rw[bM b 4 8 0 (by omega) h,bM b 4 8 1 (by omega) h,bM b 4 8 2 (by omega) h,bM b 4 8 3 (by omega) h];simp only[Bool.and_assoc]
def Le (b:ByteArray)(w:World)(e:Ending)(w':World):Prop :=
 ((lV b=true/\e=.returned (.agg #[.string (o6 b).name,.string (o6 b).data]))\/(lV b=false/\e=dies 11))/\Below w.heap.size w w'
theorem Fb (b:ByteArray)(i j k l:Nat)(h:i+l<=j):(b.extract i j).extract k l=b.extract (i+k) (i+l):=by
 rw[ByteArray.extract_extract]
 congr 1
 omega
theorem SJ (b:ByteArray)(w:World)(hs:b.size<=1000000000): Calls Tryz.prog 89 #[.string b] w fun e w'=>Le b w e w':=by
 unfold Le;by_cases h12:b.size<12
 ·have HE:Hid (lV b=false):=by show _=_;unfold lV;rw[show decide (12<=b.size)=false from abN (by omega),abD]
  have Lf:(b.size:Int)-4-4-4<0:=by omega
  go_enter Tryz.func89,Tryz.ntmps89
  go_wp2;exact⟨rfl,.inr ⟨HE.out,rfl⟩,ae _ _⟩
 ·have Lf:¬(b.size:Int)-4-4-4<0:=by omega
  have Um:=fun v=>j8 b v (by omega);rw[jY,uC]at Um
  have pw:Hid (lV b=(decide (eg b<=2147483647)&&(decide (eg b+12<=b.size)&&(fA b 4&&decide (aK b (8+eg b)=lU (b.extract 4 (8+eg b))))))):=by
   show _=_;unfold lV;rw[show decide (12<=b.size)=true from abj (by omega),acT]
  have hch:o6 b=⟨b.extract 4 8,b.extract 8 (8+eg b)⟩:=rfl;have hn2:eg b<4294967296:=by have:=pU b 0;have:=uC b;omega
  rw[hch];generalize eg b=n at *;by_cases hbig:n<=2147483647/\n+12<=b.size
  ·obtain⟨hb1,hb2⟩:=hbig;have hal:=fun v=>A4 (b.extract 4 8) v (by rw[aaL];omega);rw[r8 b (by omega)]at hal;have hfr:=fun v=>j8 (b.extract (8+n) b.size) v (by rw[aaL];omega);rw[jY,nC b (8+n) b.size 0 (by omega) (aah _),acz]at hfr;have hcr:=fun v=>QN (b.extract 4 (8+n)) v (by rw[aaL];unfold maxLen;omega);have hK:(b.extract 4 (8+n)).size=n+4:=by rw[aaL];omega
   have hx1:(b.extract 4 (8+n)).extract 0 4=b.extract 4 8:=Fb b 4 (8+n) 0 4 (by omega)
   have hx2:(b.extract 4 (8+n)).extract 4 (n+4)=b.extract 8 (8+n):=by
    rw[Fb b 4 (8+n) 4 (n+4) (by omega)]
    congr 1
    omega
   have SK:Hid (lV b=(fA b 4&&decide (aK b (8+n)=4294967295-(Mx.oE (b.extract 4 (8+n)).data.toList:Int)))):=by
    show _=_;rw[pw.out,abj hb1,abj hb2,acT,acT];rfl
   have n1:¬(n:Int)>2147483647:=by omega
   have n2:¬(n:Int)>(b.size:Int)-4-4-4:=by omega
   have s1:IntKind.i64.wrap (8+(n:Int))=((8+n:Nat):Int):=(aao _ (by omega)).trans (by omega);have s2:((8+n:Nat):Int)<=(b.size:Int):=by omega
   have s3:(4:Int)<=((8+n:Nat):Int):=by omega
   have HB:Hid (b.size<=1000000000/\n<=2147483647/\n+12<=b.size):=⟨hs,hb1,hb2⟩
   obtain⟨rm,hrm⟩:∃rm,(b.size:Int)-4-4-4=rm:=⟨_,rfl⟩
   have r1:IntKind.i64.wrap ((b.size:Int)-4)=(b.size:Int)-4:=aao _ (by omega);have r2:IntKind.i64.wrap ((b.size:Int)-4-4)=(b.size:Int)-4-4:=aao _ (by omega);have r3:IntKind.i64.wrap ((b.size:Int)-4-4-4)=rm:=(aao _ (by omega)).trans hrm;rw[hrm]at Lf n2;have d1:decide ((2147483647:Int)<(n:Int))=false:=abN n1;have d2:decide (rm<(n:Int))=false:=abN n2;have d3:decide (rm<0)=false:=abN Lf;clear pw hch hs hb1 hb2 hn2 h12 hrm n1 n2 Lf;generalize (4294967295-(Mx.oE (b.extract 4 (8+n)).data.toList:Int))=CR at *;generalize aK b (8+n)=FR at *;generalize fA b 4=LB at *;generalize hCO:lV b=CO at *;generalize hKE:b.extract 4 (8+n)=KK at *;generalize hR:b.extract (8+n) b.size=RS at *;generalize b.extract 4 8=NM at *;generalize b.extract 8 (8+n)=DT at *
   go_enter Tryz.func89,Tryz.ntmps89
   go_wp2_with fail;refine (Um _).mono ?_;rintro e w1 ⟨rfl,m1,rfl⟩;go_wp2_with fail
   go_quiet (fail)
   rw[hKE,hR];have HRB:(((w.alloc (.cells #[.string ⟨#[]⟩,.string ⟨#[]⟩] 83)).drewN m1).drewN nq).heap[w.heap.size]?=some (.cells #[.string ⟨#[]⟩,.string ⟨#[]⟩] 83 (0,0)):=ah w _;have B1:Below w.heap.size w (((w.alloc (.cells #[.string ⟨#[]⟩,.string ⟨#[]⟩] 83)).drewN m1).drewN nq):=aaD (aaD (ae w _) m1) nq;generalize (((w.alloc (.cells #[.string ⟨#[]⟩,.string ⟨#[]⟩] 83)).drewN m1).drewN nq)=u at *;have hS:True:=trivial;clear Um s1 s2 s3 r1 r2 r3 d1 d2 d3;go_wp2_with fail;refine ax (fun _=>True) 999 ?_;have B2:=B1.drew;have HR2:u.drew.heap[w.heap.size]?=some (.cells #[.string ⟨#[]⟩,.string ⟨#[]⟩] 83 (0,0)):=HRB;clear B1 HRB;generalize u.drew=v at *;have hK4:(4:Int)<=(KK.size:Int):=by omega
   refine ap [0] ?_
   iterate 1 (refine au hS ?_;try simp only[Act.put])
   refine aj ?_;refine aB 1 (v:=.string NM) ?_ hS ?_
   ·intro w hSw;(try dsimp only at hSw);go_simp;try (intro h9;exact absurd h9 (by omega))
   simp only[Act.put];refine ap [2] ?_
   iterate 1 (refine au hS ?_;try simp only[Act.put])
   refine aj ?_;refine aB 3 (v:=.string DT) ?_ hS ?_
   ·intro w hSw;(try dsimp only at hSw);go_simp;try (intro h9;exact absurd h9 (by omega))
   simp only[Act.put];refine ap [4] ?_
   iterate 1 (refine au hS ?_;try simp only[Act.put])
   refine aj ?_;refine ag 5 fun K hK=>?_;go_simp;refine hK _ _ (fun _=>trivial) ?_;clear hK K;refine ag 6 fun K hK=>?_;go_simp;refine hK _ _ (fun _=>trivial) ?_;clear hK K;refine am ?_;have hC:=ah v (.cells #[.string NM,.string DT] 83);have HR3:=(abI v (.cells #[.string NM,.string DT] 83) w.heap.size (aaa HR2)).trans HR2;have B3:Below w.heap.size w (v.alloc (.cells #[.string NM,.string DT] 83)):=B2.trans ((ae v _).mono B2.size);obtain⟨C,Wo⟩:∃C,v.heap.size=C:=⟨_,rfl⟩
   have hne:w.heap.size≠C:=by have:=aaa HR2;omega
   rw[Wo]at hC ⊢;clear B2 HR2 Wo hx1 hx2 hK hK4 hKE hR;generalize v.alloc (.cells #[.string NM,.string DT] 83)=v2 at *;obtain⟨c0,c1,cf,cl⟩:=aN hC;cases LB
   ·have HF:Hid (CO=false):=by show _=_;rw[SK.out];rfl
    go_wp2_with fail;refine (hal _).mono ?_;rintro e w' ⟨rfl,rfl⟩;go_wp2;exact⟨rfl,.inr ⟨HF.out,rfl⟩,B3⟩
   ·go_wp2_with fail;refine (hal _).mono ?_;rintro e w' ⟨rfl,rfl⟩;go_wp2_with fail;refine (hfr _).mono ?_;rintro e w' ⟨rfl,m2,rfl⟩;have B4:Below w.heap.size w (w'.drewN m2):=aaD B3 m2;have hC4:(w'.drewN m2).heap[C]?=some (.cells #[.string NM,.string DT] 83 (0,0)):=hC;have HR4:(w'.drewN m2).heap[w.heap.size]?=some (.cells #[.string ⟨#[]⟩,.string ⟨#[]⟩] 83 (0,0)):=HR3;clear c0 c1 cf cl hC HR3 B3;generalize w'.drewN m2=v3 at *;go_wp2_with fail;refine (hcr _).mono ?_;rintro e w'' ⟨rfl,rfl⟩;by_cases hq:FR=CR
    ·have hqb:(FR != CR)=false:=by rw[bne_eq_false_iff_eq];exact hq
     have HF:Hid (CO=true):=by show _=_;rw[SK.out,abj hq];rfl
     obtain⟨c0,c1,cf,cl⟩:=aN hC4;obtain⟨x0,x1,xf,xl⟩:=aN HR4;have hset:=gq HR4 (.string NM) (.string DT);obtain⟨y0,y1,_,_⟩:=aN hset;clear hC4 HR4 hset hq;go_wp2;refine aaF (v:=.agg #[.string NM,.string DT]) (by simp[results,Tryz.results89,go_sem,y0,y1]) rfl ⟨.inl ⟨HF.out,rfl⟩,(B4.setCell (p:=⟨w.heap.size,0,none⟩) (aah _) _).setCell (p:=⟨w.heap.size,1,none⟩) (aah _) _⟩
    ·have hqb:(FR != CR)=true:=by rw[bne_iff_ne];exact hq
     have HF:Hid (CO=false):=by show _=_;rw[SK.out,abN hq];rfl
     clear hq;go_wp2;exact⟨rfl,.inr ⟨HF.out,rfl⟩,B4⟩
  ·have HF:Hid (lV b=false):=by
    show _=_;rw[pw.out];by_cases q:n<=2147483647
    ·rw[abN (show ¬n+12<=b.size from fun h=>hbig ⟨q,h⟩),abD,Bool.and_false]
    ·rw[abN q,abD]
   obtain⟨rm,hrm⟩:∃rm,(b.size:Int)-4-4-4=rm:=⟨_,rfl⟩
   have r1:IntKind.i64.wrap ((b.size:Int)-4)=(b.size:Int)-4:=aao _ (by omega);have r2:IntKind.i64.wrap ((b.size:Int)-4-4)=(b.size:Int)-4-4:=aao _ (by omega);have r3:IntKind.i64.wrap ((b.size:Int)-4-4-4)=rm:=(aao _ (by omega)).trans hrm;have d3:decide (rm<0)=false:=abN (by omega)
   have hor:(decide ((2147483647:Int)<(n:Int))=true)\/(decide ((2147483647:Int)<(n:Int))=false/\decide (rm<(n:Int))=true):=by
    by_cases q:(2147483647:Int)<(n:Int)
    ·exact .inl (abj q)
    ·exact .inr ⟨abN q,abj (by omega)⟩
   clear hs hn2 h12 Lf hrm hbig pw hch;rcases hor with d1|⟨d1,d2⟩
   all_goals
    go_enter Tryz.func89,Tryz.ntmps89
    go_wp2_with fail;refine (Um _).mono ?_;rintro e w1 ⟨rfl,m1,rfl⟩;go_wp2;exact⟨rfl,.inr ⟨HF.out,rfl⟩,aaD (ae w _) m1⟩
end
abbrev cI:List UInt8:=[73,72,68,82]
abbrev cP:List UInt8:=[80,76,84,69]
abbrev cJ:List UInt8:=[73,68,65,84]
abbrev nD:List UInt8:=[73,69,78,68]
def iV (s:ByteArray)(l:List UInt8):Bool:=s.toList==l
theorem yH {s:ByteArray}{l:List UInt8}(h:iV s l=true):s.data.toList=l:=by
 unfold iV at h;rw[ByteArray.toList_eq]at h;exact eq_of_beq h
theorem gV {s:ByteArray}{l m:List UInt8}(h:iV s l=true)(hne:l≠m):iV s m=false:=by
 rw[Bool.eq_false_iff];intro hm;exact hne ((yH h).symm.trans (yH hm))
def cy:ByteArray->List ByteArray->Option ByteArray->List Ch->Option (List ByteArray×Option ByteArray)
 | _,d,p,[]=>some (d,p)
 | a,d,p,c::r =>
  if (iV c.name cJ&&(d.isEmpty||iV a cJ))=true then cy c.name (d++[c.data]) p r
  else if (iV c.name cP&&d.isEmpty&&p.isNone)=true then cy c.name d (some c.data) r
  else if gM (af c.name 0)=true then none
  else cy c.name d p r
def eG:List ByteArray->ByteArray
 | []=>⟨#[]⟩
 | x::r=>x++eG r
structure kt where
 head:ByteArray
 aq:Option ByteArray
 data:ByteArray
def ky (L:List Ch):Ch:=L.getD (L.length-1) ⟨⟨#[]⟩,⟨#[]⟩⟩
def fT (L:List Ch):Ch:=L.getD 0 ⟨⟨#[]⟩,⟨#[]⟩⟩
def dM (L:List Ch):List Ch:=(L.take (L.length-1)).drop 1
def jq (L:List Ch):Bool:=decide (2<=L.length)&&(iV (fT L).name cI&&(iV (ky L).name nD&&(ky L).data.toList.isEmpty))
def cK (L:List Ch):Option kt :=
 if jq L=true then
  match cy (fT L).name [] none (dM L) with
  | some (d,p)=>if d.isEmpty=true then none else some ⟨(fT L).data,p,eG d⟩
  | none=>none
 else none
def SL:Option ByteArray->Nat|none=>0|some _=>1
def gF (nm:List UInt8)(L:List Ch):ByteArray:=L.foldl (fun s c=>if iV c.name nm=true then s++c.data else s) ⟨#[]⟩
def iO (nm:List UInt8)(L:List Ch):Nat:=L.foldl (fun n c=>if iV c.name nm=true then n+1 else n) 0
theorem uE (nm:List UInt8)(L:List Ch)(c:Ch):gF nm (L++[c])=if iV c.name nm=true then gF nm L++c.data else gF nm L:=by
 unfold gF;rw[List.foldl_append];rfl
theorem Dy (nm:List UInt8)(L:List Ch)(c:Ch):iO nm (L++[c])=if iV c.name nm=true then iO nm L+1 else iO nm L:=by
 unfold iO;rw[List.foldl_append];rfl
theorem i9 (b:ByteArray):(⟨#[]⟩:ByteArray)++b=b:=ByteArray.ext (by simp[ByteArray.data_append])
theorem lY (b:ByteArray):b++(⟨#[]⟩:ByteArray)=b:=ByteArray.ext (by simp[ByteArray.data_append])
theorem qO (a b c:ByteArray):a++b++c=a++(b++c):=ByteArray.ext (by simp[ByteArray.data_append])
theorem o7 (nm:List UInt8):∀(L:List Ch) (s:ByteArray),L.foldl (fun s c=>if iV c.name nm=true then s++c.data else s) s=s++gF nm L
 | [],s=>(lY s).symm
 | c::r,s=>by
  have e:gF nm (c::r)=(if iV c.name nm=true then (⟨#[]⟩:ByteArray)++c.data else ⟨#[]⟩)++gF nm r:=by
   show List.foldl _ _ (c::r)=_;rw[List.foldl_cons,o7 nm r]
  rw[List.foldl_cons,o7 nm r,e];split
  ·rw[i9,qO]
  ·rw[i9]
theorem o8 (nm:List UInt8):∀(L:List Ch) (n:Nat),L.foldl (fun n c=>if iV c.name nm=true then n+1 else n) n=n+iO nm L
 | [],n=>rfl
 | c::r,n=>by
  have e:iO nm (c::r)=(if iV c.name nm=true then 0+1 else 0)+iO nm r:=by
   show List.foldl _ _ (c::r)=_;rw[List.foldl_cons,o8 nm r]
  rw[List.foldl_cons,o8 nm r,e];split<;>omega
theorem gW (nm:List UInt8)(c:Ch)(r:List Ch):gF nm (c::r)=if iV c.name nm=true then c.data++gF nm r else gF nm r:=by
 rw[gF,List.foldl_cons,o7];split
 ·rw[i9]
 ·rw[i9]
theorem o9 (nm:List UInt8)(c:Ch)(r:List Ch):iO nm (c::r)=if iV c.name nm=true then iO nm r+1 else iO nm r:=by
 rw[iO,List.foldl_cons,o8];split<;>omega
theorem A5 (d:List ByteArray)(x:ByteArray):eG (d++[x])=eG d++x:=by
 induction d with
 | nil=>show x++_=_;rw[show eG []=⟨#[]⟩ from rfl,lY,i9]
 | cons y r ih=>show y++eG (r++[x])=y++eG r++x;rw[ih,qO]
theorem Lg {c:Ch}{nm:List UInt8}(h:iV c.name nm=true)(h0:(nm.getD 0 0).toNat<=90)(h1:65<=(nm.getD 0 0).toNat):gM (af c.name 0)=true:=by
 have:=yH h;unfold af;rw[this];unfold gM;simp at h0 h1 ⊢;omega
theorem nW:∀(r:List Ch) (a:ByteArray) (d:List ByteArray) (p:Option ByteArray) (d':List ByteArray) (p':Option ByteArray),cy a d p r=some (d',p') -> eG d'=eG d++gF cJ r/\iO cP r+SL p=SL p'/\(p=none->gF cP r=p'.getD ⟨#[]⟩)/\(∀x,p=some x->p'=some x)
 | [],a,d,p,d',p',h=>by
  rw[cy]at h;injection h with h;injection h with h1 h2;subst h1 h2;refine⟨(lY _).symm,aaO _,fun e=>?_,fun x e=>e⟩;rw[e];rfl
 | c::r,a,d,p,d',p',h=>by
  rw[cy]at h;rw[gW,o9,gW];by_cases h1:(iV c.name cJ&&(d.isEmpty||iV a cJ))=true
  ·rw[aaj h1]at h;obtain⟨b1,b2,b3,b4⟩:=nW r c.name _ p d' p' h;have hI:iV c.name cJ=true:=by rw[aaS]at h1;exact h1.1
   have hP:iV c.name cP=false:=gV hI (by decide);rw[aaj hI,aai (by rw[hP];decide),aai (by rw[hP];decide)];refine⟨?_,b2,b3,b4⟩;rw[b1,A5,qO]
  ·rw[aai h1]at h;by_cases h2:(iV c.name cP&&d.isEmpty&&p.isNone)=true
   ·rw[aaj h2]at h;obtain⟨b1,b2,b3,b4⟩:=nW r c.name d (some c.data) d' p' h;simp only[aaS]at h2;obtain⟨⟨hP,_⟩,hp⟩:=h2;have hI:iV c.name cJ=false:=gV hP (by decide);have hp':p=none:=by cases p with|none=>rfl|some x=>cases hp
    subst hp';rw[aai (by rw[hI];decide),aaj hP,aaj hP];have e:=b4 _ rfl;subst e;have b2':iO cP r+1=1:=b2;refine⟨b1,?_,fun _=>?_,fun x e=>by cases e⟩
    ·show iO cP r+1+0=1;omega
    ·have:gF cP r=⟨#[]⟩:=join_none cP r (by omega);rw[this,lY];rfl
   ·rw[aai h2]at h;by_cases h3:gM (af c.name 0)=true
    ·rw[aaj h3]at h;cases h
    ·rw[aai h3]at h;obtain⟨b1,b2,b3,b4⟩:=nW r c.name d p d' p' h;have hI:¬iV c.name cJ=true:=fun e=>h3 (Lg e (by decide) (by decide));have hP:¬iV c.name cP=true:=fun e=>h3 (Lg e (by decide) (by decide));rw[aai hI,aai hP,aai hP];exact⟨b1,b2,b3,b4⟩
 where
 join_none (nm:List UInt8):∀(r:List Ch),iO nm r=0->gF nm r=⟨#[]⟩
  | [],_=>rfl
  | c::r,h=>by
   rw[o9]at h
   rw[gW]
   split
   ·rename_i e
    rw[aaj e]at h
    omega
   ·rename_i e
    rw[aai e]at h
    exact join_none nm r h
theorem Dz {L:List Ch}(h:2<=L.length):L=fT L::(dM L++[ky L]):=by
 cases L with
 | nil=>simp at h
 | cons x r =>
  have hr:r≠[]:=fun e=>by subst e;simp at h
  have e1:dM (x::r)=r.dropLast:=by
   unfold dM;rw[aaA,Nat.add_sub_cancel];obtain⟨n,hn⟩:∃n,r.length=n+1:=⟨r.length-1,by have:=List.length_pos_iff.2 hr;omega⟩
   rw[hn,List.take_succ_cons,List.drop_succ_cons,acU,List.dropLast_eq_take,hn];rfl
  have e2:ky (x::r)=r.getLast hr:=by
   unfold ky;rw[aaA,Nat.add_sub_cancel];obtain⟨n,hn⟩:∃n,r.length=n+1:=⟨r.length-1,by have:=List.length_pos_iff.2 hr;omega⟩
   rw[hn,List.getD_cons_succ,List.getLast_eq_getElem,aab,aan (by omega)];simp only[ac1,hn,Nat.add_sub_cancel]
  show x::r=x::_;rw[e1,e2,List.dropLast_concat_getLast]
theorem DA {L:List Ch}{P:kt}(h:cK L=some P):gF cJ L=P.data/\iO cP L=SL P.aq/\gF cP L=P.aq.getD ⟨#[]⟩:=by
 unfold cK at h;split at h
 ·rename_i he;simp only[jq,aaS,aaW]at he;obtain⟨h2,hf,hl,_⟩:=he;cases ho:cy (fT L).name [] none (dM L) with
  | none=>rw[ho]at h;cases h
  | some x =>
   obtain⟨d,p⟩:=x;rw[ho]at h;simp only at h;split at h
   ·cases h
   ·injection h with h;subst h;obtain⟨b1,b2,b3,_⟩:=nW _ _ _ _ _ _ ho;have hs:=Dz h2;have fI:iV (fT L).name cJ=false:=gV hf (by decide);have fP:iV (fT L).name cP=false:=gV hf (by decide);have lI:iV (ky L).name cJ=false:=gV hl (by decide);have lP:iV (ky L).name cP=false:=gV hl (by decide);rw[hs];generalize fT L=x at *;generalize ky L=z at *;generalize dM L=mid at *;rw[gW,gW,o9,uE,uE,Dy];simp only[fI,fP,lI,lP,ace,if_false];refine⟨?_,b2,b3 rfl⟩;show gF cJ mid=eG d;rw[b1];exact (i9 _).symm
 ·cases h
section
open Go.RowKit
def cL (c:Int)(n:Int):Int:=(if c<0 then -(c+1) else c)%n
theorem bE (c:Int){n:Int}(h:0<n):0<=cL c n/\cL c n<n:=⟨Int.emod_nonneg _ (by omega),Int.emod_lt_of_pos _ h⟩
theorem oA (c n:Int)(w:World)(h1:-9223372036854775808<=c)(h2:c<=9223372036854775807)(h3:0<n)(h4:n<=9223372036854775807): Calls Tryz.prog 11 #[.int .i64 c,.int .i64 n] w fun e w'=>e=.returned (.int .i64 (cL c n))/\w'=w:=by
 have hn0:n≠0:=by omega
 have hn1:n≠-1:=by omega
 by_cases h:c<0
 ·have HP:Hid (cL c n=(-(c+1))%n):=by show _=_;rw[cL,aaj h]
  have HE:Hid ((-(c+1)).tmod n=(-(c+1))%n):=acD (by omega)
  go_enter Tryz.func11,Tryz.ntmps11
  go_wp2
  go_ret
  exact⟨aI (by rw[HP.out,<-HE.out,Int.neg_tmod]),rfl⟩
 ·have HP:Hid (cL c n=c%n):=by show _=_;rw[cL,aai h]
  have h0:0<=c:=by omega
  go_enter Tryz.func11,Tryz.ntmps11
  go_wp2
  go_ret
  exact⟨aI (by rw[HP.out]),rfl⟩
theorem yI:Rf.inflate (lw ⟨#[75,4,2,0]⟩) 4=⟨30,false,false,[97,97,97,97],[1]⟩:=by kernel_rfl
theorem Ha:Rf.inflate (lw ⟨#[75,4,0,0,98,0,98]⟩) 1=⟨18,false,false,[97],[1]⟩:=by kernel_rfl
theorem A6:dx ⟨#[120,156,75,4,0,0,98,0,98]⟩ 1=0/\jg ⟨#[120,156,75,4,0,0,98,0,98]⟩ 1=⟨#[97]⟩:=by
 have hm:mid ⟨#[120,156,75,4,0,0,98,0,98]⟩ 1=⟨18,false,false,[97],[1]⟩:=Ha
 have hc:dx ⟨#[120,156,75,4,0,0,98,0,98]⟩ 1=0:=by
  unfold dx;rw[hm];decide +kernel
 exact⟨hc,by rw[jg,hc,hm];rfl⟩
theorem SM (w:World):Calls Tryz.prog 17 #[] w fun e w'=>e=.returned (.bool true)/\Below w.heap.size w w':=by
 have h1:=Gm ⟨#[75,4,2,0]⟩ 4 w (by decide) (by decide) (by decide);have h2:=fun v=>Aa ⟨#[120,156,75,4,0,0,98,0,98]⟩ 1 v (by decide) (by decide) (by decide);rw[yI]at h1;rw[A6.1,A6.2]at h2;have ea:answer ⟨30,false,false,[97,97,97,97],[1]⟩=.tuple #[.string ⟨#[97,97,97,97]⟩,.int .i64 4,.int .i64 0]:=rfl;rw[ea]at h1;clear ea
 go_enter Tryz.func17,Tryz.ntmps17
 go_wp2_with fail;refine h1.mono ?_;rintro e w1 ⟨rfl,b1⟩;go_wp2_with fail;refine (h2 _).mono ?_;rintro e w2 ⟨rfl,-,b2⟩;go_wp2
 go_ret
 exact⟨rfl,b1.trans (b2.mono b1.size)⟩
theorem Hb (n:Nat)(hn:n<4294967296):(four (n:Int)).map cm=[.int .u8 ((n:Int)/16777216),.int .u8 ((n:Int)/65536%256),.int .u8 ((n:Int)/256%256),.int .u8 ((n:Int)%256)]:=by
 have h:∀x:Int,0<=x->x<256->((UInt8.ofNat x.toNat).toNat:Int)=x:=fun x h0 h1=>by
  rw[UInt8.toNat_ofNat'];have:x.toNat%2^8=x.toNat:=abE (by omega);rw[this];omega
 simp only[four,acI,List.map_nil,cm];rw[h _ (by omega) (by omega),h _ (by omega) (by omega),h _ (by omega) (by omega),h _ (by omega) (by omega)];rw[show (n:Int)/16777216%256=(n:Int)/16777216 by omega]
theorem rK (n:Nat)(hn:n<4294967296)(w:World):(convert 36 9 (.slice (some ⟨w.heap.size,0,none⟩) 4 4)).run Tryz.prog (w.alloc (.cells #[.int .u8 ((n:Int)/16777216),.int .u8 ((n:Int)/65536%256),.int .u8 ((n:Int)/256%256),.int .u8 ((n:Int)%256)] 5)) = .ok (.string ⟨(four (n:Int)).toArray⟩) (w.alloc (.cells #[.int .u8 ((n:Int)/16777216),.int .u8 ((n:Int)/65536%256),.int .u8 ((n:Int)/256%256),.int .u8 ((n:Int)%256)] 5)):=by
 refine fM (base:=w.heap.size) (n:=4) (l:=four (n:Int)) ⟨rfl,.inr ⟨w.heap.size,4,_,rfl,aah _,ah w _,aah _,by unfold maxLen;omega,rfl,?_⟩⟩ rfl;rw[Hb n hn];rfl
theorem pW (n:Nat)(w:World)(hn:n<4294967296): Calls Tryz.prog 80 #[.int .i64 n] w fun e w'=>e=.returned (.string ⟨(four n).toArray⟩)/\Below w.heap.size w w':=by
 have hcv:=rK n hn w
 go_enter Tryz.func80,Tryz.ntmps80
 go_wp2
 go_ret
 exact⟨rfl,ae w _⟩
end
end Go.Proofs.YtmfijackgekioabGreatDoor
