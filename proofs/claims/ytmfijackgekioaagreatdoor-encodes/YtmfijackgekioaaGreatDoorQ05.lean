import Derived.Test.YtmfijackgekioaaGreatDoorQ04
set_option maxHeartbeats 8000000
set_option maxRecDepth 100000
namespace Go.Proofs.YtmfijackgekioaaGreatDoor
open Go.RowKit
def jo (B:Nat)(w:World):Nat:=(intOf ((w.cell? ⟨B,1,none⟩).getD undef)).toNat
theorem dk.jo {w:World}{B:Nat}{L:List Int}{ao:Option Addr}{cap:Nat}{limit:Int}{st:Rf.St}{ov kv:Value}(h:dk w B L ao cap limit st ov kv):jo B w=st.pos:=by
 unfold Go.Proofs.YtmfijackgekioaaGreatDoor.jo;rw[h.cells.2.1];simp[intOf]
theorem Hc (s:Int)(a1 a2:Option Addr)(c1 c2 n i B:Nat)(far cd L:List Int)(ao:Option Addr)(cap:Nat)(limit:Int)(st:Rf.St)(ov kv:Value)(w:World)(hr:dk w B L ao cap limit st ov kv)(Hb:i<=28)(hl1:far.length=n)(hl2:cd.length=n)(hn:n<=320)(hA1:Apart w B a1 far)(hA2:Apart w B a2 cd)(hout:Hid (st.out.length<=11000000000))(hnb:st.bad=false)(hs:s=(i:Int)+257): Calls Tryz.prog 113 #[.pointer (some ⟨B,0,none⟩),.int .i64 s,.slice a1 n c1,.slice a2 n c2] w fun e w'=>e=.returned (.tuple #[])/\(∃pN,dk w' B L ao cap limit (Rf.copied L limit i far cd st) pN kv)/\Fr B w w':=by
 subst hs;exact Ha a1 a2 c1 c2 n i B far cd L ao cap limit st ov kv w hr Hb hl1 hl2 hn hA1 hA2 hout hnb
theorem jI (a1 a2:Option Addr)(c1 c2 n1 n2 B:Nat)(ls far L:List Int)(ao:Option Addr)(cap:Nat)(limit:Int)(st:Rf.St)(ov kv:Value)(w:World)(hr:dk w B L ao cap limit st ov kv)(hl1:ls.length=n1)(hl2:far.length=n2)(hn1:n1<=320)(hn2:n2<=320)(hF1:wH w B a1 ls)(hF2:wH w B a2 far)(hout:Hid (st.out.length<=258*st.pos)): Calls Tryz.prog 82 #[.pointer (some ⟨B,0,none⟩),.slice a1 n1 c1,.slice a2 n2 c2] w fun e w'=>e=.returned (.tuple #[])/\(∃pN,dk w' B L ao cap limit (Rf.symbols L limit ls far st) pN kv)/\Fr B w w':=by
 obtain⟨i0,hi,hz0,hz1,hz2⟩:=aaX Tryz.info5;have hlt:=hr.lt;have a9:=hr.hb
 go_enter Tryz.func82,Tryz.ntmps82
 go_wp2_with fail;refine (wM a1 c1 ls n1 _ hl1 hn1 hF1.ints (fun a e e2=>(hF1.apart.ne a e e2).2)).mono ?_;rintro e w1 ⟨rfl,q1,b1⟩;have r1:=hr.later b1;have f1:=Fr.aJ b1 (aaI hlt);have G1:=hF1.later f1;have G2:=hF2.later f1;have G3:wH w1 B (some ⟨w.heap.size,0,none⟩) (Rf.codes ls):=wH.va q1 (Nat.ne_of_gt hlt);have hlt1:=r1.lt;clear hF1 hF2 q1 b1 hr;go_wp2_with fail;refine (wM a2 c2 far n2 _ hl2 hn2 G2.ints (fun a e e2=>(G2.apart.ne a e e2).2)).mono ?_;rintro e w2 ⟨rfl,q2,b2⟩;have r2:=r1.later b2;have f2:=Fr.aJ b2 (aaI hlt1);have f12:=f1.trans f2;have K1:=G1.later f2;have K2:=G2.later f2;have K3:=G3.later f2;have K4:wH w2 B (some ⟨w1.heap.size,0,none⟩) (Rf.codes far):=wH.va q2 (Nat.ne_of_gt hlt1);clear G1 G2 G3 q2 b2 r1 f1 f2;have Wx:(Rf.codes ls).length=n1:=by rw[Rf.jW,hl1]
 have Wy:(Rf.codes far).length=n2:=by rw[Rf.jW,hl2]
 have HQ:Hid (Rf.symbols L limit ls far st=Rf.eO L limit ls (Rf.codes ls) far (Rf.codes far) (L.length+2) st):=rfl;generalize Rf.codes ls=cd at *;generalize Rf.codes far=uY at *;obtain⟨RES,jH⟩:∃RES,RES=Rf.eO L limit ls cd far uY (L.length+2) st:=⟨_,rfl⟩
 rw[<-jH]at HQ;go_wp2
 go_loopw [8] (fun _ wr=>∃(f:Nat) (st':Rf.St) (pN:Value),dk wr B L ao cap limit st' pN kv/\Fr B w2 wr/\Hid (RES=Rf.eO L limit ls cd far uY f st')/\L.length+2<=f+st'.pos/\Hid (st'.out.length<=258*st'.pos)) (fun _ wr=>L.length-jo B wr)
 case atStart=>exact⟨L.length+2,st,ov,r2,Fr.refl _ _,jH,by omega,hout⟩
 case round =>
  clear jH r2 hout;obtain⟨f,st',pN,r3,f3,HF,hfu,HO⟩:=hrel;have hp3:=r3.hpos;have hl3:=r3.hlen;obtain⟨f,rfl⟩:∃g,f=g+1:=⟨f-1,by omega⟩
  go_wp2_with fail;refine (pM B L ao cap limit st' pN kv _ r3).mono ?_;rintro e w3 ⟨rfl,rfl⟩;cases hst:(st'.bad||st'.full)
  ·have cz:Hid (RES=_):=HF.out.trans (by rw[Rf.eO,aae (by rw[hst];decide)]);have J1:=K1.later f3;have J3:=K3.later f3;go_wp2_with fail;refine (se a1 _ c1 n1 n1 B ls cd L ao cap limit st' pN kv _ r3 hl1 Wx hn1 J1.apart J3.apart).mono ?_;rintro e w4 ⟨rfl,r4,k4⟩;have f4:=f3.trans (Fr.fW (aaI r3.lt) k4);have hsr:=Rf.im L ls cd st';have hsp:=Rf.rR L ls cd st';have hso:=(Rf.fp L ls cd st').1;have AH:Hid ((Rf.symbol L ls cd st').2.out.length<=258*st'.pos):=by show _<=_;rw[hso];exact HO.out
   have CW:=r3.jo;clear r3 f3 HF HO J1 J3 k4 hso;generalize Rf.symbol L ls cd st'=SY at *;obtain⟨s,aT⟩:=SY;simp only at r4 hsr hsp cz AH ⊢;obtain⟨d0,d1,d2,d3,d4,d5,d6,fz⟩:=r4.cells;by_cases hbs:aT.bad=true\/s=256
   ·rw[aaf hbs]at cz;cases hb4:aT.bad
    ·rw[hb4]at d3 hbs;have hs6:s=256:=by simpa using hbs
     have Wz:(s==256)=true:=abs.2 hs6;clear hbs hs6 CW;go_wp2;exact aal (abe rfl _ _ _) rfl ⟨rfl,⟨_,by rw[HQ.out,cz.out];exact r4⟩,f12.trans f4⟩
    ·rw[hb4]at d3;clear CW;go_wp2;exact aal (abe rfl _ _ _) rfl ⟨rfl,⟨_,by rw[HQ.out,cz.out];exact r4⟩,f12.trans f4⟩
   ·rw[aae hbs]at cz;have hb4:aT.bad=false:=by cases h:aT.bad<;>simp_all
    have Wz:(s==256)=false:=aam.2 (fun h=>hbs (.inr h));have hs6:s≠256:=fun h=>hbs (.inr h);rw[hb4]at d3;have Zo:=hsp hb4;have hs0:=hsr.1;have Zp:s<320:=by have:=hsr.2 hb4;omega
    have ab9:=r4.hpos;clear hsr hsp hbs;have RR:=hidden CW;clear CW;by_cases hs:s<256
    ·rw[aaf hs]at cz;have hl4:=r4.lt;have WD:Hid (aT.out.length<=4611686018427387904):=by have:=AH.out;show _<=_;omega
     go_wp2_with fail;refine (AX 1 B L ao cap limit aT pN kv _ r4 (by omega) WD.out).mono ?_;rintro e w5 ⟨rfl,r5,k5⟩;have f5:=f4.trans (Fr.fW (aaI hl4) k5);have hro:=Rf.iC limit aT 1;have ux:=hidden hro;clear hro d0 d1 d2 d3 d4 d5 d6 fz r4 f4 k5;generalize Rf.room limit aT 1=RM at *;obtain⟨ok,KI⟩:=RM;simp only at r5 cz ux ⊢;cases ok
     ·simp only[abl,acA]at cz;go_wp2
      go_roundw
      case rel=>exact⟨f,KI,pN,r5,f5,cz,by have:=ux.out.2.2.1;omega,by have h1:=ux.out;have:=AH.out;show _<=_;rw[h1.1,h1.2.2.1];omega⟩
      case measure=>rw[r5.jo,RR.out,ux.out.2.2.1];omega
     ·simp only[if_true]at cz;obtain⟨d0,d1,d2,d3,d4,d5,d6,fz⟩:=r5.cells;have hl5:=r5.lt;have HB:Hid (KI.out.length+1<=maxLen/\(KI.out.length+1)*1<=140737488355328):=by have h1:=ux.out.1;have:=AH.out;show _/\_;unfold maxLen;rw[h1];omega
      obtain⟨oa,oc,rfl⟩:=aD r5.ho;go_wp2_with (at_builtin;refine aax _ rfl _ _ 107 rfl (B+1) 5 i0 (.int .u8 0) 1 1 Tryz.underlying107 hi hz0 hz1 hz2 rfl (by decide) _ _ _ rfl (r5.ho.alloc _) ⟨w5.heap.size,0,none⟩ 1 1 [.int .u8 s] rfl rfl (aa1 _ _ _) (by intro u hu;simp at hu;subst hu;rfl) HB.out.1 HB.out.2 (by simp;omega) ?_;intro v' w6 hown' hgrow _;obtain⟨q1,q2,_⟩:=r5.grown _ hgrow;obtain⟨ll,j5,rfl⟩:=aD hown');have R7:=r5.push (.cells #[.int .u8 s] 5) (UInt8.ofNat s.toNat) (by rw[byte_of s ⟨hs0,hs⟩];exact hown') hgrow
      go_roundw
      case rel=>exact⟨f,_,_,R7.1,f5.trans R7.2,cz,by have:=ux.out.2.2.1;show _<=f+KI.pos;omega,by have h1:=ux.out;have:=AH.out;show (KI.out++[_]).length<=258*KI.pos;rw[aac,h1.1,h1.2.2.1];simp;omega⟩
      case measure=>rw[R7.1.jo,RR.out];show L.length-KI.pos<_;rw[ux.out.2.2.1];omega
    ·rw[aae hs]at cz;by_cases hs2:285<s
     ·rw[aaf hs2]at cz;have HR:Hid (dk (w4.setCell ⟨B,3,none⟩ (.bool true)) B L ao cap limit { aT with bad:=true } pN kv):=r4.set 3 (.bool true) _ rfl rfl rfl r4.hpos;have Gy:Hid (Fr B w2 (w4.setCell ⟨B,3,none⟩ (.bool true))):=f4.trans (Fr.fW (aaI r4.lt) ((Kp.refl _ w4).set1 _ _));go_wp2
      go_roundw
      case rel=>exact⟨f,_,_,HR.out,Gy.out,cz,by show _<=f+aT.pos;omega,by have:=AH.out;show aT.out.length<=258*aT.pos;omega⟩
      case measure=>rw[HR.out.jo,RR.out];show L.length-aT.pos<_;omega
     ·rw[aae hs2]at cz;obtain⟨i,hi'⟩:∃i,i=(s-257).toNat:=⟨_,rfl⟩
      rw[<-hi']at cz;have HSI:Hid (s=(i:Int)+257):=by show _=_;omega
      have Hb:i<=28:=by omega
      clear hi';have J2:=K2.later f4;have J4:=K4.later f4;have Q9:=hidden (Rf.uZ a9 limit i Hb far uY aT);go_wp2_with fail;refine (Hc s a2 _ c2 n2 n2 i B far uY L ao cap limit aT pN kv _ r4 Hb hl2 Wy hn2 J2.apart J4.apart (by have:=AH.out;show _<=_;omega) hb4 HSI.out).mono ?_;rintro e w5 ⟨rfl,⟨ov5,r5⟩,f5⟩;have f6:=f4.trans f5;go_wp2
      go_roundw
      case rel=>exact⟨f,_,ov5,r5,f6,cz,by have:=Q9.out;omega,by have:=Q9.out;have:=AH.out;show _<=_;omega⟩
      case measure=>rw[r5.jo,RR.out];have:=Q9.out;have:=r5.hpos;omega
  ·have cz:Hid (RES=st'):=by show _=_;rw[HF.out,Rf.eO,aaf hst]
   go_wp2
   go_end0
   exact⟨rfl,⟨_,by rw[HQ.out,cz.out];exact r3⟩,f12.trans f3⟩
theorem Ey (n:Int):bits .and .i64 n 1=n%2:=by
 have h1:(BitVec.ofInt 64 1).toNat=2^1-1:=by decide
 have key:(BitVec.ofInt 64 n&&&BitVec.ofInt 64 1).toNat=(n%((2^64:Nat):Int)).toNat%2^1:=by
  rw[BitVec.toNat_and,BitVec.toNat_ofInt,h1,Nat.and_two_pow_sub_one_eq_mod]
 show IntKind.i64.wrap ((BitVec.ofInt 64 n&&&BitVec.ofInt 64 1).toNat:Nat)=n%2;rw[key,IntKind.wrap_i64];omega
theorem and_one (a j:Nat):bits .and .i64 ((a:Int)/2^j) 1=((a/2^j%2:Nat):Int):=by
 rw[Ey];simp
theorem Nt (s:ByteArray)(w:World)(hs:s.size<=5000000): Calls Tryz.prog 77 #[.string s] w fun e w'=>∃v,e=.returned v/\w'.ownsRow w.heap.size 3 1 v (8*s.size) ((Mx.low s.data.toList).map (Value.int .i64))/\Below w.heap.size w w':=by
 obtain⟨i0,hi,hz0,hz1,hz2⟩:=aaX Tryz.info3
 go_enter Tryz.func77,Tryz.ntmps77
 go_wp2
 go_loopw [3,4] (fun v i wr=>∃k:Nat,k<=s.size/\i=.int .i64 k/\wr.ownsRow w.heap.size 3 1 v (8*k) ((Mx.low (s.data.toList.take k)).map (Value.int .i64))/\Below w.heap.size w wr) (fun _ i _=>s.size-(intOf i).toNat)
 case atStart=>exact⟨0,aaj _,rfl,aba _ _ _ _,aak _ _⟩
 case round =>
  obtain⟨k,hk,rfl,hown,hnx⟩:=hrel;by_cases hlt:k<s.size
  ·have hc:(s[k].toNat:Int)<256:=by have:=s[k].toNat_lt;omega
   go_wp2
   go_loopw [3,5] (fun v i wr=>∃j:Nat,j<=8/\i=.int .i64 j/\wr.ownsRow w.heap.size 3 1 v (8*k+j) ((Mx.low (s.data.toList.take k)++Mx.some s[k] j).map (Value.int .i64))/\Below w.heap.size w wr) (fun _ i _=>8-(intOf i).toNat)
   case atStart=>exact⟨0,aaj _,rfl,by simpa[Mx.some]using hown,hnx⟩
   case round =>
    obtain⟨j,hj,rfl,hown,hnx⟩:=hrel;by_cases hlt':j<8
    ·obtain⟨x,hx⟩:∃x:Int,x=((s[k].toNat/2^j%2:Nat):Int):=⟨_,rfl⟩
     have hb:bits .and .i64 ((s[k].toNat:Int)/2^j) 1=x:=by rw[hx];exact and_one _ _
     have HX:Hid (x=((s[k].toNat/2^j%2:Nat):Int)):=hx;clear hx;go_wp2_with (at_builtin;refine aax _ rfl _ _ 24 rfl w.heap.size 3 i0 (.int .i64 0) 1 8 Tryz.underlying24 hi hz0 hz1 hz2 rfl (by decide) _ _ _ rfl (hown.alloc _) ⟨wr.heap.size,0,none⟩ 1 1 [.int .i64 x] rfl rfl ?c1 ?c2 ?c3 ?c4 ?c5 ?_)
     case c1=>exact aa1 _ _ _
     case c2=>intro u hu;simp at hu;subst hu;rfl
     case c3=>unfold maxLen;omega
     case c4=>omega
     case c5=>have:=hnx.size;simp;omega
     ·intro v' w1 hown' hgrow _
      have R:w1.ownsRow w.heap.size 3 1 v' (8*k+(j+1)) ((Mx.low (s.data.toList.take k)++Mx.some s[k] (j+1)).map (Value.int .i64))/\Below w.heap.size w w1:=by
       refine⟨?_,(hnx.alloc hnx.size _).grown hgrow (by have:=hnx.size;simp;omega) (fun b hb=>(hown.lt b hb).1)⟩;rw[Mx.pL,<-HX.out];simpa[Nat.add_assoc]using hown'
      clear hown' hgrow hown hnx;go_wp2
      go_roundw
      case rel=>exact⟨j+1,by omega,by go_num,R.1,R.2⟩
      case measure=>simp[intOf];omega
    ·have VD:j=8:=by omega
     subst VD;go_wp2
     go_roundw
     case rel=>exact⟨k+1,by omega,by go_num,by rw[Mx.fU s k hlt,Mx.yB];exact hown,hnx⟩
     case measure=>simp[intOf];omega
  ·have hk2:k=s.size:=by omega
   subst hk2;go_wp2
   go_ret
   exact⟨_,rfl,by rw[aav (by simp)]at hown;exact hown,hnx⟩
theorem vg {far:List Int}(h:Rf.cU far 15):∀k,0<=Rf.iY far k/\Rf.iY far k<=15*k/\Rf.ib far k<=k
 | 0=>by simp[Rf.iY,Rf.ib]
 | k+1=>by
  have h1:=vg h k;have h2:=h k;simp only[Rf.iY,Rf.ib];split<;>omega
theorem Ez (L1 L2:List Int)(x:Int)(n:Nat)(hx:L1.getD 256 0=x)(hn:L2.length=n): Rf.cY L1 L2=((x==0)||!Rf.full L1||(!Rf.full L2&&((Rf.iY L2 n != 0)&&((Rf.iY L2 n != 1)||(((Rf.ib L2 n:Nat):Int) != 1))))):=by
 rw[Rf.cY,hx,hn];generalize Rf.iY L2 n=s;generalize Rf.ib L2 n=o;have e1:(((o:Nat):Int) != 1)=decide (o≠1):=by rw[aa3];simp;omega
 have e2:(x==0)=decide (x=0):=by rw[aa3];simp
 have e3:(s != 0)=decide (s≠0):=by rw[aa3];simp
 have e4:(s != 1)=decide (s≠1):=by rw[aa3];simp
 rw[e1,e2,e3,e4]
theorem He (s:Int)(a1:Option Addr)(c1 n1 n B:Nat)(ls L:List Int)(ao:Option Addr)(cap:Nat)(limit:Int)(st:Rf.St)(ov kv:Value)(w:World)(hr:dk w B L ao cap limit st ov kv)(hl1:ls.length=n1)(hn1:n1<=19)(hn:n<=320)(hA1:Apart w B a1 ls)(hs:s=(n:Int)): Calls Tryz.prog 115 #[.pointer (some ⟨B,0,none⟩),.slice a1 n1 c1,.int .i64 s] w fun e w'=>∃v,e=.returned v/\dk w' B L ao cap limit (Rf.listed L ls n st).2 ov kv/\Kp (·=B) w w' /\ ((Rf.listed L ls n st).2.bad=false->w'.ownsRow (w.heap.size+1) 3 1 v n (vals (Rf.listed L ls n st).1)/\(Rf.listed L ls n st).1.length=n):=by
 subst hs;exact G9 a1 c1 n1 n B ls L ao cap limit st ov kv w hr hl1 hn1 hn hA1
theorem Nu (B:Nat)(L:List Int)(ao:Option Addr)(cap:Nat)(limit:Int)(st:Rf.St)(ov kv:Value)(w:World)(hr:dk w B L ao cap limit st ov kv)(hout:Hid (st.out.length<=258*st.pos)): Calls Tryz.prog 83 #[.pointer (some ⟨B,0,none⟩)] w fun e w'=>e=.returned (.tuple #[])/\(∃pN,dk w' B L ao cap limit (Rf.own L limit st) pN kv)/\Fr B w w':=by
 obtain⟨i0,hi,hz0,hz1,hz2⟩:=aaX Tryz.info3;have a9:=hr.hb;have hlt:=hr.lt;obtain⟨Z,hZ⟩:∃Z:List Value,Z=List.replicate 19 (.int .i64 0):=⟨_,rfl⟩
 have hmk:∀u:World,(Instr.makeSlice 24 (.int .i64 19) (.int .i64 19)).run Tryz.prog u=.ok (.slice (some ⟨u.heap.size,0,none⟩) 19 19) (u.alloc (.cells Z.toArray 3)):=fun u=>iE 19 (by omega) Z hZ u;have HZ:Hid (Z=vals (List.replicate 19 0)):=by show _=_;rw[hZ,aX]
 clear hZ;obtain⟨RES,jH⟩:∃RES,RES=Rf.own L limit st:=⟨_,rfl⟩
 have HQ:Hid (Rf.own L limit st=RES):=jH.symm;unfold Rf.own at jH;have HP:=hidden jH;clear jH
 go_enter Tryz.func83,Tryz.ntmps83
 go_wp2_with fail;refine (dV 5 B L ao cap limit st ov kv _ hr (by omega)).mono ?_;rintro e w1 ⟨rfl,r1,k1⟩;have hh:=Rf.take_range a9 st 5;have ho1:=(Rf.bY L st 5).1;have hm1:=Rf.dN L st 5;have La:Hid ((Rf.take L st 5).2.out.length<=258*(Rf.take L st 5).2.pos):=by have:=hout.out;show _<=_;rw[ho1];omega
 clear ho1 hm1 hout hr;generalize Rf.take L st 5=T1 at *;obtain⟨h,st1⟩:=T1;simp only at r1 hh HP La ⊢;go_wp2_with fail;refine (dV 5 B L ao cap limit st1 ov kv _ r1 (by omega)).mono ?_;rintro e w2 ⟨rfl,r2,k2⟩;have hd:=Rf.take_range a9 st1 5;have ho1:=(Rf.bY L st1 5).1;have hm1:=Rf.dN L st1 5;have OB:Hid ((Rf.take L st1 5).2.out.length<=258*(Rf.take L st1 5).2.pos):=by have:=La.out;show _<=_;rw[ho1];omega
 clear ho1 hm1 La r1;generalize Rf.take L st1 5=T1 at *;obtain⟨d,st2⟩:=T1;simp only at r2 hd HP OB ⊢;go_wp2_with fail;refine (dV 4 B L ao cap limit st2 ov kv _ r2 (by omega)).mono ?_;rintro e w3 ⟨rfl,r3,k3⟩;have hk:=Rf.take_range a9 st2 4;have ho1:=(Rf.bY L st2 4).1;have hm1:=Rf.dN L st2 4;have Ns:Hid ((Rf.take L st2 4).2.out.length<=258*(Rf.take L st2 4).2.pos):=by have:=OB.out;show _<=_;rw[ho1];omega
 have kp:=(k1.trans k2).trans k3;clear ho1 hm1 OB r2 k1 k2 k3;generalize Rf.take L st2 4=T1 at *;obtain⟨k,eL⟩:=T1;simp only at r3 hk HP Ns ⊢;obtain⟨h,rfl⟩:=aaO hh.1;obtain⟨d,rfl⟩:=aaO hd.1;obtain⟨k,rfl⟩:=aaO hk.1;have acd:h<32:=by have:=hh.2;omega
 have hd32:d<32:=by have:=hd.2;omega
 have ace:k<16:=by have:=hk.2;omega
 simp only[aa5]at HP;clear hh hd hk;obtain⟨QQ,RT⟩:∃QQ,QQ=Rf.jX L (k+4) 0 (List.replicate 19 0) eL:=⟨_,rfl⟩
 rw[<-RT]at HP
 have HW:Hid (Rf.cU QQ.1 7/\QQ.1.length=19):=by
  show _/\_;rw[RT];exact⟨Rf.qB a9 _ _ _ _ (Rf.pK 19 7 (by omega)),(Rf.qA L _ _ _ _).trans (by simp)⟩
 have hlt3:=r3.lt;have hov:∀g,ov.ownBlock=some g->g<w3.heap.size:=fun g hg=>(r3.ho.lt g hg).2;have hkv:∀g,kv.ownBlock=some g->g<w3.heap.size:=fun g hg=>(r3.hk.lt g hg).2
 go_upto_block 0 with fail
 go_cut [7] (fun s7 wc=>∃(ls:List Int) (aT:Rf.St),QQ=(ls,aT)/\dk wc B L ao cap limit aT ov kv/\Kp (·=B) w3 wc/\aR wc (w3.heap.size+1) ls/\Hid (aT.out.length<=258*aT.pos))
 case first =>
  go_wp2
  go_loopw [7] (fun v wr=>∃(i:Nat) (ls:List Int) (st':Rf.St),v=.int .i64 i/\i<=k+4/\ls.length=19/\Hid (QQ=Rf.jX L (k+4-i) i ls st')/\dk wr B L ao cap limit st' ov kv/\Kp (·=B) w3 wr/\aR wr w3.heap.size (Rf.order.map Int.ofNat)/\aR wr (w3.heap.size+1) ls/\Hid (st'.out.length<=258*st'.pos)) (fun i _=>20-(intOf i).toNat)
  case atStart =>
   have hbw:Below w3.heap.size w3 ((w3.alloc (.cells (vals (Rf.order.map Int.ofNat)).toArray 3)).alloc (.cells Z.toArray 3)):=((aak _ _).alloc (aad _) _).alloc (by simp) _;have hl2:=ak (w3.alloc (.cells (vals (Rf.order.map Int.ofNat)).toArray 3)) (.cells Z.toArray 3);rw[show (w3.alloc (.cells (vals (Rf.order.map Int.ofNat)).toArray 3)).heap.size=w3.heap.size+1 by simp]at hl2;refine⟨0,List.replicate 19 0,eL,rfl,by omega,by simp,RT,r3.later hbw,Kp.aJ hbw,?_,hl2.trans (by rw[HZ.out]),Ns⟩;exact (aaM (w3.alloc (.cells (vals (Rf.order.map Int.ofNat)).toArray 3)) _ w3.heap.size (by simp)).trans (ak w3 _)
  case round =>
   clear RT HZ Ns hmk r3;obtain⟨i,ls,st',rfl,hik,Hf,HF,r4,k4,o4,l4,HO⟩:=hrel;obtain⟨d0,d1,d2,d3,d4,d5,d6,fz⟩:=r4.cells;by_cases hdone:k+4<=i
   ·have HE:Hid (QQ=(ls,st')):=by show _=_;rw[HF.out,show k+4-i=0 by omega];rfl
    go_wp2
    go_meet
    case rel=>exact⟨ls,st',HE.out,r4,k4,l4,HO⟩
   ·cases hb4:st'.bad
    ·rw[hb4]at d3;have cz:Hid (QQ=Rf.jX L (k+4-(i+1)) (i+1) (ls.set (Rf.order.getD i 0) (Rf.take L st' 3).1) (Rf.take L st' 3).2):=by show _=_;rw[HF.out,show k+4-i=(k+4-(i+1))+1 by omega,Rf.jX,aae (by rw[hb4];decide)]
     go_wp2_with fail;refine (dV 3 B L ao cap limit st' ov kv _ r4 (by omega)).mono ?_;rintro e w5 ⟨rfl,r5,k5⟩;have ho1:=(Rf.bY L st' 3).1;have hm1:=Rf.dN L st' 3;have CV:Hid ((Rf.take L st' 3).2.out.length<=258*(Rf.take L st' 3).2.pos):=by have:=HO.out;show _<=_;rw[ho1];omega
     have o5:aR w5 w3.heap.size (Rf.order.map Int.ofNat):=(k5.block _ (aab o4) (by omega)).trans o4;have l5:aR w5 (w3.heap.size+1) ls:=(k5.block _ (aab l4) (by omega)).trans l4;have j6:=k4.trans k5;clear ho1 hm1 HO r4 k4 k5 o4 l4 HF d0 d1 d2 d3 d4 d5 d6 fz;generalize Rf.take L st' 3=TK at *;obtain⟨x,KI⟩:=TK;simp only at r5 cz CV ⊢;obtain⟨p,hp⟩:∃p,p=Rf.order.getD i 0:=⟨_,rfl⟩
     have acf:p<19:=by rw[hp];exact Rf.oK i
     have co:w5.cell? ⟨w3.heap.size,i,none⟩=some (.int .i64 (p:Int)):=(o5.cell i (by simp[Rf.order];omega)).trans (by
      rw[hp];have hio:i<Rf.order.length:=by simp[Rf.order];omega
      simp[List.getD,List.getElem?_eq_getElem hio])
     rw[<-hp]at cz;obtain⟨y,c1⟩:∃y,w5.cell? ⟨w3.heap.size+1,p,none⟩=some (.int .i64 y):=⟨_,l5.cell p (by omega)⟩
     have f1:w5.frozen? ⟨w3.heap.size+1,p,none⟩=false:=aaE w5 _ _ _ _ l5;have KS:Kp (·=w3.heap.size+1) w5 (w5.setCell ⟨w3.heap.size+1,p,none⟩ (.int .i64 x)):=(Kp.refl (·=w3.heap.size+1) w5).setCell (p:=⟨w3.heap.size+1,p,none⟩) (.inl rfl) _;have hsz:=j6.size
     have HR:Hid (dk (w5.setCell ⟨w3.heap.size+1,p,none⟩ (.int .i64 x)) B L ao cap limit KI ov kv) :=
      r5.keep (fun g hg=>KS.block g (by omega) (by omega)) (fun g hg=>KS.block g (by have:=hov g hg;omega) (by have:=hov g hg;omega)) (fun g hg=>KS.block g (by have:=hkv g hg;omega) (by have:=hkv g hg;omega))
     have HK:Hid (Kp (·=B) w3 (w5.setCell ⟨w3.heap.size+1,p,none⟩ (.int .i64 x))):=j6.setCell (p:=⟨w3.heap.size+1,p,none⟩) (.inr (Nat.le_succ _)) _
     have HL:Hid (aR (w5.setCell ⟨w3.heap.size+1,p,none⟩ (.int .i64 x)) w3.heap.size (Rf.order.map Int.ofNat)/\aR (w5.setCell ⟨w3.heap.size+1,p,none⟩ (.int .i64 x)) (w3.heap.size+1) (ls.set p x)) :=
      ⟨(KS.block _ (aab o5) (by omega)).trans o5,l5.set p x⟩
     have K9:Hid ((ls.set p x).length=19):=by show _=_;simp[Hf]
     clear hp KS r5 j6 o5 l5;go_wp2
     go_roundw
     case rel=>exact⟨i+1,ls.set p x,KI,by go_num,by omega,K9.out,cz,HR.out,HK.out,HL.out.1,HL.out.2,CV⟩
     case measure=>simp[intOf];omega
    ·have HE:Hid (QQ=(ls,st')):=by show _=_;rw[HF.out,show k+4-i=(k+3-i)+1 by omega,Rf.jX,aaf hb4]
     rw[hb4]at d3;go_wp2
     go_meet
     case rel=>exact⟨ls,st',HE.out,r4,k4,l4,HO⟩
 case rest =>
  obtain⟨ls,aT,hq,r4,k4,l4,AH⟩:=hcut;clear RT HZ hmk r3 Ns;rw[hq]at HP HW;simp only at HP HW;have Hf:=HW.out.2;have AG:=kp.trans k4;clear hq k4 kp;go_wp2_with fail;refine (AZ (some ⟨w3.heap.size+1,0,none⟩) 19 ls 19 _ Hf (by omega) l4.ints (fun j=>by have:=(HW.out.1 j).2;omega)).mono ?_;rintro e w5 ⟨rfl,rfl⟩;obtain⟨d0,d1,d2,d3,d4,d5,d6,fz⟩:=r4.cells;have HR:Hid (dk (w5.setCell ⟨B,3,none⟩ (.bool true)) B L ao cap limit { aT with bad:=true } ov kv):=r4.set 3 (.bool true) _ rfl rfl rfl r4.hpos;have Gy:Hid (Fr B w (w5.setCell ⟨B,3,none⟩ (.bool true))):=Fr.fW (aaI hlt) (AG.set1 _ _);obtain⟨fb,ve⟩:∃fb,fb=Rf.full ls:=⟨_,rfl⟩
  rw[<-ve]at HP ⊢;clear ve;by_cases hc:aT.bad=true\/29<(h:Int)\/29<(d:Int)\/fb=false
  ·rw[aaf hc]at HP;cases hb4:aT.bad
   ·rw[hb4]at d3;by_cases h1:29<h
    ·go_wp2;exact aal (abe rfl _ _ _) rfl ⟨rfl,⟨_,by rw[HQ.out,HP.out];exact HR.out⟩,Gy.out⟩
    ·by_cases h2:29<d
     ·go_wp2;exact aal (abe rfl _ _ _) rfl ⟨rfl,⟨_,by rw[HQ.out,HP.out];exact HR.out⟩,Gy.out⟩
     ·have h3:fb=false:=by rw[hb4]at hc;rcases hc with hc|hc|hc|hc<;>first|exact hc|omega|cases hc
      subst h3;go_wp2;exact aal (abe rfl _ _ _) rfl ⟨rfl,⟨_,by rw[HQ.out,HP.out];exact HR.out⟩,Gy.out⟩
   ·rw[hb4]at d3;go_wp2;exact aal (abe rfl _ _ _) rfl ⟨rfl,⟨_,by rw[HQ.out,HP.out];exact HR.out⟩,Gy.out⟩
  ·rw[aae hc]at HP;have hb4:aT.bad=false:=by cases h:aT.bad<;>simp_all
   have ve:fb=true:=by cases fb<;>simp_all
   have h29:h<=29:=Nat.le_of_not_lt fun hx=>hc (.inr (.inl (by omega)))
   have d29:d<=29:=Nat.le_of_not_lt fun hx=>hc (.inr (.inr (.inl (by omega))))
   subst ve;rw[hb4]at d3;clear hc HR Gy;have A4:Apart w5 B (some ⟨w3.heap.size+1,0,none⟩) ls:=⟨l4.ints,fun a e _=>by cases e;exact⟨by show w3.heap.size+1≠B;omega,aab l4⟩⟩
   obtain⟨n,hn⟩:∃n,n=((h:Int)+d+258).toNat:=⟨_,rfl⟩
   rw[<-hn]at HP;have HN:Hid ((h:Int)+d+258=(n:Int)):=by show _=_;omega
   have hn1:n=h+d+258:=by omega
   clear hn;go_wp2_with fail;refine (He ((h:Int)+d+258) (some ⟨w3.heap.size+1,0,none⟩) 19 19 n B ls L ao cap limit aT ov kv _ r4 Hf (by omega) (by omega) A4 HN.out).mono ?_;rintro e w6 ⟨v,rfl,r6,k6,jm⟩;have hlo:=rU L ls n aT;have Q8:Hid ((Rf.listed L ls n aT).2.out.length<=258*(Rf.listed L ls n aT).2.pos):=by have:=AH.out;have:=hlo.2;show _<=_;rw[hlo.1];omega
   have nI:Hid (Rf.cU (Rf.listed L ls n aT).1 15):=Rf.uz a9 ls Hf n aT;have iV:=AG.trans k6;have RU:B<w5.heap.size:=r4.lt;clear hlo AH HW HN d0 d1 d2 d3 d4 d5 d6 fz AG k6 r4 l4 A4;generalize Rf.listed L ls n aT=LS at *;obtain⟨all,K6⟩:=LS;simp only at r6 HP Q8 nI jm ⊢;obtain⟨d0,d1,d2,d3,d4,d5,d6,fz⟩:=r6.cells;cases hb6:K6.bad
   ·rw[hb6]at d3 HP;simp only[abl,acA]at HP;obtain⟨ow,hal⟩:=jm hb6;obtain⟨g,cp,rfl,hg⟩:=rT ow (by omega);obtain⟨hcp,hcm,hgw⟩:=K0 ow;have hm:Hid (h+257<=n):=by show _<=_;omega
    obtain⟨F1,F2⟩:=KZ ow (show g≠B by omega) (h+257);have uB:=hidden (And.intro F1 F2);clear F1 F2 ow jm;go_wp2;rw[show h+d+258-(h+257)=d+1 by omega];have hl1:(all.take (h+257)).length=h+257:=by rw[aaQ];omega
    have hl2:(all.drop (h+257)).length=d+1:=by rw[abv];omega
    have HW1:Hid (Rf.cU (all.take (h+257)) 15/\Rf.cU (all.drop (h+257)) 15):=⟨Rf.yx nI.out _ (by omega),Rf.yy nI.out _⟩
    generalize all.take (h+257)=L1 at *;generalize all.drop (h+257)=L2 at *;generalize cp-(h+257)=c2 at *;clear nI hal
    go_loop [13,14,15] (fun o s i=>∃k:Nat,k<=d+1/\i=.int .i64 k/\s=.int .i64 (Rf.iY L2 k)/\o=.int .i64 (Rf.ib L2 k:Nat)) (fun _ _ i=>d+1-(intOf i).toNat)
    case atStart=>exact⟨0,aaj _,rfl,rfl,rfl⟩
    case round =>
     obtain⟨j,hj,rfl,rfl,rfl⟩:=hrel;have hsr:=vg HW1.out.2 j;by_cases hjd:j<d+1
     ·obtain⟨b,off,e,hc⟩:=uB.out.2.ints j (by omega);cases e;obtain⟨x,hx⟩:∃x:Int,x=L2[j]:=⟨_,rfl⟩
      have hx2:L2.getD j 0=x:=by rw[hx];simp[List.getD,List.getElem?_eq_getElem (show j<L2.length by omega)]
      have K8:=HW1.out.2 j;rw[hx2]at K8;rw[<-hx]at hc;have HS:Hid (Rf.iY L2 (j+1)=Rf.iY L2 j+x/\Rf.ib L2 (j+1)=Rf.ib L2 j+if x=1 then 1 else 0):=by rw[<-hx2];exact⟨rfl,rfl⟩
      clear hx hx2;generalize Rf.iY L2 j=s at *;generalize Rf.ib L2 j=o at *;have hs1:0<=s/\s<=480:=by omega
      have ho1:o<=32:=by omega
      clear hsr;by_cases h1:x=1
      ·subst h1;go_wp2
       go_round
       case rel=>exact⟨j+1,by omega,by go_num,by rw[HS.out.1],by rw[HS.out.2,aaf rfl];go_num⟩
       case measure=>simp[intOf];omega
      ·have h1':(x==1)=false:=aam.2 h1;go_wp2
       go_round
       case rel=>exact⟨j+1,by omega,by go_num,by rw[HS.out.1],by rw[HS.out.2,aae h1];rfl⟩
       case measure=>simp[intOf];omega
     ·have WE:j=d+1:=by omega
      subst WE;obtain⟨b,off,e,hc⟩:=uB.out.1.ints 256 (by omega);cases e;obtain⟨x,hx⟩:∃x:Int,x=L1[256]:=⟨_,rfl⟩
      have hx2:L1.getD 256 0=x:=by rw[hx];simp[List.getD,List.getElem?_eq_getElem (show 256<L1.length by omega)]
      rw[<-hx]at hc;have hc':w6.cell? ⟨g,256,none⟩=some (.int .i64 x):=by simpa using hc
      have HR:Hid (dk (w6.setCell ⟨B,3,none⟩ (.bool true)) B L ao cap limit { K6 with bad:=true } ov kv):=r6.set 3 (.bool true) _ rfl rfl rfl r6.hpos;have Gy:Hid (Fr B w (w6.setCell ⟨B,3,none⟩ (.bool true))):=Fr.fW (aaI hlt) (iV.set1 _ _)
      have HB:Hid (Rf.cY L1 L2=((x==0)||!Rf.full L1||(!Rf.full L2&&((Rf.iY L2 (d+1) != 0)&&((Rf.iY L2 (d+1) != 1)||(((Rf.ib L2 (d+1):Nat):Int) != 1)))))):=by
       show _=_;exact Ez L1 L2 x (d+1) hx2 hl2
      clear hx hx2 hsr hc;go_wp2_with fail;refine (AZ (some ⟨g,0,none⟩) cp L1 (h+257) _ hl1 (by omega) uB.out.1.ints (fun j=>(HW1.out.1 j).2)).mono ?_;rintro e w7 ⟨rfl,rfl⟩;go_wp2_with fail;refine (AZ (some ⟨g,h+257,none⟩) c2 L2 (d+1) _ hl2 (by omega) uB.out.2.ints (fun j=>(HW1.out.2 j).2)).mono ?_;rintro e w7 ⟨rfl,rfl⟩;generalize Rf.full L1=f1 at *;generalize Rf.full L2=f2 at *;generalize Rf.iY L2 (d+1)=s at *;generalize ((Rf.ib L2 (d+1):Nat):Int)=o at *;cases e0:(x==0)
      ·cases f1
       ·have HB:Hid (Rf.cY L1 L2=true):=by show _=_;rw[HB.out];simp
        go_wp2;exact aal (abe rfl _ _ _) rfl ⟨rfl,⟨_,by rw[HQ.out,HP.out,aaf HB.out];exact HR.out⟩,Gy.out⟩
       ·cases f2
        ·cases e1:(s != 0)
         ·have HB:Hid (Rf.cY L1 L2=false):=by show _=_;rw[HB.out,e0,e1];simp
          go_wp2_with fail;refine (jI (some ⟨g,0,none⟩) (some ⟨g,h+257,none⟩) cp c2 (h+257) (d+1) B L1 L2 L ao cap limit K6 ov kv _ r6 hl1 hl2 (by omega) (by omega) uB.out.1 uB.out.2 Q8).mono ?_;rintro e w7 ⟨rfl,⟨RV,r7⟩,f7⟩;go_wp2
          go_end0
          exact⟨rfl,⟨RV,by rw[HQ.out,HP.out,aae (by rw[HB.out];decide)];exact r7⟩,(Fr.fW (aaI hlt) iV).trans f7⟩
         ·cases e2:(s != 1)
          ·cases e3:(o != 1)
           ·have HB:Hid (Rf.cY L1 L2=false):=by show _=_;rw[HB.out,e0,e2,e3];simp
            go_wp2_with fail;refine (jI (some ⟨g,0,none⟩) (some ⟨g,h+257,none⟩) cp c2 (h+257) (d+1) B L1 L2 L ao cap limit K6 ov kv _ r6 hl1 hl2 (by omega) (by omega) uB.out.1 uB.out.2 Q8).mono ?_;rintro e w7 ⟨rfl,⟨RV,r7⟩,f7⟩;go_wp2
            go_end0
            exact⟨rfl,⟨RV,by rw[HQ.out,HP.out,aae (by rw[HB.out];decide)];exact r7⟩,(Fr.fW (aaI hlt) iV).trans f7⟩
           ·have HB:Hid (Rf.cY L1 L2=true):=by show _=_;rw[HB.out,e1,e3];simp
            go_wp2;exact aal (abe rfl _ _ _) rfl ⟨rfl,⟨_,by rw[HQ.out,HP.out,aaf HB.out];exact HR.out⟩,Gy.out⟩
          ·have HB:Hid (Rf.cY L1 L2=true):=by show _=_;rw[HB.out,e1,e2];simp
           go_wp2;exact aal (abe rfl _ _ _) rfl ⟨rfl,⟨_,by rw[HQ.out,HP.out,aaf HB.out];exact HR.out⟩,Gy.out⟩
        ·have HB:Hid (Rf.cY L1 L2=false):=by show _=_;rw[HB.out,e0];simp
         go_wp2_with fail;refine (jI (some ⟨g,0,none⟩) (some ⟨g,h+257,none⟩) cp c2 (h+257) (d+1) B L1 L2 L ao cap limit K6 ov kv _ r6 hl1 hl2 (by omega) (by omega) uB.out.1 uB.out.2 Q8).mono ?_;rintro e w7 ⟨rfl,⟨RV,r7⟩,f7⟩;go_wp2
         go_end0
         exact⟨rfl,⟨RV,by rw[HQ.out,HP.out,aae (by rw[HB.out];decide)];exact r7⟩,(Fr.fW (aaI hlt) iV).trans f7⟩
      ·have HB:Hid (Rf.cY L1 L2=true):=by show _=_;rw[HB.out,e0];simp
       go_wp2;exact aal (abe rfl _ _ _) rfl ⟨rfl,⟨_,by rw[HQ.out,HP.out,aaf HB.out];exact HR.out⟩,Gy.out⟩
   ·rw[hb6]at d3 HP;simp only[if_true]at HP;go_wp2;exact aal (abe rfl _ _ _) rfl ⟨rfl,⟨_,by rw[HQ.out,HP.out];exact r6⟩,Fr.fW (aaI hlt) iV⟩
theorem dk.nO {w w2:World}{B:Nat}{L:List Int}{ao:Option Addr}{cap:Nat}{limit:Int}{st:Rf.St}{ov kv v':Value}(h:dk w B L ao cap limit st ov kv)(o:Obj)(c:Int)(hown':w2.ownsRow (B+1) 3 1 v' (st.kinds.length+1) (vals st.kinds++[.int .i64 c]))(hgrow:(w.alloc o).grownBy w2 kv.ownBlock): dk (w2.setCell ⟨B,6,none⟩ v') B L ao cap limit { st with kinds:=st.kinds++[c] } ov v'/\Below B w (w2.setCell ⟨B,6,none⟩ v'):=by
 have hlt:=h.lt;have hne:∀k,k<=B->some k≠kv.ownBlock:=fun k hk e=>by have:=(h.hk.lt k e.symm).1;omega
 have hblk:∀k,k<w.heap.size->some k≠kv.ownBlock->w2.heap[k]?=w.heap[k]?:=fun k hk hn=>(hgrow.block k (by simp;omega) hn).trans (aaM w o k hk);have hB2:w2.heap[B]?=_:=(hblk B hlt (hne B (aad _))).trans h.blk;have hsz:w.heap.size<=w2.heap.size:=by have:=hgrow.size;simp at this;omega
 refine⟨⟨(aat w2 B 6 _ _ v' hB2).trans rfl,?_,h.hla,h.hb,h.hpos,h.hlen,h.h8,?_,?_⟩,⟨hgrow.os,hgrow.tape,hgrow.output,by simp;omega,?_⟩⟩
 ·intro k hk;obtain⟨b,off,rfl,hc⟩:=h.hl k hk;have hb:=h.hla _ rfl (ne_of_lt hk);have e1:(w2.setCell ⟨B,6,none⟩ v').heap[b]?=w.heap[b]?:=(aag w2 ⟨B,6,none⟩ v' b (Nat.ne_of_lt hb)).trans (hblk b (Nat.lt_trans hb hlt) (hne b (aaI hb)));exact⟨b,off,rfl,(aaT (w:=w) e1).trans hc⟩
 ·refine aby (((h.ho.alloc o).kept hgrow ?_)) (abD B) v';cases hov:ov.ownBlock with
  | none=>exact .inl rfl
  | some g =>
   right
   intro e;obtain⟨cur,q1⟩:=eU h.ho g hov;obtain⟨Wq,q2⟩:=eU h.hk g e.symm;rw[q1]at q2;simp at q2
 ·have:vals (st.kinds++[c])=vals st.kinds++[.int .i64 c]:=by simp[vals]
  rw[show ({ st with kinds:=st.kinds++[c] }:Rf.St).kinds=st.kinds++[c] from rfl,this,aac];exact aby hown' (abD B) v'
 ·intro k hk;exact (aag w2 ⟨B,6,none⟩ v' k (Nat.ne_of_lt hk)).trans (hblk k (Nat.lt_trans hk hlt) (hne k (aaI hk)))
theorem dk.lN {w w2:World}{B:Nat}{L:List Int}{ao:Option Addr}{cap:Nat}{limit:Int}{st:Rf.St}{ov kv:Value}(h:dk w B L ao cap limit st ov kv)(o:Obj)(hgrow:(w.alloc o).grownBy w2 kv.ownBlock): w2.cell? ⟨B,6,none⟩=some kv/\w2.frozen? ⟨B,6,none⟩=false/\w2.heap[B]?=w.heap[B]?:=by
 have hlt:=h.lt;have e:w2.heap[B]?=w.heap[B]?:=(hgrow.block B (by simp;omega) (fun e=>by have:=(h.hk.lt B e.symm).1;omega)).trans (aaM w o B hlt);have hB:=e.trans h.blk;exact⟨aan _ _ _ _ _ _ hB,aaE w2 B 6 _ _ hB,e⟩
theorem pO (c:UInt8):∀j x,x∈Mx.some c j->0<=x/\x<=1:=by
 intro j
 induction j with
 | zero=>intro x hx;simp[Mx.some]at hx
 | succ j ih =>
  intro x hx;rw[Mx.pL]at hx;rcases aa8.1 hx with h|h
  ·exact ih x h
  ·simp at h;omega
theorem Lc (l:List UInt8):∀x,x∈Mx.low l->0<=x/\x<=1:=by
 induction l with
 | nil=>intro x hx;cases hx
 | cons c l ih =>
  intro x hx;rcases aa8.1 hx with h|h
  ·exact pO c 8 x h
  ·exact ih x h
theorem qD (l:List UInt8):Rf.Bits (Mx.low l):=by
 intro j;by_cases hj:j<(Mx.low l).length
 ·have h:=Lc l _ (aaR hj);have e:(Mx.low l).getD j 0=(Mx.low l)[j]:=by simp[List.getD,List.getElem?_eq_getElem hj]
  omega
 ·left
  simp[List.getD,List.getElem?_eq_none (show (Mx.low l).length<=j by omega)]
theorem EA {w:World}{base n cap:Nat}{oa:Option Addr}{zs:List Int}(h:w.ownsRow base 3 1 (.slice oa n cap) n (vals zs)):Ints w oa zs/\(∀a,oa=some a->zs≠[]->a.block<w.heap.size):=by
 have hl:=h.1;rcases h.2 with⟨h',hn⟩|⟨g,cap',cur,e,_,hb,_⟩
 ·have:zs=[]:=by
   have:zs.length=0:=by simp[vals]at hl;omega
   exact aau this
  subst this;exact⟨fun j hj=>absurd hj (abY _),fun _ _ h=>absurd rfl h⟩
 ·cases e;exact⟨fun j hj=>⟨g,0,rfl,by have:=oN h j hj;simpa using this⟩,fun a e _=>by cases e;exact aab hb⟩
theorem CX (w:World)(oa:Option Addr)(oc:Nat)(limit:Int)(L:List Int)(base n:Nat)(h:w.ownsRow base 3 1 (.slice oa n oc) n (vals L))(hn:L.length=n)(hb:Rf.Bits L)(hlen:n<=40000000)(h8:n%8=0): dk (w.alloc (.cells #[.slice oa n oc,.int .i64 0,.int .i64 limit,.bool false,.bool false,.slice none 0 0,.slice none 0 0] 109)) w.heap.size L oa oc limit ⟨0,false,false,[],[]⟩ (.slice none 0 0) (.slice none 0 0):=by
 obtain⟨h1,h2⟩:=EA h;subst hn;refine⟨ak w _,fun j hj=>?_,h2,hb,aaj _,hlen,h8,aba _ _ _ _,aba _ _ _ _⟩;obtain⟨b,off,rfl,hc⟩:=h1 j hj;exact⟨b,off,rfl,(aaT (w:=w) (aaM w _ b (h2 _ rfl (ne_of_lt hj)))).trans hc⟩
end Go.Proofs.YtmfijackgekioaaGreatDoor
