import Derived.Test.YtmfijackgekioaaGreatDoorQ05
import Derived.Test.YtmfijackgekioaaGreatDoorQ27
set_option maxHeartbeats 8000000
set_option maxRecDepth 100000
namespace Go.Proofs.YtmfijackgekioaaGreatDoor
open Go.RowKit
def a1 (F:Rf.St):Value:=if (F.bad||F.full)=true then .string ⟨#[]⟩ else .string ⟨F.out.toArray⟩
def a2 (F:Rf.St):Value:=if (F.bad||F.full)=true then .int .i64 0 else .int .i64 (((F.pos+7)/8:Nat):Int)
def a3 (F:Rf.St):Value:=if (F.bad||F.full)=true then .int .i64 (code F) else .int .i64 0
theorem Fz (s:ByteArray)(limit:Int)(w:World)(hs:s.size<=5000000): Calls Tryz.prog 44 #[.string s,.int .i64 limit] w fun e w'=>∃kv,e=.returned (.tuple #[a1 (Rf.inflate (lw s) limit),a2 (Rf.inflate (lw s) limit),a3 (Rf.inflate (lw s) limit),kv])/\Below w.heap.size w w':=by
 obtain⟨RES,jH⟩:∃RES,RES=Rf.inflate (lw s) limit:=⟨_,rfl⟩
 rw[<-jH];have tY:RES=Rf.inflate (Mx.low s.data.toList) limit:=jH;clear jH;obtain⟨i0,hi,hz0,hz1,hz2⟩:=aaX Tryz.info3
 go_enter Tryz.func44,Tryz.ntmps44
 go_wp2_with fail;refine (Nt s _ hs).mono ?_;rintro e w1 ⟨v,rfl,BS,b1⟩;obtain⟨oa,oc,rfl⟩:=aD BS;have I4:(Mx.low s.data.toList).length=8*s.size:=by rw[Mx.jZ];simp
 have a9:=qD s.data.toList;have r1:=CX w1 oa oc limit (Mx.low s.data.toList) _ _ BS I4 a9 (by omega) (by omega);generalize Mx.low s.data.toList=L at *;clear BS;have TN:=b1
 go_upto_block 0 with fail
 go_cut [9] (fun _ wc=>∃(ov kv:Value),dk wc w1.heap.size L oa oc limit RES ov kv/\Below w1.heap.size w1 wc)
 case first =>
  go_wp2
  go_loopw [9] (fun v wr=>∃(f:Nat) (last:Int) (st:Rf.St) (ov kv:Value),v=.int .i64 last/\(last=0\/last=1)/\dk wr w1.heap.size L oa oc limit st ov kv/\Below w1.heap.size w1 wr/\Hid (RES=Rf.nH L limit f last st)/\L.length+2<=f+st.pos/\Hid (st.out.length<=258*st.pos)/\Hid (st.kinds.length<=st.pos)) (fun _ wr=>L.length-jo w1.heap.size wr)
  case atStart=>exact⟨L.length+2,0,_,_,_,rfl,.inl rfl,r1,(aak _ _).alloc (aad _) _,tY,aad _,aaj _,aaj _⟩
  case round =>
   clear r1 tY;obtain⟨f,last,st,ov,kv,rfl,h01,r2,b2,HF,hfu,HO,HK⟩:=hrel;have hp2:=r2.hpos;obtain⟨f,rfl⟩:∃g,f=g+1:=⟨f-1,by omega⟩
   rcases h01 with rfl|rfl
   ·go_wp2_with fail;refine (pM w1.heap.size L oa oc limit st ov kv _ r2).mono ?_;rintro e w2 ⟨rfl,rfl⟩;cases hst:(st.bad||st.full)
    ·have cz:Hid (RES=_):=HF.out.trans (by rw[Rf.nH,aae (by rw[hst];decide)]);have hlt2:=r2.lt;have hpw:=hidden r2.jo;go_wp2_with fail;refine (dV 1 w1.heap.size L oa oc limit st ov kv _ r2 (by omega)).mono ?_;rintro e w3 ⟨rfl,r3,k3⟩;have ha:=Rf.take_one a9 st;have g3:=Rf.dO L st 1;have hk3:=Rf.bC L st 1;have b3:=b2.trans (k3.below (aaI hlt2) (fun k _ h=>by omega));have PQ:=hidden (Rf.gH L st 1);have hlt3:=r3.lt;clear k3 r2 b2 HF;generalize Rf.take L st 1=A at *;obtain⟨a,eL⟩:=A;simp only at r3 ha g3 hk3 cz PQ ⊢;go_wp2_with fail;refine (dV 2 w1.heap.size L oa oc limit eL ov kv _ r3 (by omega)).mono ?_;rintro e w4 ⟨rfl,r4,k4⟩;have hkr:=Rf.take_range a9 eL 2;have g4:=g3.trans (Rf.dO L eL 2);have hk4:=(Rf.bC L eL 2).trans hk3;have b4:=b3.trans (k4.below (aaI hlt3) (fun k _ h=>by omega));have PS:=hidden (Rf.gH L eL 2);have Tz:=r4.lt;clear k4 r3 b3 g3 hk3;generalize Rf.take L eL 2=K at *;obtain⟨k,aT⟩:=K;simp only at r4 hkr g4 hk4 cz PS ⊢;obtain⟨d0,d1,d2,d3,d4,d5,d6,fz⟩:=r4.cells;cases hb4:aT.bad
     ·rw[hb4]at d3;rw[aae (by rw[hb4];decide)]at cz;have TP:=PS.out hb4;have hp3:=PQ.out TP.2;have HB:Hid (aT.kinds.length+1<=maxLen/\(aT.kinds.length+1)*8<=140737488355328):=by have:=HK.out;have:=r4.hpos;show _/\_;unfold maxLen;rw[hk4];omega
      have xO:a=0\/a=1:=by omega
      have xP:Hid (aT.out.length<=258*aT.pos):=by have:=HO.out;have:=g4.2;show _<=_;omega
      have H3:Hid (aT.out.length<=11000000000):=by have:=xP.out;have:=r4.hpos;have:=r4.hlen;show _<=_;omega
      have lk:Hid (aT.pos<=(Rf.block L limit k { aT with kinds:=aT.kinds++[k] }).pos/\Hid ((Rf.block L limit k { aT with kinds:=aT.kinds++[k] }).out.length<=258*(Rf.block L limit k { aT with kinds:=aT.kinds++[k] }).pos)/\Hid ((Rf.block L limit k { aT with kinds:=aT.kinds++[k] }).kinds.length<=(Rf.block L limit k { aT with kinds:=aT.kinds++[k] }).pos)):=by
       have g5:=Rf.rW a9 limit k { aT with kinds:=aT.kinds++[k] };have X8:aT.pos<=_:=g5.1;have g52:_+258*aT.pos<=aT.out.length+_:=g5.2;have hkk:=Rf.qC L limit k { aT with kinds:=aT.kinds++[k] };have hkl:(Rf.block L limit k { aT with kinds:=aT.kinds++[k] }).kinds.length=st.kinds.length+1:=by rw[hkk];show (aT.kinds++[k]).length=_;rw[aac,hk4];rfl
       have h1:=xP.out;have h2:=HK.out;refine⟨X8,?_,?_⟩
       ·show _<=_;omega
       ·show _<=_;omega
      have hps:aT.pos=st.pos+3:=by omega
      clear HK HO g4 hk4 PQ PS hp3 TP;rcases (show k=0\/k=1\/k=2\/k=3 by have:=hkr.2;have:=hkr.1;omega) with rfl|rfl|rfl|rfl
      ·have e:Rf.block L limit 0 { aT with kinds:=aT.kinds++[0] }=Rf.plain L limit { aT with kinds:=aT.kinds++[0] }:=aaf rfl;rw[e]at cz lk;clear e;go_wp2_with (at_builtin;refine aax _ rfl _ _ 24 rfl (w1.heap.size+1) 3 i0 (.int .i64 0) 1 8 Tryz.underlying24 hi hz0 hz1 hz2 rfl (by decide) _ _ _ rfl (r4.hk.alloc _) ⟨w4.heap.size,0,none⟩ 1 1 [.int .i64 0] rfl rfl (aa1 _ _ _) (by intro u hu;simp at hu;subst hu;rfl) HB.out.1 HB.out.2 (by simp;omega) ?_;intro v' w5 hown' hgrow _;obtain⟨q1,q2,_⟩:=r4.lN _ hgrow;obtain⟨ll,j5,rfl⟩:=aD hown';have R:=r4.nO (.cells #[.int .i64 0] 3) 0 hown' hgrow);refine (CS w1.heap.size L oa oc limit _ ov _ _ R.1 H3).mono ?_;rintro e w6 ⟨rfl,⟨Jj,r6⟩,FA⟩;have f6:=FA.below;go_wp2
       go_roundw
       case rel=>exact⟨f,a,_,Jj,_,rfl,xO,r6,(b4.trans R.2).trans f6,cz,by have:=lk.out.1;omega,lk.out.2.1,lk.out.2.2⟩
       case measure=>have:=lk.out.1;have:=r6.hpos;rw[r6.jo,hpw.out];omega
      ·have e:Rf.block L limit 1 { aT with kinds:=aT.kinds++[1] }=Rf.symbols L limit Rf.bE Rf.jl { aT with kinds:=aT.kinds++[1] }:=(aae (by decide)).trans (aaf rfl);rw[e]at cz lk;clear e;have hfx:=CU;have lS:Rf.bE.length=288:=by simp[Rf.bE]
       have lD:Rf.jl.length=32:=by simp[Rf.jl]
       generalize Rf.bE=FS at *;generalize Rf.jl=FD at *;go_wp2_with (at_builtin;refine aax _ rfl _ _ 24 rfl (w1.heap.size+1) 3 i0 (.int .i64 0) 1 8 Tryz.underlying24 hi hz0 hz1 hz2 rfl (by decide) _ _ _ rfl (r4.hk.alloc _) ⟨w4.heap.size,0,none⟩ 1 1 [.int .i64 1] rfl rfl (aa1 _ _ _) (by intro u hu;simp at hu;subst hu;rfl) HB.out.1 HB.out.2 (by simp;omega) ?_;intro v' w5 hown' hgrow _;obtain⟨q1,q2,q9⟩:=r4.lN _ hgrow;have q3:w5.cell? ⟨w1.heap.size,3,none⟩=some (.bool false):=(aaT q9).trans d3;have q4:w5.frozen? ⟨w1.heap.size,3,none⟩=false:=(World.frozen?_of_block q9).trans (fz 3);obtain⟨ll,j5,rfl⟩:=aD hown';have R:=r4.nO (.cells #[.int .i64 1] 3) 1 hown' hgrow);refine (hfx _).mono ?_;rintro e w6 ⟨g,rfl,l1,l2,hg,b6⟩;simp only[aaY]at l1 hg b6 ⊢;have BT:=R.1.lt;rw[aaY]at BT;have TQ:=R.1.later (by rw[aaY];exact b6);have F1:=wH.va (B:=w1.heap.size) l1 (Nat.ne_of_gt BT);have F2:=wH.va (B:=w1.heap.size) l2 (by omega);have TR:Below w1.heap.size w4 w6:=R.2.trans (b6.mono (aaI BT));have hsy:=jI (some ⟨w5.heap.size,0,none⟩) (some ⟨g,0,none⟩) 288 32 288 32 w1.heap.size FS FD L oa oc limit _ ov _ _ TQ lS lD (by omega) (by omega) F1 F2 xP;clear l1 l2 b6 hfx F1 F2 lS lD q1 q2 q3 q4 q9 hown' hgrow R;go_wp2_with fail;refine hsy.mono ?_;rintro e w7 ⟨rfl,⟨Jj,r6⟩,FA⟩;have f6:=TR.trans FA.below;clear hsy TQ TR FA;go_wp2
       go_roundw
       case rel=>exact⟨f,a,_,Jj,_,rfl,xO,r6,b4.trans f6,cz,by have:=lk.out.1;omega,lk.out.2.1,lk.out.2.2⟩
       case measure=>have:=lk.out.1;have:=r6.hpos;rw[r6.jo,hpw.out];omega
      ·have e:Rf.block L limit 2 { aT with kinds:=aT.kinds++[2] }=Rf.own L limit { aT with kinds:=aT.kinds++[2] }:=(aae (by decide)).trans ((aae (by decide)).trans (aaf rfl));rw[e]at cz lk;clear e;go_wp2_with (at_builtin;refine aax _ rfl _ _ 24 rfl (w1.heap.size+1) 3 i0 (.int .i64 0) 1 8 Tryz.underlying24 hi hz0 hz1 hz2 rfl (by decide) _ _ _ rfl (r4.hk.alloc _) ⟨w4.heap.size,0,none⟩ 1 1 [.int .i64 2] rfl rfl (aa1 _ _ _) (by intro u hu;simp at hu;subst hu;rfl) HB.out.1 HB.out.2 (by simp;omega) ?_;intro v' w5 hown' hgrow _;obtain⟨q1,q2,_⟩:=r4.lN _ hgrow;obtain⟨ll,j5,rfl⟩:=aD hown';have R:=r4.nO (.cells #[.int .i64 2] 3) 2 hown' hgrow);refine (Nu w1.heap.size L oa oc limit _ ov _ _ R.1 xP).mono ?_;rintro e w6 ⟨rfl,⟨Jj,r6⟩,FA⟩;have f6:=FA.below;go_wp2
       go_roundw
       case rel=>exact⟨f,a,_,Jj,_,rfl,xO,r6,(b4.trans R.2).trans f6,cz,by have:=lk.out.1;omega,lk.out.2.1,lk.out.2.2⟩
       case measure=>have:=lk.out.1;have:=r6.hpos;rw[r6.jo,hpw.out];omega
      ·have e:Rf.block L limit 3 { aT with kinds:=aT.kinds++[3] }={ aT with kinds:=aT.kinds++[3],bad:=true }:=(aae (by decide)).trans ((aae (by decide)).trans (aae (by decide)));rw[e]at cz lk;clear e;go_wp2_with (at_builtin;refine aax _ rfl _ _ 24 rfl (w1.heap.size+1) 3 i0 (.int .i64 0) 1 8 Tryz.underlying24 hi hz0 hz1 hz2 rfl (by decide) _ _ _ rfl (r4.hk.alloc _) ⟨w4.heap.size,0,none⟩ 1 1 [.int .i64 3] rfl rfl (aa1 _ _ _) (by intro u hu;simp at hu;subst hu;rfl) HB.out.1 HB.out.2 (by simp;omega) ?_;intro v' w5 hown' hgrow _;obtain⟨q1,q2,q9⟩:=r4.lN _ hgrow;have q3:w5.cell? ⟨w1.heap.size,3,none⟩=some (.bool false):=(aaT q9).trans d3;have q4:w5.frozen? ⟨w1.heap.size,3,none⟩=false:=(World.frozen?_of_block q9).trans (fz 3);obtain⟨ll,j5,rfl⟩:=aD hown';have R:=r4.nO (.cells #[.int .i64 3] 3) 3 hown' hgrow);have r6:=R.1.set 3 (.bool true) { aT with kinds:=aT.kinds++[3],bad:=true } rfl rfl rfl R.1.hpos;have f6:=(b4.trans R.2).setCell (p:=⟨w1.heap.size,3,none⟩) (aad _) (.bool true);clear q1 q2 q3 q4 q9 hown' hgrow R
       go_roundw
       case rel=>exact⟨f,a,_,ov,_,rfl,xO,r6,f6,cz,by show _<=f+aT.pos;omega,lk.out.2.1,lk.out.2.2⟩
       case measure=>rw[r6.jo,hpw.out];show L.length-aT.pos<_;have h9:aT.pos<=L.length:=r6.hpos;omega
     ·rw[hb4]at d3;rw[aaf hb4]at cz;go_wp2
      go_meet
      case rel=>exact⟨ov,kv,by rw[cz.out];exact r4,b4⟩
    ·have HE:Hid (RES=st):=by show _=_;rw[HF.out,Rf.nH,aaf (.inr hst)]
     go_wp2
     go_meet
     case rel=>exact⟨ov,kv,by rw[HE.out];exact r2,b2⟩
   ·have HE:Hid (RES=st):=by show _=_;rw[HF.out,Rf.nH,aaf (.inl (by decide))]
    go_wp2
    go_meet
    case rel=>exact⟨ov,kv,by rw[HE.out];exact r2,b2⟩
 case rest =>
  clear r1 tY;obtain⟨ov,kv,r2,b2⟩:=hcut;obtain⟨d0,d1,d2,d3,d4,d5,d6,fz⟩:=r2.cells;have HB:Hid (Below w.heap.size w wc):=TN.trans (b2.mono TN.size);cases hf:RES.full
  ·rw[hf]at d4;cases hb:RES.bad
   ·rw[hb]at d3;have hpz:=r2.hpos;have hlz:=r2.hlen;have hcv:∀n,(convert 107 9 ov).run Tryz.prog (wc.drewN n)=.ok (.string ⟨RES.out.toArray⟩) (wc.drewN n):=fun n=>dI (w:=wc.drewN n) r2.ho rfl;have X9:(convert 107 9 ov).run Tryz.prog wc=.ok (.string ⟨RES.out.toArray⟩) wc:=dI r2.ho rfl;have HA:Hid (a1 RES=.string ⟨RES.out.toArray⟩/\a2 RES=.int .i64 (((RES.pos+7)/8:Nat):Int)/\a3 RES=.int .i64 0):=by show _/\_;unfold a1 a2 a3;rw[hf,hb];exact⟨rfl,rfl,rfl⟩
    go_wp2
    go_quiet (fail)
    go_wp2;refine aal (v:=.tuple #[.string ⟨RES.out.toArray⟩,.int .i64 (((RES.pos:Int)+7)/8),.int .i64 0,kv]) (by simp[results,Tryz.results44,go_sem]) rfl ⟨kv,?_,aap HB.out _⟩;rw[HA.out.1,HA.out.2.1,HA.out.2.2,show ((RES.pos:Int)+7)/8=(((RES.pos+7)/8:Nat):Int) by omega]
   ·rw[hb]at d3;have HA:Hid (a1 RES=.string ⟨#[]⟩/\a2 RES=.int .i64 0/\a3 RES=.int .i64 6):=by show _/\_;unfold a1 a2 a3 code;rw[hf,hb];exact⟨rfl,rfl,rfl⟩
    go_wp2;refine aal (v:=.tuple #[.string ⟨#[]⟩,.int .i64 0,.int .i64 6,.slice none 0 0]) (by simp[results,Tryz.results44,go_sem]) rfl ⟨.slice none 0 0,?_,HB.out⟩;rw[HA.out.1,HA.out.2.1,HA.out.2.2]
  ·rw[hf]at d4;have HA:Hid (a1 RES=.string ⟨#[]⟩/\a2 RES=.int .i64 0/\a3 RES=.int .i64 7):=by show _/\_;unfold a1 a2 a3 code;rw[hf];cases RES.bad<;>exact⟨rfl,rfl,rfl⟩
   go_wp2;refine aal (v:=.tuple #[.string ⟨#[]⟩,.int .i64 0,.int .i64 7,.slice none 0 0]) (by simp[results,Tryz.results44,go_sem]) rfl ⟨.slice none 0 0,?_,HB.out⟩;rw[HA.out.1,HA.out.2.1,HA.out.2.2]
theorem PT (s:ByteArray)(w:World)(hs:s.size<=maxLen): Calls Tryz.prog 73 #[.string s] w fun e w'=>e=.returned (.int .i64 (Mx.eg s.data.toList))/\w'=w:=by
 unfold maxLen at hs
 go_enter Tryz.func73,Tryz.ntmps73
 go_wp2
 go_loop [3,4,5] (fun x y i=>∃k:Nat,k<=s.size/\i=.int .i64 k/\x=.int .i64 (Mx.AE (s.data.toList.take k))/\y=.int .i64 (Mx.Gv (s.data.toList.take k))) (fun _ _ i=>s.size-(intOf i).toNat)
 case atStart=>exact⟨0,aaj _,rfl,rfl,rfl⟩
 case round =>
  obtain⟨k,hk,rfl,rfl,rfl⟩:=hrel;have h1:=Mx.mW (s.data.toList.take k);have h2:=Mx.mX (s.data.toList.take k);by_cases hlt:k<s.size
  ·have hc:(s[k].toNat:Int)<256:=by have:=s[k].toNat_lt;omega
   have HS:Hid (Mx.AE (s.data.toList.take (k+1))=(Mx.AE (s.data.toList.take k)+s[k].toNat)%65521):=by rw[Mx.fU s k hlt];exact Mx.yz _ _
   have HT:Hid (Mx.Gv (s.data.toList.take (k+1))=(Mx.Gv (s.data.toList.take k)+(Mx.AE (s.data.toList.take k)+s[k].toNat)%65521)%65521):=by rw[Mx.fU s k hlt];exact Mx.yA _ _
   go_wp2
   go_round
   case rel=>exact⟨k+1,by omega,by go_num,by rw[HS.out],by rw[HT.out]⟩
   case measure=>simp[intOf];omega
  ·go_wp2
   go_ret
   exact⟨aC (by rw[aav (by simp;omega)];rfl),rfl⟩
theorem tZ (s:ByteArray)(k:Nat)(w:World)(hs:s.size<=60000000)(hk:k+4<=s.size): Calls Tryz.prog 69 #[.string s,.int .i64 k] w fun e w'=>e=.returned (.int .i64 (aM s k))/\∃n,w'=w.drewN n:=by
 have q0:k<s.size:=by omega
 have q1:k+1<s.size:=by omega
 have q2:k+2<s.size:=by omega
 have q3:k+3<s.size:=by omega
 have e0:=aY s k q0;have e1:=aY s (k+1) q1;have e2:=aY s (k+2) q2;have e3:=aY s (k+3) q3;have l0:=aZ s k;have l1:=aZ s (k+1);have l2:=aZ s (k+2);have l3:=aZ s (k+3);have HF:Hid (aM s k=ae s k*16777216+ae s (k+1)*65536+ae s (k+2)*256+ae s (k+3)):=rfl;generalize aM s k=V at *;generalize ae s k=b0 at *;generalize ae s (k+1)=b1 at *;generalize ae s (k+2)=b2 at *;generalize ae s (k+3)=b3 at *;have p0:(k:Int)<(s.size:Int):=by omega
 have p1:(k:Int)+1<(s.size:Int):=by omega
 have p2:(k:Int)+2<(s.size:Int):=by omega
 have p3:(k:Int)+3<(s.size:Int):=by omega
 have g1:(0:Int)<=(k:Int)+1:=by omega
 have g2:(0:Int)<=(k:Int)+2:=by omega
 have g3:(0:Int)<=(k:Int)+3:=by omega
 have x1:IntKind.i64.wrap ((k:Int)+1)=((k+1:Nat):Int):=by rw[aah _ (by omega)];omega
 have x2:IntKind.i64.wrap ((k:Int)+2)=((k+2:Nat):Int):=by rw[aah _ (by omega)];omega
 have x3:IntKind.i64.wrap ((k:Int)+3)=((k+3:Nat):Int):=by rw[aah _ (by omega)];omega
 have y0:IntKind.i64.wrap (b0:Int)=b0:=aah _ (by omega);have y1:IntKind.i64.wrap (b1:Int)=b1:=aah _ (by omega);have y2:IntKind.i64.wrap (b2:Int)=b2:=aah _ (by omega);have y3:IntKind.i64.wrap (b3:Int)=b3:=aah _ (by omega);have z0:IntKind.i64.wrap ((b0:Int)*16777216)=(b0:Int)*16777216:=aah _ (by omega);have z1:IntKind.i64.wrap ((b1:Int)*65536)=(b1:Int)*65536:=aah _ (by omega);have z2:IntKind.i64.wrap ((b2:Int)*256)=(b2:Int)*256:=aah _ (by omega);have t1:IntKind.i64.wrap ((b0:Int)*16777216+(b1:Int)*65536)=(b0:Int)*16777216+(b1:Int)*65536:=aah _ (by omega);have t2:IntKind.i64.wrap ((b0:Int)*16777216+(b1:Int)*65536+(b2:Int)*256)=(b0:Int)*16777216+(b1:Int)*65536+(b2:Int)*256:=aah _ (by omega);have t3:IntKind.i64.wrap ((b0:Int)*16777216+(b1:Int)*65536+(b2:Int)*256+(b3:Int))=(b0:Int)*16777216+(b1:Int)*65536+(b2:Int)*256+(b3:Int):=aah _ (by omega);clear hk
 go_enter Tryz.func69,Tryz.ntmps69
 go_wp2
 go_quiet (fail)
 go_wp2
 go_ret
 exact⟨aC (by rw[HF.out]),_,rfl⟩
theorem Jk (s:ByteArray)(limit:Int)(w:World)(hs:s.size<=5000000)(vX:DQ s limit): Calls Tryz.prog 39 #[.string s,.int .i64 limit] w fun e w'=>e=.returned (.tuple #[.string (nZ s limit),.int .i64 (jM s limit)])/\Below w.heap.size w w':=by
 by_cases h2:s.size<2
 ·have HC:Hid (jM s limit=8):=by show _=_;rw[jM,aaf (.inl h2)]
  have HT:Hid (nZ s limit=⟨#[]⟩):=by show _=_;rw[nZ,HC.out];rfl
  generalize nZ s limit=TX at *;generalize jM s limit=WC at *
  go_enter Tryz.func39,Tryz.ntmps39
  go_wp2;refine aal (v:=.tuple #[.string ⟨#[]⟩,.int .i64 8]) (by simp[results,Tryz.results39,go_sem]) rfl ⟨by rw[HC.out,HT.out],aak _ _⟩
 ·have hx0:=aY s 0 (by omega);have hy0:=aY s 1 (by omega);have hx:=aZ s 0;have hy:=aZ s 1;obtain⟨F,hF⟩:∃F,F=mid s limit:=⟨_,rfl⟩
  obtain⟨WC,TS⟩:∃c,c=jM s limit:=⟨_,rfl⟩
  obtain⟨TX,Ya⟩:∃t,t=nZ s limit:=⟨_,rfl⟩
  have vY:Hid (¬jA (ae s 0) (ae s 1)->WC=8):=fun h=>by rw[TS,jM,aaf (.inr h)]
  have zZ:Hid (jA (ae s 0) (ae s 1)->WC=if (F.bad||F.full)=true then code F else if s.size≠(F.pos+7)/8+6 then 8 else if s.data.toList.drop ((F.pos+7)/8+2)≠four (Mx.eg F.out) then 9 else 0):=fun h=>by
   rw[TS,jM,aae (by rintro (q|q)<;>contradiction),<-hF]
  have KR:Hid (TX=if WC=0 then ⟨F.out.toArray⟩ else ⟨#[]⟩):=by show _=_;rw[Ya,nZ,<-TS,<-hF]
  have NG:Hid (jA (ae s 0) (ae s 1)->(F.bad||F.full)=false->F.pos<=40000000/\F.out.length<=11000000000):=fun h q=>by rw[hF]at q ⊢;exact vX (by omega) h q
  rw[<-TS,<-Ya];obtain⟨P,hP⟩:∃P,s.extract 2 s.size=P:=⟨_,rfl⟩
  have hby:∀w,Calls Tryz.prog 44 #[.string P,.int .i64 limit] w fun e w'=>∃kv,e=.returned (.tuple #[a1 F,a2 F,a3 F,kv])/\Below w.heap.size w w':=fun w=>by
   rw[hF,mid,hP];exact Fz P limit w (by rw[<-hP,aa7];omega)
  clear hF TS Ya vX;have HX0:Hid (ae s 0=ae s 0/\ae s 1=ae s 1):=⟨rfl,rfl⟩
  clear HX0;generalize ae s 0=x at *;generalize ae s 1=y at *;by_cases hok:jA x y
  ·have HY:Hid (WC=_):=zZ.out hok;have hok':=hok;unfold jA at hok';obtain⟨k1,k2,k3,k4⟩:=hok';have i1:((x:Int)%16)=8:=by omega
   have i2:((x:Int)/16)<=7:=by omega
   have i3:((y:Int)/32)%2=0:=by omega
   have i4:((256*(x:Int)+(y:Int))%31 != 0)=false:=by rw[bne_eq_false_iff_eq];omega
   have PU:Hid ((F.bad||F.full)=false->F.pos<=40000000/\F.out.length<=11000000000):=NG.out hok;clear zZ vY NG k1 k2 k3 k4;cases hbf:(F.bad||F.full) with
   | true =>
    rw[hbf,aaf rfl]at HY;have hc0:code F≠0:=by unfold code;split<;>decide
    have HT2:Hid (TX=⟨#[]⟩):=by show _=_;rw[KR.out,HY.out,aae hc0]
    have e1:a1 F=.string ⟨#[]⟩:=by unfold a1;rw[hbf];rfl
    have e2:a2 F=.int .i64 0:=by unfold a2;rw[hbf];rfl
    have e3:a3 F=.int .i64 (code F):=by unfold a3;rw[hbf];rfl
    rw[e1,e2,e3]at hby;clear e1 e2 e3 KR PU;generalize code F=cd at *;have hcb:(cd != 0)=true:=bne_iff_ne.2 hc0;clear hc0
    go_enter Tryz.func39,Tryz.ntmps39
    go_wp2_with fail;refine (hby _).mono ?_;rintro e w1 ⟨kv,rfl,b1⟩;go_wp2;refine aal (v:=.tuple #[.string ⟨#[]⟩,.int .i64 cd]) (by simp[results,Tryz.results39,go_sem]) rfl ⟨by rw[HY.out,HT2.out],b1⟩
   | false =>
    obtain⟨fb1,fb2⟩:=PU.out hbf;rw[hbf,aae (by decide)]at HY;have e1:a1 F=.string ⟨F.out.toArray⟩:=by unfold a1;rw[hbf];rfl
    have e2:a2 F=.int .i64 (((F.pos+7)/8:Nat):Int):=by unfold a2;rw[hbf];rfl
    have e3:a3 F=.int .i64 0:=by unfold a3;rw[hbf];rfl
    rw[e1,e2,e3]at hby;have hom:ByteArray.size ⟨F.out.toArray⟩<=maxLen:=by show F.out.toArray.size<=_;unfold maxLen;simp;omega
    have hab:∀w,Calls Tryz.prog 73 #[.string ⟨F.out.toArray⟩] w fun e w'=>e=.returned (.int .i64 (Mx.eg F.out))/\w'=w:=fun w=>PT ⟨F.out.toArray⟩ w hom
    have TT:Hid (0<=Mx.eg F.out/\Mx.eg F.out<4294967296):=by
     have h1:=Mx.mW F.out;have h2:=Mx.mX F.out;show _/\_;unfold Mx.eg;omega
    obtain⟨u,hu⟩:∃u,(F.pos+7)/8=u:=⟨_,rfl⟩
    rw[hu]at HY hby;have hub:u<=5000001:=by omega
    clear e1 e2 e3 fb1 fb2 hu PU hom;generalize Mx.eg F.out=ad at *;by_cases hlen:s.size=u+6
    ·rw[aae (by omega)]at HY;have h4:=fun w=>tZ s (u+2) w (by omega) (by omega);have H4:Hid (s.data.toList.drop (u+2)=four ad↔aM s (u+2)=ad):=Je s (u+2) (by omega) ad TT.out.1 TT.out.2;generalize aM s (u+2)=fa at *;rw[show (((u+2:Nat):Int))=(u:Int)+2 by omega]at h4;have PV:((s.size:Int) != ((u:Int)+6))=false:=by rw[bne_eq_false_iff_eq];omega
     clear hlen;by_cases hq:fa=ad
     ·have hqb:(fa != ad)=false:=by rw[bne_eq_false_iff_eq];exact hq
      have HW:Hid (WC=0):=by show _=_;rw[HY.out,aae (fun h=>h (H4.out.2 hq))]
      have HT2:Hid (TX=⟨F.out.toArray⟩):=by show _=_;rw[KR.out,HW.out];rfl
      clear hq KR TT H4 HY
      go_enter Tryz.func39,Tryz.ntmps39
      go_wp2_with fail;refine (hby _).mono ?_;rintro e w1 ⟨kv,rfl,b1⟩;go_wp2_with fail;refine (hab _).mono ?_;rintro e w2 ⟨rfl,rfl⟩;go_wp2_with fail;refine (h4 _).mono ?_;rintro e w3 ⟨rfl,nn,rfl⟩;go_wp2;refine aal (v:=.tuple #[.string ⟨F.out.toArray⟩,.int .i64 0]) (by simp[results,Tryz.results39,go_sem]) rfl ⟨by rw[HW.out,HT2.out],aap b1 _⟩
     ·have hqb:(fa != ad)=true:=by rw[bne_iff_ne];exact hq
      have HW:Hid (WC=9):=by show _=_;rw[HY.out,aaf (fun h=>hq (H4.out.1 h))]
      have HT2:Hid (TX=⟨#[]⟩):=by show _=_;rw[KR.out,HW.out];rfl
      clear hq KR TT H4 HY
      go_enter Tryz.func39,Tryz.ntmps39
      go_wp2_with fail;refine (hby _).mono ?_;rintro e w1 ⟨kv,rfl,b1⟩;go_wp2_with fail;refine (hab _).mono ?_;rintro e w2 ⟨rfl,rfl⟩;go_wp2_with fail;refine (h4 _).mono ?_;rintro e w3 ⟨rfl,nn,rfl⟩;go_wp2;refine aal (v:=.tuple #[.string ⟨#[]⟩,.int .i64 9]) (by simp[results,Tryz.results39,go_sem]) rfl ⟨by rw[HW.out,HT2.out],aap b1 _⟩
    ·rw[aaf hlen]at HY;have HT2:Hid (TX=⟨#[]⟩):=by show _=_;rw[KR.out,HY.out];rfl
     have PV:((s.size:Int) != ((u:Int)+6))=true:=by rw[bne_iff_ne];omega
     clear KR TT
     go_enter Tryz.func39,Tryz.ntmps39
     go_wp2_with fail;refine (hby _).mono ?_;rintro e w1 ⟨kv,rfl,b1⟩;go_wp2;refine aal (v:=.tuple #[.string ⟨#[]⟩,.int .i64 8]) (by simp[results,Tryz.results39,go_sem]) rfl ⟨by rw[HY.out,HT2.out],b1⟩
  ·have HW:Hid (WC=8):=vY.out hok;have HT2:Hid (TX=⟨#[]⟩):=by show _=_;rw[KR.out,HW.out];rfl
   clear zZ vY NG KR;unfold jA at hok;clear hby;by_cases k4:(256*x+y)%31=0
   ·have i4:((256*(x:Int)+(y:Int))%31 != 0)=false:=by rw[bne_eq_false_iff_eq];omega
    go_enter Tryz.func39,Tryz.ntmps39
    go_wp2_with fail
    all_goals first
     | (exfalso;omega)
     | refine aal (v:=.tuple #[.string ⟨#[]⟩,.int .i64 8]) (by simp[results,Tryz.results39,go_sem]) rfl ⟨by rw[HW.out,HT2.out],aak _ _⟩
   ·have i4:((256*(x:Int)+(y:Int))%31 != 0)=true:=by rw[bne_iff_ne];omega
    go_enter Tryz.func39,Tryz.ntmps39
    go_wp2_with fail
    all_goals first
     | (exfalso;omega)
     | refine aal (v:=.tuple #[.string ⟨#[]⟩,.int .i64 8]) (by simp[results,Tryz.results39,go_sem]) rfl ⟨by rw[HW.out,HT2.out],aak _ _⟩
theorem BU (s:ByteArray)(limit:Int)(w:World)(hs:s.size<=5000000): Calls Tryz.prog 44 #[.string s,.int .i64 limit] w fun e w'=>((Rf.inflate (lw s) limit).bad=false/\(Rf.inflate (lw s) limit).full=false)->∃(kv:Value) (base:Nat),e=.returned (.tuple #[.string ⟨(Rf.inflate (lw s) limit).out.toArray⟩,.int .i64 ((((Rf.inflate (lw s) limit).pos+7)/8:Nat):Int),.int .i64 0,kv])/\w'.ownsRow base 3 1 kv (Rf.inflate (lw s) limit).kinds.length (vals (Rf.inflate (lw s) limit).kinds)/\Below w.heap.size w w':=by
 obtain⟨RES,jH⟩:∃RES,RES=Rf.inflate (lw s) limit:=⟨_,rfl⟩
 rw[<-jH];have tY:RES=Rf.inflate (Mx.low s.data.toList) limit:=jH;clear jH;obtain⟨i0,hi,hz0,hz1,hz2⟩:=aaX Tryz.info3
 go_enter Tryz.func44,Tryz.ntmps44
 go_wp2_with fail;refine (Nt s _ hs).mono ?_;rintro e w1 ⟨v,rfl,BS,b1⟩;obtain⟨oa,oc,rfl⟩:=aD BS;have I4:(Mx.low s.data.toList).length=8*s.size:=by rw[Mx.jZ];simp
 have a9:=qD s.data.toList;have r1:=CX w1 oa oc limit (Mx.low s.data.toList) _ _ BS I4 a9 (by omega) (by omega);generalize Mx.low s.data.toList=L at *;clear BS;have TN:=b1
 go_upto_block 0 with fail
 go_cut [9] (fun _ wc=>∃(ov kv:Value),dk wc w1.heap.size L oa oc limit RES ov kv/\Below w1.heap.size w1 wc)
 case first =>
  go_wp2
  go_loopw [9] (fun v wr=>∃(f:Nat) (last:Int) (st:Rf.St) (ov kv:Value),v=.int .i64 last/\(last=0\/last=1)/\dk wr w1.heap.size L oa oc limit st ov kv/\Below w1.heap.size w1 wr/\Hid (RES=Rf.nH L limit f last st)/\L.length+2<=f+st.pos/\Hid (st.out.length<=258*st.pos)/\Hid (st.kinds.length<=st.pos)) (fun _ wr=>L.length-jo w1.heap.size wr)
  case atStart=>exact⟨L.length+2,0,_,_,_,rfl,.inl rfl,r1,(aak _ _).alloc (aad _) _,tY,aad _,aaj _,aaj _⟩
  case round =>
   clear r1 tY;obtain⟨f,last,st,ov,kv,rfl,h01,r2,b2,HF,hfu,HO,HK⟩:=hrel;have hp2:=r2.hpos;obtain⟨f,rfl⟩:∃g,f=g+1:=⟨f-1,by omega⟩
   rcases h01 with rfl|rfl
   ·go_wp2_with fail;refine (pM w1.heap.size L oa oc limit st ov kv _ r2).mono ?_;rintro e w2 ⟨rfl,rfl⟩;cases hst:(st.bad||st.full)
    ·have cz:Hid (RES=_):=HF.out.trans (by rw[Rf.nH,aae (by rw[hst];decide)]);have hlt2:=r2.lt;have hpw:=hidden r2.jo;go_wp2_with fail;refine (dV 1 w1.heap.size L oa oc limit st ov kv _ r2 (by omega)).mono ?_;rintro e w3 ⟨rfl,r3,k3⟩;have ha:=Rf.take_one a9 st;have g3:=Rf.dO L st 1;have hk3:=Rf.bC L st 1;have b3:=b2.trans (k3.below (aaI hlt2) (fun k _ h=>by omega));have PQ:=hidden (Rf.gH L st 1);have hlt3:=r3.lt;clear k3 r2 b2 HF;generalize Rf.take L st 1=A at *;obtain⟨a,eL⟩:=A;simp only at r3 ha g3 hk3 cz PQ ⊢;go_wp2_with fail;refine (dV 2 w1.heap.size L oa oc limit eL ov kv _ r3 (by omega)).mono ?_;rintro e w4 ⟨rfl,r4,k4⟩;have hkr:=Rf.take_range a9 eL 2;have g4:=g3.trans (Rf.dO L eL 2);have hk4:=(Rf.bC L eL 2).trans hk3;have b4:=b3.trans (k4.below (aaI hlt3) (fun k _ h=>by omega));have PS:=hidden (Rf.gH L eL 2);have Tz:=r4.lt;clear k4 r3 b3 g3 hk3;generalize Rf.take L eL 2=K at *;obtain⟨k,aT⟩:=K;simp only at r4 hkr g4 hk4 cz PS ⊢;obtain⟨d0,d1,d2,d3,d4,d5,d6,fz⟩:=r4.cells;cases hb4:aT.bad
     ·rw[hb4]at d3;rw[aae (by rw[hb4];decide)]at cz;have TP:=PS.out hb4;have hp3:=PQ.out TP.2;have HB:Hid (aT.kinds.length+1<=maxLen/\(aT.kinds.length+1)*8<=140737488355328):=by have:=HK.out;have:=r4.hpos;show _/\_;unfold maxLen;rw[hk4];omega
      have xO:a=0\/a=1:=by omega
      have xP:Hid (aT.out.length<=258*aT.pos):=by have:=HO.out;have:=g4.2;show _<=_;omega
      have H3:Hid (aT.out.length<=11000000000):=by have:=xP.out;have:=r4.hpos;have:=r4.hlen;show _<=_;omega
      have lk:Hid (aT.pos<=(Rf.block L limit k { aT with kinds:=aT.kinds++[k] }).pos/\Hid ((Rf.block L limit k { aT with kinds:=aT.kinds++[k] }).out.length<=258*(Rf.block L limit k { aT with kinds:=aT.kinds++[k] }).pos)/\Hid ((Rf.block L limit k { aT with kinds:=aT.kinds++[k] }).kinds.length<=(Rf.block L limit k { aT with kinds:=aT.kinds++[k] }).pos)):=by
       have g5:=Rf.rW a9 limit k { aT with kinds:=aT.kinds++[k] };have X8:aT.pos<=_:=g5.1;have g52:_+258*aT.pos<=aT.out.length+_:=g5.2;have hkk:=Rf.qC L limit k { aT with kinds:=aT.kinds++[k] };have hkl:(Rf.block L limit k { aT with kinds:=aT.kinds++[k] }).kinds.length=st.kinds.length+1:=by rw[hkk];show (aT.kinds++[k]).length=_;rw[aac,hk4];rfl
       have h1:=xP.out;have h2:=HK.out;refine⟨X8,?_,?_⟩
       ·show _<=_;omega
       ·show _<=_;omega
      have hps:aT.pos=st.pos+3:=by omega
      clear HK HO g4 hk4 PQ PS hp3 TP;rcases (show k=0\/k=1\/k=2\/k=3 by have:=hkr.2;have:=hkr.1;omega) with rfl|rfl|rfl|rfl
      ·have e:Rf.block L limit 0 { aT with kinds:=aT.kinds++[0] }=Rf.plain L limit { aT with kinds:=aT.kinds++[0] }:=aaf rfl;rw[e]at cz lk;clear e;go_wp2_with (at_builtin;refine aax _ rfl _ _ 24 rfl (w1.heap.size+1) 3 i0 (.int .i64 0) 1 8 Tryz.underlying24 hi hz0 hz1 hz2 rfl (by decide) _ _ _ rfl (r4.hk.alloc _) ⟨w4.heap.size,0,none⟩ 1 1 [.int .i64 0] rfl rfl (aa1 _ _ _) (by intro u hu;simp at hu;subst hu;rfl) HB.out.1 HB.out.2 (by simp;omega) ?_;intro v' w5 hown' hgrow _;obtain⟨q1,q2,_⟩:=r4.lN _ hgrow;obtain⟨ll,j5,rfl⟩:=aD hown';have R:=r4.nO (.cells #[.int .i64 0] 3) 0 hown' hgrow);refine (CS w1.heap.size L oa oc limit _ ov _ _ R.1 H3).mono ?_;rintro e w6 ⟨rfl,⟨Jj,r6⟩,FA⟩;have f6:=FA.below;go_wp2
       go_roundw
       case rel=>exact⟨f,a,_,Jj,_,rfl,xO,r6,(b4.trans R.2).trans f6,cz,by have:=lk.out.1;omega,lk.out.2.1,lk.out.2.2⟩
       case measure=>have:=lk.out.1;have:=r6.hpos;rw[r6.jo,hpw.out];omega
      ·have e:Rf.block L limit 1 { aT with kinds:=aT.kinds++[1] }=Rf.symbols L limit Rf.bE Rf.jl { aT with kinds:=aT.kinds++[1] }:=(aae (by decide)).trans (aaf rfl);rw[e]at cz lk;clear e;have hfx:=CU;have lS:Rf.bE.length=288:=by simp[Rf.bE]
       have lD:Rf.jl.length=32:=by simp[Rf.jl]
       generalize Rf.bE=FS at *;generalize Rf.jl=FD at *;go_wp2_with (at_builtin;refine aax _ rfl _ _ 24 rfl (w1.heap.size+1) 3 i0 (.int .i64 0) 1 8 Tryz.underlying24 hi hz0 hz1 hz2 rfl (by decide) _ _ _ rfl (r4.hk.alloc _) ⟨w4.heap.size,0,none⟩ 1 1 [.int .i64 1] rfl rfl (aa1 _ _ _) (by intro u hu;simp at hu;subst hu;rfl) HB.out.1 HB.out.2 (by simp;omega) ?_;intro v' w5 hown' hgrow _;obtain⟨q1,q2,q9⟩:=r4.lN _ hgrow;have q3:w5.cell? ⟨w1.heap.size,3,none⟩=some (.bool false):=(aaT q9).trans d3;have q4:w5.frozen? ⟨w1.heap.size,3,none⟩=false:=(World.frozen?_of_block q9).trans (fz 3);obtain⟨ll,j5,rfl⟩:=aD hown';have R:=r4.nO (.cells #[.int .i64 1] 3) 1 hown' hgrow);refine (hfx _).mono ?_;rintro e w6 ⟨g,rfl,l1,l2,hg,b6⟩;simp only[aaY]at l1 hg b6 ⊢;have BT:=R.1.lt;rw[aaY]at BT;have TQ:=R.1.later (by rw[aaY];exact b6);have F1:=wH.va (B:=w1.heap.size) l1 (Nat.ne_of_gt BT);have F2:=wH.va (B:=w1.heap.size) l2 (by omega);have TR:Below w1.heap.size w4 w6:=R.2.trans (b6.mono (aaI BT));have hsy:=jI (some ⟨w5.heap.size,0,none⟩) (some ⟨g,0,none⟩) 288 32 288 32 w1.heap.size FS FD L oa oc limit _ ov _ _ TQ lS lD (by omega) (by omega) F1 F2 xP;clear l1 l2 b6 hfx F1 F2 lS lD q1 q2 q3 q4 q9 hown' hgrow R;go_wp2_with fail;refine hsy.mono ?_;rintro e w7 ⟨rfl,⟨Jj,r6⟩,FA⟩;have f6:=TR.trans FA.below;clear hsy TQ TR FA;go_wp2
       go_roundw
       case rel=>exact⟨f,a,_,Jj,_,rfl,xO,r6,b4.trans f6,cz,by have:=lk.out.1;omega,lk.out.2.1,lk.out.2.2⟩
       case measure=>have:=lk.out.1;have:=r6.hpos;rw[r6.jo,hpw.out];omega
      ·have e:Rf.block L limit 2 { aT with kinds:=aT.kinds++[2] }=Rf.own L limit { aT with kinds:=aT.kinds++[2] }:=(aae (by decide)).trans ((aae (by decide)).trans (aaf rfl));rw[e]at cz lk;clear e;go_wp2_with (at_builtin;refine aax _ rfl _ _ 24 rfl (w1.heap.size+1) 3 i0 (.int .i64 0) 1 8 Tryz.underlying24 hi hz0 hz1 hz2 rfl (by decide) _ _ _ rfl (r4.hk.alloc _) ⟨w4.heap.size,0,none⟩ 1 1 [.int .i64 2] rfl rfl (aa1 _ _ _) (by intro u hu;simp at hu;subst hu;rfl) HB.out.1 HB.out.2 (by simp;omega) ?_;intro v' w5 hown' hgrow _;obtain⟨q1,q2,_⟩:=r4.lN _ hgrow;obtain⟨ll,j5,rfl⟩:=aD hown';have R:=r4.nO (.cells #[.int .i64 2] 3) 2 hown' hgrow);refine (Nu w1.heap.size L oa oc limit _ ov _ _ R.1 xP).mono ?_;rintro e w6 ⟨rfl,⟨Jj,r6⟩,FA⟩;have f6:=FA.below;go_wp2
       go_roundw
       case rel=>exact⟨f,a,_,Jj,_,rfl,xO,r6,(b4.trans R.2).trans f6,cz,by have:=lk.out.1;omega,lk.out.2.1,lk.out.2.2⟩
       case measure=>have:=lk.out.1;have:=r6.hpos;rw[r6.jo,hpw.out];omega
      ·have e:Rf.block L limit 3 { aT with kinds:=aT.kinds++[3] }={ aT with kinds:=aT.kinds++[3],bad:=true }:=(aae (by decide)).trans ((aae (by decide)).trans (aae (by decide)));rw[e]at cz lk;clear e;go_wp2_with (at_builtin;refine aax _ rfl _ _ 24 rfl (w1.heap.size+1) 3 i0 (.int .i64 0) 1 8 Tryz.underlying24 hi hz0 hz1 hz2 rfl (by decide) _ _ _ rfl (r4.hk.alloc _) ⟨w4.heap.size,0,none⟩ 1 1 [.int .i64 3] rfl rfl (aa1 _ _ _) (by intro u hu;simp at hu;subst hu;rfl) HB.out.1 HB.out.2 (by simp;omega) ?_;intro v' w5 hown' hgrow _;obtain⟨q1,q2,q9⟩:=r4.lN _ hgrow;have q3:w5.cell? ⟨w1.heap.size,3,none⟩=some (.bool false):=(aaT q9).trans d3;have q4:w5.frozen? ⟨w1.heap.size,3,none⟩=false:=(World.frozen?_of_block q9).trans (fz 3);obtain⟨ll,j5,rfl⟩:=aD hown';have R:=r4.nO (.cells #[.int .i64 3] 3) 3 hown' hgrow);have r6:=R.1.set 3 (.bool true) { aT with kinds:=aT.kinds++[3],bad:=true } rfl rfl rfl R.1.hpos;have f6:=(b4.trans R.2).setCell (p:=⟨w1.heap.size,3,none⟩) (aad _) (.bool true);clear q1 q2 q3 q4 q9 hown' hgrow R
       go_roundw
       case rel=>exact⟨f,a,_,ov,_,rfl,xO,r6,f6,cz,by show _<=f+aT.pos;omega,lk.out.2.1,lk.out.2.2⟩
       case measure=>rw[r6.jo,hpw.out];show L.length-aT.pos<_;have h9:aT.pos<=L.length:=r6.hpos;omega
     ·rw[hb4]at d3;rw[aaf hb4]at cz;go_wp2
      go_meet
      case rel=>exact⟨ov,kv,by rw[cz.out];exact r4,b4⟩
    ·have HE:Hid (RES=st):=by show _=_;rw[HF.out,Rf.nH,aaf (.inr hst)]
     go_wp2
     go_meet
     case rel=>exact⟨ov,kv,by rw[HE.out];exact r2,b2⟩
   ·have HE:Hid (RES=st):=by show _=_;rw[HF.out,Rf.nH,aaf (.inl (by decide))]
    go_wp2
    go_meet
    case rel=>exact⟨ov,kv,by rw[HE.out];exact r2,b2⟩
 case rest =>
  clear r1 tY;obtain⟨ov,kv,r2,b2⟩:=hcut;obtain⟨d0,d1,d2,d3,d4,d5,d6,fz⟩:=r2.cells;have HB:Hid (Below w.heap.size w wc):=TN.trans (b2.mono TN.size);cases hf:RES.full
  ·rw[hf]at d4;cases hb:RES.bad
   ·rw[hb]at d3;have hpz:=r2.hpos;have hlz:=r2.hlen;have hcv:∀n,(convert 107 9 ov).run Tryz.prog (wc.drewN n)=.ok (.string ⟨RES.out.toArray⟩) (wc.drewN n):=fun n=>dI (w:=wc.drewN n) r2.ho rfl;have X9:(convert 107 9 ov).run Tryz.prog wc=.ok (.string ⟨RES.out.toArray⟩) wc:=dI r2.ho rfl;have HKI:Hid (wc.ownsRow (w1.heap.size+1) 3 1 kv RES.kinds.length (vals RES.kinds)):=r2.hk;go_wp2
    go_quiet (fail)
    go_wp2;refine aal (v:=.tuple #[.string ⟨RES.out.toArray⟩,.int .i64 (((RES.pos:Int)+7)/8),.int .i64 0,kv]) (by simp[results,Tryz.results44,go_sem]) rfl (fun _=>⟨kv,_,?_,HKI.out,aap HB.out _⟩);rw[show ((RES.pos:Int)+7)/8=(((RES.pos+7)/8:Nat):Int) by omega]
   ·rw[hb]at d3;go_wp2;refine aal (v:=.tuple #[.string ⟨#[]⟩,.int .i64 0,.int .i64 6,.slice none 0 0]) (by simp[results,Tryz.results44,go_sem]) rfl (fun hh=>?_);simp[hb]at hh
  ·rw[hf]at d4;go_wp2;refine aal (v:=.tuple #[.string ⟨#[]⟩,.int .i64 0,.int .i64 7,.slice none 0 0]) (by simp[results,Tryz.results44,go_sem]) rfl (fun hh=>?_);simp[hf]at hh
end Go.Proofs.YtmfijackgekioaaGreatDoor
