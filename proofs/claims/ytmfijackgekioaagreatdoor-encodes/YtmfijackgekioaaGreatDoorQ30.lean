import Derived.Test.YtmfijackgekioaaGreatDoorQ28
import Derived.Test.YtmfijackgekioaaGreatDoorQ29
set_option maxHeartbeats 600000
set_option maxRecDepth 100000
namespace Go.Proofs.YtmfijackgekioaaGreatDoor
open Go.RowKit Go.Maps
theorem BX {s:ByteArray}{j:Nat}(hj:j<4)(h:c9 (ae s (4+j))=false):d7 s 4=false:=by
 unfold d7
 match j,hj with
 | 0,_=>rw[show ae s 4=ae s (4+0) from rfl,h,abX]
 | 1,_=>rw[h,abX,acw]
 | 2,_=>rw[h,abX,acw,acw]
 | 3,_=>rw[h,acw,acw,acw]
theorem Ac {s:ByteArray}(h:∀j,j<4->c9 (ae s (4+j))=true):d7 s 4=true:=by
 unfold d7;rw[show ae s 4=ae s (4+0) from rfl,h 0 (by omega),h 1 (by omega),h 2 (by omega),h 3 (by omega)];rfl
theorem Tryz.infoChunkR:(Tryz.prog.info? 46).map (fun i=>(i.zero,i.size,i.bytes))=some (some (.agg #[.string ⟨#[]⟩,.string ⟨#[]⟩]),2,32):=by kernel_rfl
abbrev PZ (w:World)(B:Nat)(v:Value)(L:List Ch):Prop:=w.ownsRow B 46 2 v L.length (ed L)
theorem nO (B:Nat)(c:Ch)(L:List Ch)(v:Value)(u:World)(h:PZ u B v L)(hL:L.length<=100000000)(hB:B<=u.heap.size): ∃v' w',(Builtin.append_ #[40,40] 40 #[v,.slice (some ⟨u.heap.size,0,none⟩) 1 1]).run Tryz.prog (u.alloc (.cells #[.string c.name,.string c.data] 46))=.ok v' w'/\PZ w' B v' (L++[c])/\Below B u w':=by
 obtain⟨i0,hi,hz0,hz1,hz2⟩:=aaX Tryz.infoChunkR;have q1:=ak u (.cells #[.string c.name,.string c.data] 46);have k0:=ag u (.cells #[.string c.name,.string c.data] 46)
 obtain⟨v',w',hr,ho',hg',_,_⟩:=run_append_own_at (P:=Tryz.prog) (u.alloc (.cells #[.string c.name,.string c.data] 46)) B 40 40 46 i0 _ 2 32 Tryz.underlying40 hi hz0 hz1 hz2 rfl (by decide) v L.length (ed L) (h.alloc _) ⟨u.heap.size,0,none⟩ 1 1 [.string c.name,.string c.data] rfl (fun j y hj=>by
   rw[fX,aaF,d8 q1];simpa using hj) (fun u hu=>by
   simp only[ab0,abC,or_false]at hu
   rcases hu with rfl|rfl<;>rfl) (by unfold maxLen;omega) (by omega) (by simp;omega)
 refine⟨v',w',hr,?_,?_⟩
 ·show w'.ownsRow B _ 2 v' (L++[c]).length (ed (L++[c]));rw[aac,xN];exact ho'
 ·exact (k0.mono hB).grown hg' (by simp;omega) (fun b hb=>(h.lt b hb).1)
inductive Jp (b:ByteArray) (w:World):Ending->World->Prop
 | no {w'}:aL b=none->Below w.heap.size w w'->Jp b w (.returned (.tuple #[.slice none 0 0,.bool false])) w'
 | ok {w' L v}:aL b=some L->PZ w' w.heap.size v L->Below w.heap.size w w'->Jp b w (.returned (.tuple #[v,.bool true])) w'
theorem isEmpty_iff (s:ByteArray):s.toList.isEmpty=decide (s.size=0):=by
 rw[ab3,aa3,List.isEmpty_iff_length_eq_zero,aaH];exact Iff.rfl
theorem Mv (b:ByteArray)(w:World)(hs:b.size<=60000000):Calls Tryz.prog 34 #[.string b] w fun e w'=>Jp b w e w':=by
 generalize hB:w.heap.size=B
 go_enter Tryz.func34,Tryz.ntmps34
 go_wp2
 go_loopw [0,4] (fun bv ov wr=>∃(r:ByteArray) (L:List Ch),bv=.string r/\Hid (aL b=(aL r).map (fun l=>L++l))/\Hid (PZ wr B ov L)/\Hid (L.length*12+r.size<=60000000)/\Below B w wr) (fun bv _ _=>PP bv)
 case atStart=>exact⟨b,[],rfl,by show _=_;cases aL b<;>rfl,aba _ _ _ _,by show _<=_;simp;omega,aak _ _⟩
 case round =>
  clear hs;obtain⟨r,L,rfl,HC,HL,HZ,hbl⟩:=hrel;have hem:=isEmpty_iff r;by_cases hr0:r.size=0
  ·have HD:Hid (aL b=some L):=by show _=_;rw[HC.out,tS hr0];simp
   rw[aaw hr0]at hem;clear HC;obtain⟨oa,oc,rfl⟩:=aU HL.out;go_wp2;exact aal (v:=.tuple #[.slice oa L.length oc,.bool true]) (by simp[results,Tryz.results34,go_sem]) rfl (.ok HD.out (by rw[hB];exact HL.out) (by rw[hB];exact hbl))
  ·rw[aa4 hr0]at hem;have Pb:Hid (r.size≠0):=hr0;have Jq:Hid (nL r=false->aL b=none):=fun h=>by rw[HC.out,BQ hr0 h];rfl
   have hrs:r.size<=60000000:=by have:=HZ.out;omega
   clear hr0;by_cases h12:12<=r.size
   ·have Ye:¬(r.size:Int)<12:=by omega
    have hf0:=fun u=>tZ r 0 u hrs (by omega);rw[tR]at hf0;obtain⟨n,hn⟩:∃n,n=ik r:=⟨_,rfl⟩
    rw[<-hn]at hf0;have hnr:n<4294967296:=by have:=pj r 0;rw[tR,<-hn]at this;omega
    by_cases h2:n<=2147483647/\n+12<=r.size
    ·have hn1:¬(n:Int)>2147483647:=by omega
     have hn2:¬(n:Int)>(r.size:Int)-12:=by omega
     have hok:nL r=(d7 r 4&&decide (aM r (8+n)=nK (r.extract 4 (8+n)))):=by
      unfold nL;rw[<-hn,aaw h12,aaw h2.1,aaw h2.2,acu,acu,acu]
     have AL:Hid (_):=hok;have HN:Hid (n=ik r):=hn;clear hok hn;go_wp2_with fail;refine (hf0 _).mono ?_;rintro e w' ⟨rfl,m,rfl⟩;go_wp2
     go_loop [6] (fun ix=>∃k:Nat,k<=4/\ix=.int .i64 ((4+k:Nat):Int)/\Hid (∀j,j<k->c9 (ae r (4+j))=true)) (fun ix=>8-(intOf ix).toNat)
     case atStart=>exact⟨0,aaj _,rfl,fun j hj=>absurd hj (abY _)⟩
     case round =>
      obtain⟨k,hk,rfl,HLT⟩:=hrel;obtain⟨k4,hk4⟩:∃k4,k4=4+k:=⟨_,rfl⟩
      rw[<-hk4];by_cases hlt:k<4
      ·have l8:(k4:Int)<8:=by omega
       have Yf:k4<r.size:=by omega
       have g1:=aY r k4 Yf;have lr:(k4:Int)<(r.size:Int):=by omega
       have hle:=fun u=>Jo (ae r k4) u;obtain⟨lt,P4⟩:∃lt,lt=c9 (ae r k4):=⟨_,rfl⟩
       rw[<-P4]at hle;have Ry:Hid (lt=c9 (ae r (4+k))/\k4=4+k):=⟨by rw[P4,hk4],hk4⟩
       clear P4 hk4;cases lt
       ·go_wp2_with fail;refine (hle _).mono ?_;rintro e w' ⟨rfl,rfl⟩;have HD:Hid (aL b=none):=Jq.out (by rw[AL.out,BX hlt Ry.out.1.symm,abX]);go_wp2;exact aal (v:=.tuple #[.slice none 0 0,.bool false]) (by simp[results,Tryz.results34,go_sem]) rfl (.no HD.out (by rw[hB];exact aap hbl _))
       ·go_wp2_with fail;refine (hle _).mono ?_;rintro e w' ⟨rfl,hw'⟩;subst w';go_wp2
        go_round
        case rel =>
         refine⟨k+1,by omega,?_,fun j hj=>?_⟩
         ·rw[show 4+(k+1)=k4+1 by have:=Ry.out.2;omega]
          go_num
         ·by_cases hj2:j<k
          ·exact HLT.out j hj2
          ·obtain rfl:j=k:=by omega
           exact Ry.out.1.symm
        case measure=>simp[intOf];omega
      ·have hl4:k=4:=by omega
       have l8:¬(k4:Int)<8:=by omega
       have WD:Hid (d7 r 4=true):=Ac (fun j hj=>HLT.out j (by omega));clear hk4 hl4;have hcr:=WF (r.extract 4 (8+n)) _ (wr.drewN m) (by rw[aa7];omega) rfl;have T6:=fun u=>tZ r (8+n) u hrs (by omega);rw[show ((8+n:Nat):Int)=8+(n:Int) by push_cast;rfl]at T6;rw[show (4294967295-(Mx.kZ (r.extract 4 (8+n)).data.toList:Int))=nK (r.extract 4 (8+n)) from rfl]at hcr;obtain⟨cr,P5⟩:∃cr,cr=nK (r.extract 4 (8+n)):=⟨_,rfl⟩
       obtain⟨f8,P6⟩:∃f8,f8=aM r (8+n):=⟨_,rfl⟩
       rw[<-P5]at hcr;rw[<-P6]at T6;have P7:Hid (nL r=decide (f8=cr)):=by show _=_;rw[AL.out,WD.out,acu,P5,P6]
       clear P5 P6 AL hf0;go_wp2_with fail;refine hcr.mono ?_;rintro e w2 ⟨rfl,b2⟩;have b2':Below wr.heap.size wr w2:=(aap (aak _ wr) m).trans b2;clear b2 hcr;go_wp2_with fail;refine (T6 _).mono ?_;rintro e w3 ⟨rfl,m3,hw3⟩;have b3:Below wr.heap.size wr w3:=by rw[hw3];exact aap b2' m3
       clear hw3 T6 b2';by_cases heq:f8=cr
       ·have hne:(f8 != cr)=false:=by rw[heq];simp
        have hok:nL r=true:=by rw[P7.out];exact aaw heq
        have Yg:=ji hok
        have HD:Hid (aL b=(aL (eJ r)).map (fun l=>(L++[nM r])++l)):=by
         show _=_;rw[HC.out,qT Pb.out hok];cases aL (eJ r)<;>simp
        have hL3:PZ w3.drew B u4 L:=bK HL.out (fun g hg=>b3.block g (HL.out.lt g hg).2);have hzs:=hbl.size;have adA:=b3.size;have hpk:=nO B (nM r) L u4 w3.drew hL3 (by have:=HZ.out;omega) (by show B<=w3.heap.size;omega);obtain⟨v',w',hr,ho',hb'⟩:=hpk;have hce:(nM r).name=r.extract 4 8/\(nM r).data=r.extract 8 (8+n):=⟨rfl,by rw[HN.out];rfl⟩
        rw[hce.1,hce.2]at hr;have hre:r.extract (12+n) r.size=eJ r:=by rw[HN.out];rfl
        have HF:Hid (PZ w' B v' (L++[nM r])/\Below B w w'/\(L++[nM r]).length*12+(eJ r).size<=60000000/\(eJ r).size<r.size):=by
         refine⟨ho',?_,?_,by omega⟩
         ·exact (hbl.trans (b3.mono (by omega))).drew.trans hb'
         ·have:=HZ.out;rw[aac,abb];have:=HN.out;omega
        obtain⟨oa,oc,hu4⟩:=aU HL.out;subst hu4;obtain⟨ll,j5,hv'⟩:=aU ho';subst hv';have s1:(8:Int)<=(r.size:Int):=by omega
        have s2:IntKind.i64.wrap (8+(n:Int))=8+(n:Int):=aah _ (by omega);have s3:IntKind.i64.wrap (12+(n:Int))=12+(n:Int):=aah _ (by omega);have s4:(8:Int)+(n:Int)<=(r.size:Int):=by omega
        have s5:(12:Int)+(n:Int)<=(r.size:Int):=by omega
        have s6:(0:Int)<=8+(n:Int):=by omega
        have s7:(8:Int)<=8+(n:Int):=by omega
        have s8:(8+(n:Int)).toNat=8+n:=by omega
        have s9:(12+(n:Int)).toNat=12+n:=by omega
        have HRE:Hid (_):=hre;clear Jq P7 HC HL HZ hbl b3 hL3 ho' hb' hce heq hok Yg hre;go_wp2;refine aE (fun _=>True) 99 ?_;have hTr:True:=trivial;refine am [0,1,2,3,4,5,6,7] ?_
        iterate 8 refine au hTr ?_
        refine aj ?_;refine ai 8 fun K hK=>?_;go_simp;refine hK _ _ (fun _=>trivial) ?_;clear hK K;refine ai 9 fun K hK=>?_;rw[aaf (by kernel_rfl)];refine Lib.wp_append_run _ _ _ _ _ rfl _ _ rfl rfl _ _ hr ?_;refine hK _ _ (fun _=>trivial) ?_;clear hK K;simp only[Act.put];refine am [10] ?_
        iterate 1 refine au hTr ?_
        refine aj ?_;refine ar ?_;go_wp2
        go_roundw
        case rel=>exact⟨eJ r,L++[nM r],by rw[HRE.out],HD,by have:=HF.out.1;rw[aac,abb]at this;exact this,HF.out.2.2.1,HF.out.2.1⟩
        case measure=>simp[PP];have:=HF.out.2.2.2;omega
       ·have hne:(f8 != cr)=true:=by simp[heq]
        have HD:Hid (aL b=none):=Jq.out (by rw[P7.out];exact aa4 heq);go_wp2;exact aal (v:=.tuple #[.slice none 0 0,.bool false]) (by simp[results,Tryz.results34,go_sem]) rfl (.no HD.out (by rw[hB];exact hbl.trans (b3.mono (by have:=hbl.size;omega))))
    ·have HD:Hid (aL b=none):=Jq.out (by
      unfold nL;rw[<-hn];rcases aaL 2147483647 n with h|h
      ·rw[aa4 (show ¬n<=2147483647 by omega)];simp
      ·rw[aa4 (show ¬n+12<=r.size by omega)];simp)
     by_cases h3:(n:Int)>2147483647
     ·clear hn h2;go_wp2_with fail;refine (hf0 _).mono ?_;rintro e w' ⟨rfl,m,rfl⟩;go_wp2;exact aal (v:=.tuple #[.slice none 0 0,.bool false]) (by simp[results,Tryz.results34,go_sem]) rfl (.no HD.out (by rw[hB];exact aap hbl _))
     ·have h4:(n:Int)>(r.size:Int)-12:=by omega
      clear hn h2;go_wp2_with fail;refine (hf0 _).mono ?_;rintro e w' ⟨rfl,m,rfl⟩;go_wp2;exact aal (v:=.tuple #[.slice none 0 0,.bool false]) (by simp[results,Tryz.results34,go_sem]) rfl (.no HD.out (by rw[hB];exact aap hbl _))
   ·have Ye:(r.size:Int)<12:=by omega
    have HD:Hid (aL b=none):=Jq.out (by unfold nL;rw[aa4 h12,abX]);go_wp2;exact aal (v:=.tuple #[.slice none 0 0,.bool false]) (by simp[results,Tryz.results34,go_sem]) rfl (.no HD.out (by rw[hB];exact hbl))
theorem Mw {w:World}{B:Nat}{v:Value}{L:List Ch}(h:PZ w B v L):Rx w v L:=by
 constructor;rcases h.2 with⟨hv,h0⟩|⟨g,cap,cur,hv,hg,hblk,hnc,hcm,hcs,htake⟩
 ·exact .inl ⟨aau h0,hv⟩
 ·refine .inr ⟨g,cap,hv,aab hblk,hnc,fun j hj=>?_⟩;obtain⟨a,b⟩:=TM L j hj;have hl:=tT L;rw[<-htake,abx,aaf (by omega),Array.getElem?_toList]at a b;exact⟨(d8 hblk _).trans a,(d8 hblk _).trans b⟩
abbrev dg (L:List Ch)(j:Nat):Ch:=L.getD j ⟨⟨#[]⟩,⟨#[]⟩⟩
theorem DT (L:List Ch)(k:Nat)(h:k<L.length):L.take (k+1)=L.take k++[dg L k]:=by
 rw[aaB h]
 congr 2
 unfold dg;rw[aaa,aai h];rfl
theorem nE (L:List Ch)(k:Nat):mH (L.take k)<=mH L:=by
 unfold mH
 induction L generalizing k with
 | nil=>simp
 | cons x r ih =>
  cases k with
  | zero=>simp
  | succ k=>simp only[List.take_succ_cons,ach,List.sum_cons];have:=ih k;omega
theorem t9 (nm:List UInt8):∀L:List Ch,dx nm L<=L.length
 | []=>aad _
 | c::r=>by
  have:=t9 nm r;rw[kK,aao];split<;>omega
theorem DU (nmB:ByteArray)(nm:List UInt8)(hnm:nmB.toList=nm)(L:List Ch)(v:Value)(w:World)(hv:Rx w v L)(hL:L.length<=6000000)(hs:mH L<=60000000): Calls Tryz.prog 38 #[v,.string nmB] w fun e w'=>e=.returned (.tuple #[.string (cK nm L),.int .i64 (dx nm L:Nat)])/\w'=w:=by
 have hshape:=hv.shape;have HS:Hid (_):=hshape
 obtain⟨ao,cap,rfl⟩:∃ao cap,v=.slice ao L.length cap:=by
  rcases hshape with⟨h1,h2⟩|⟨g,cap,h2,_⟩
  ·exact⟨_,_,by rw[h2,h1];rfl⟩
  ·exact⟨_,_,h2⟩
 clear hshape hv
 go_enter Tryz.func38,Tryz.ntmps38
 go_wp2
 go_loop [6,7,8] (fun sv nv ix=>∃k:Nat,k<=L.length/\ix=.int .i64 k/\sv=.string (cK nm (L.take k))/\nv=.int .i64 (dx nm (L.take k):Nat)) (fun _ _ ix=>L.length-(intOf ix).toNat)
 case atStart=>exact⟨0,aaj _,rfl,rfl,rfl⟩
 case round =>
  obtain⟨k,hk,rfl,rfl,rfl⟩:=hrel;by_cases hlt:k<L.length
  ·have hlt':(k:Int)<(L.length:Int):=by omega
   obtain⟨g,xR,ge,c1,c2⟩:∃g xR,Value.slice ao L.length cap=.slice (some ⟨g,0,none⟩) L.length xR/\w.cell? ⟨g,k*2,none⟩=some (.string (dg L k).name)/\w.cell? ⟨g,k*2+1,none⟩=some (.string (dg L k).data):=by
    rcases HS.out with⟨h1,_⟩|⟨g,xR,h2,_,_,h3⟩
    ·rw[h1]at hlt;exact absurd hlt (abY _)
    ·exact⟨g,xR,h2,(h3 k hlt).1,(h3 k hlt).2⟩
   injection ge with e1 _ e3;subst e1;have HJ:=kI nm (L.take k) (dg L k);have P8:=tW nm (L.take k) (dg L k);rw[<-DT L k hlt]at HJ P8;have z1:=aaz (iR nm (L.take k)) (nE L k);have z2:=aaz (iR nm (L.take (k+1))) (nE L (k+1));have z3:=aaz (t9 nm (L.take k)) (by rw[aaQ];exact Nat.min_le_right _ _);obtain⟨b,hb⟩:∃b,b=eK (dg L k).name nm:=⟨_,rfl⟩
   rw[<-hb]at HJ P8;have hbb:((dg L k).name.toList==nm)=b:=by rw[hb];rfl
   obtain⟨J',hJ'⟩:∃J',J'=cK nm (L.take (k+1)):=⟨_,rfl⟩
   obtain⟨N',Yh⟩:∃N',N'=dx nm (L.take (k+1)):=⟨_,rfl⟩
   rw[<-hJ']at HJ z2;rw[<-Yh]at P8;have P9:Hid (J'=cK nm (L.take (k+1))/\N'=dx nm (L.take (k+1))):=⟨hJ',Yh⟩
   clear hJ' Yh;generalize cK nm (L.take k)=J at *;generalize dx nm (L.take k)=N at *;generalize (dg L k).name=nme at *;generalize (dg L k).data=dat at *;cases b
   ·have HF:Hid (J'=J/\N'=N):=⟨by rw[HJ];rfl,by rw[P8];rfl⟩
    clear HJ P8 hb z2;go_wp2
    go_round
    case rel=>exact⟨k+1,by omega,by go_num,by rw[<-P9.out.1,HF.out.1],by rw[<-P9.out.2,HF.out.2]⟩
    case measure=>simp[intOf];omega
   ·have HF:Hid (J'=J++dat/\N'=N+1):=⟨by rw[HJ];rfl,by rw[P8];rfl⟩
    have hjd:J.size+dat.size<=60000000:=by
     rw[HF.out.1,ByteArray.size_append]at z2;omega
    clear HJ P8 hb z2;go_wp2
    go_round
    case rel=>exact⟨k+1,by omega,by go_num,by rw[<-P9.out.1,HF.out.1],by rw[<-P9.out.2,HF.out.2];go_num⟩
    case measure=>simp[intOf];omega
  ·have hke:k=L.length:=by omega
   have HT:Hid (L.take k=L):=aav (by omega);have hnlt:¬(k:Int)<(L.length:Int):=by omega
   clear hke;go_wp2;exact aal (v:=.tuple #[.string (cK nm (L.take k)),.int .i64 (dx nm (L.take k):Nat)]) (by simp[results,Tryz.results38,go_sem]) rfl ⟨by rw[HT.out],rfl⟩
theorem Jr (s:ByteArray)(w:World)(h:0<s.size):Calls Tryz.prog 72 #[.string s] w fun e w'=>e=.returned (.bool (decide (ae s 0<=90)))/\w'=w:=by
 have hb:=aY s 0 h;have h0:(0:Int)<(s.size:Int):=by omega
 have x:decide ((ae s 0:Int)<=90)=decide (ae s 0<=90):=by rw[aa3,aaH,aaH];omega
 go_enter Tryz.func72,Tryz.ntmps72
 go_wp2
 go_ret
 exact⟨aG (by first|rfl|exact x),rfl⟩
theorem rH {L:List Ch}(h:kH L=false):gw L=false:=by unfold gw;rw[h,abX]
theorem Js (L:List Ch)(v:Value)(w:World)(hv:Rx w v L)(hL:L.length<=6000000)(hnm:∀c∈L,c.name.size=4): Calls Tryz.prog 35 #[v] w fun e w'=>e=.returned (.bool (gw L))/\w'=w:=by
 have HS:Hid (_):=hv.shape
 obtain⟨ao,cap,rfl⟩:∃ao cap,v=.slice ao L.length cap:=by
  rcases hv.shape with⟨h1,h2⟩|⟨g,cap,h2,_⟩
  ·exact⟨_,_,by rw[h2,h1];rfl⟩
  ·exact⟨_,_,h2⟩
 clear hv;by_cases h0:L.length=0
 ·have HR:Hid (gw L=false):=rH (by unfold kH;rw[aa4 (by omega),abX]);have VU:((L.length:Int)==0)=true:=by rw[abs];omega
  clear h0
  go_enter Tryz.func35,Tryz.ntmps35
  go_wp2
  go_ret
  exact⟨aG HR.out.symm,rfl⟩
 ·obtain⟨g,xR,ge,hcell⟩:∃g xR,Value.slice ao L.length cap=.slice (some ⟨g,0,none⟩) L.length xR/\∀k,k<L.length->w.cell? ⟨g,k*2,none⟩=some (.string (dg L k).name)/\w.cell? ⟨g,k*2+1,none⟩=some (.string (dg L k).data):=by
   rcases HS.out with⟨h1,_⟩|⟨g,xR,h2,_,_,h3⟩
   ·rw[h1]at h0;exact absurd rfl h0
   ·exact⟨g,xR,h2,h3⟩
  injection ge with e1 _ e3;subst e1;clear e3;obtain⟨m,hm⟩:∃m,L.length=m+1:=⟨L.length-1,by omega⟩
  have f0:=(hcell 0 (by omega)).1;obtain⟨l0,l1⟩:=hcell m (by omega);rw[abz]at f0;have Yi:dg L 0=dR L:=rfl;have Yj:dg L m=ew L:=by unfold ew;rw[hm,Nat.add_sub_cancel]
  rw[Yi]at f0;rw[Yj]at l0 l1;have VU:((L.length:Int)==0)=false:=by rw[aam];omega
  have hlm:(L.length:Int)-1=(m:Int):=by omega
  have hmL:(m:Int)<(L.length:Int):=by omega
  have h0L:(0:Int)<(L.length:Int):=by omega
  have Qa:Hid (kH L=(decide (2<=L.length)&&(eK (dR L).name fS&&(eK (ew L).name jN&&(ew L).data.toList.isEmpty)))):=rfl;have T8:m=0->dR L=ew L:=fun h=>by rw[<-Yi,<-Yj,h]
  have AO:Hid (eK (dR L).name fS=true->eK (ew L).name jN=true->2<=L.length):=fun h1 h2=>by
   rcases Nat.eq_zero_or_pos m with h|h
   ·rw[T8 h]at h1;rw[fE h1 (by decide)]at h2;cases h2
   ·omega
  obtain⟨b1,hb1⟩:∃b1,b1=eK (dR L).name fS:=⟨_,rfl⟩
  obtain⟨b2,hb2⟩:∃b2,b2=eK (ew L).name jN:=⟨_,rfl⟩
  obtain⟨b3,hb3⟩:∃b3,b3=(ew L).data.toList.isEmpty:=⟨_,rfl⟩
  have c1:((dR L).name.toList==[73,72,68,82])=b1:=hb1.symm;have c2:((ew L).name.toList==[73,69,78,68])=b2:=hb2.symm;have c3:(ew L).data.toList.isEmpty=b3:=hb3.symm;rw[<-hb1,<-hb2,<-hb3]at Qa;rw[<-hb1,<-hb2]at AO;generalize (dR L).name=fn at *;generalize (ew L).name=ln at *;generalize (ew L).data=ld at *;have T9:Hid (_):=hcell;obtain⟨N,hN⟩:∃N,L.length=N:=⟨_,rfl⟩
  rw[hN]at VU hlm hmL h0L hL Qa AO ⊢;have K9:Hid (L.length=N/\N=m+1):=⟨hN,by omega⟩
  clear hb1 hb2 hb3 Yi Yj T8 h0 hcell hm HS hN;rcases b1 with _|_
  ·have HR:Hid (gw L=false):=rH (by rw[Qa.out];simp)
   go_enter Tryz.func35,Tryz.ntmps35
   go_wp2
   go_ret
   exact⟨aG HR.out.symm,rfl⟩
  ·rcases b2 with _|_
   ·have HR:Hid (gw L=false):=rH (by rw[Qa.out];simp)
    go_enter Tryz.func35,Tryz.ntmps35
    go_wp2
    go_ret
    exact⟨aG HR.out.symm,rfl⟩
   ·rcases b3 with _|_
    ·have HR:Hid (gw L=false):=rH (by rw[Qa.out];simp)
     go_enter Tryz.func35,Tryz.ntmps35
     go_wp2
     go_ret
     exact⟨aG HR.out.symm,rfl⟩
    ·have h2L:=AO.out rfl rfl;obtain⟨n,hn⟩:∃n,N=n+2:=⟨N-2,by omega⟩
     have HR:Hid (gw L=uy 1 0 (-1) (-1) 0 (gv L)):=by
      show _=_;unfold gw;rw[Qa.out,aaw h2L];rfl
     have HN:Hid (L.length=n+2):=by show _=_;rw[K9.out.1,hn]
     have hnL:(n:Int)+2=(N:Int):=by omega
     clear Qa AO hn
     go_enter Tryz.func35,Tryz.ntmps35
     go_wp2
     go_loop [3,4,5,6,7] (fun pv fv lv dv ix=>∃(k p d:Nat) (f l:Int),k<=n/\ix=.int .i64 ((k+1:Nat):Int)/\pv=.int .i64 (p:Nat)/\fv=.int .i64 f/\lv=.int .i64 l/\dv=.int .i64 (d:Nat)/\Hid (gw L=uy (1+k) p f l d ((gv L).drop k)/\p<=k/\d<=k/\-1<=f/\f<=6000001/\-1<=l/\l<=6000001)) (fun _ _ _ _ ix=>n+1-(intOf ix).toNat)
     case atStart=>exact⟨0,0,0,-1,-1,aaj _,rfl,rfl,rfl,rfl,rfl,⟨HR.out,by omega,by omega,by omega,by omega,by omega,by omega⟩⟩
     case round =>
      obtain⟨k,p,d,f,l,hk,rfl,rfl,rfl,rfl,rfl,HI⟩:=hrel;obtain⟨hro,hp,hd,hf1,hf2,hl1,hl2⟩:=HI.out;obtain⟨i,hi⟩:∃i,i=k+1:=⟨_,rfl⟩
      rw[<-hi];by_cases hlt:k<n
      ·have hlt1:(i:Int)+1<(N:Int):=by omega
       have hiN:(i:Int)<(N:Int):=by omega
       obtain⟨c1',c2'⟩:=T9.out i (by have:=K9.out.1;omega);have hmd:=Jg HN.out hlt;rw[<-hi]at hmd
       have hsz:(dg L i).name.size=4:=hnm _ (by
        have:i<L.length:=by have:=K9.out.1;omega
        unfold dg;rw[aaa,aai this]
        exact aaR this)
       have hcap:=fun u=>Jr (dg L i).name u (by omega);rw[hmd,uy]at hro;have hcI:1+k=i:=by omega
       rw[hcI]at hro;have e1:1+(k+1)=i+1:=by omega
       change gw L=(if eK (dg L i).name bQ=true then _ else if eK (dg L i).name aP=true then _ else if ae (dg L i).name 0<=90 then _ else _) at hro;obtain⟨bP,Yk⟩:∃b,b=eK (dg L i).name bQ:=⟨_,rfl⟩
       obtain⟨bI,Yl⟩:∃b,b=eK (dg L i).name aP:=⟨_,rfl⟩
       have cP:((dg L i).name.toList==[80,76,84,69])=bP:=Yk.symm;have cI:((dg L i).name.toList==[73,68,65,84])=bI:=Yl.symm;obtain⟨bc,hbc⟩:∃b,b=decide (ae (dg L i).name 0<=90):=⟨_,rfl⟩
       rw[<-hbc]at hcap;rw[<-Yk,<-Yl]at hro;have HBC:Hid (bc=decide (ae (dg L i).name 0<=90)):=hbc;have ux:Hid (_):=hro;have pH:Hid (i=k+1):=hi;generalize Ym:(dg L i).name=nme at *;clear Yk Yl hbc hro hmd hsz hi Ym HI hcI;rcases bP with _|_
       ·rcases bI with _|_
        ·rcases bc with _|_
         ·have rj:gw L=uy (i+1) p f l d ((gv L).drop (i)):=by
           have:=ux.out;rw[aae (by decide),aae (by decide),aae (by have:=HBC.out;intro h;rw[aaw h]at this;cases this)]at this;rw[this,pH.out]
          have HF:Hid (gw L=uy (1+(k+1)) p f l d ((gv L).drop (k+1))/\p<=k+1/\d<=k+1/\-1<=f/\f<=6000001/\-1<=l/\l<=6000001):=⟨by rw[rj,e1,pH.out],by omega,by omega,hf1,hf2,hl1,hl2⟩
          clear rj ux;go_wp2_with fail;refine (hcap _).mono ?_;rintro e w' ⟨rfl,hw'⟩;subst w';go_wp2
          go_round
          case rel=>exact⟨k+1,p,d,f,l,by omega,by rw[show k+1+1=i+1 by have:=pH.out;omega];go_num,rfl,rfl,rfl,rfl,HF⟩
          case measure=>simp[intOf];have:=pH.out;omega
         ·have HF:Hid (gw L=false):=by
           have:=ux.out;rw[aae (by decide),aae (by decide),aaf (of_decide_eq_true HBC.out.symm)]at this;exact this
          clear ux;go_wp2_with fail;refine (hcap _).mono ?_;rintro e w' ⟨rfl,hw'⟩;subst w';go_wp2
          go_ret
          exact⟨aG HF.out.symm,rfl⟩
        ·have rj:gw L=uy (i+1) p (if f<0 then (i:Int) else f) (i:Int) (d+1) ((gv L).drop i):=by
          have:=ux.out;rw[aae (by decide),aaf rfl]at this;rw[this,pH.out]
         clear ux hcap;by_cases hf0:f<0
         ·rw[aaf hf0]at rj;have HF:Hid (gw L=uy (1+(k+1)) p (i:Int) (i:Int) (d+1) ((gv L).drop (k+1))/\p<=k+1/\d+1<=k+1/\-1<=(i:Int)/\(i:Int)<=6000001/\-1<=(i:Int)/\(i:Int)<=6000001):=⟨by rw[rj,e1,pH.out],by omega,by omega,by omega,by omega,by omega,by omega⟩
          clear rj;go_wp2
          go_round
          case rel=>exact⟨k+1,p,d+1,i,i,by omega,by rw[show k+1+1=i+1 by have:=pH.out;omega];go_num,rfl,rfl,rfl,by go_num,HF⟩
          case measure=>simp[intOf];have:=pH.out;omega
         ·rw[aae hf0]at rj;have HF:Hid (gw L=uy (1+(k+1)) p f (i:Int) (d+1) ((gv L).drop (k+1))/\p<=k+1/\d+1<=k+1/\-1<=f/\f<=6000001/\-1<=(i:Int)/\(i:Int)<=6000001):=⟨by rw[rj,e1,pH.out],by omega,by omega,by omega,by omega,by omega,by omega⟩
          clear rj;go_wp2
          go_round
          case rel=>exact⟨k+1,p,d+1,f,i,by omega,by rw[show k+1+1=i+1 by have:=pH.out;omega];go_num,rfl,rfl,rfl,by go_num,HF⟩
          case measure=>simp[intOf];have:=pH.out;omega
       ·by_cases hf0:0<=f
        ·have HF:Hid (gw L=false):=by
          have:=ux.out;rw[aaf rfl,aaf hf0]at this;exact this
         clear ux hcap;have hge:f≥0:=hf0;go_wp2
         go_ret
         exact⟨aG HF.out.symm,rfl⟩
        ·have rj:gw L=uy (i+1) (p+1) f l d ((gv L).drop i):=by
          have:=ux.out;rw[aaf rfl,aae hf0]at this;rw[this,pH.out]
         have HF:Hid (gw L=uy (1+(k+1)) (p+1) f l d ((gv L).drop (k+1))/\p+1<=k+1/\d<=k+1/\-1<=f/\f<=6000001/\-1<=l/\l<=6000001):=⟨by rw[rj,e1,pH.out],by omega,by omega,by omega,by omega,by omega,by omega⟩
         clear ux hcap rj;have hge:¬f≥0:=hf0;go_wp2
         go_round
         case rel=>exact⟨k+1,p+1,d,f,l,by omega,by rw[show k+1+1=i+1 by have:=pH.out;omega];go_num,by go_num,rfl,rfl,rfl,HF⟩
         case measure=>simp[intOf];have:=pH.out;omega
      ·have hke:k=n:=by omega
       rw[hke,mid_end HN.out,uy]at hro;have hnlt:¬(i:Int)+1<(N:Int):=by omega
       have hib:i<=6000001:=by omega
       have ux:Hid (_):=hro;clear HI hro hi hke;have hr3:∀b,(decide (p<=1)&&(decide (0<d)&&decide (l-f+1=(d:Int))))=b->gw L=b:=fun b h=>by rw[ux.out];exact h
       have HR3:Hid (_):=hr3;clear hr3 ux;by_cases p1:p<=1
       ·have p1i:(p:Int)<=1:=by omega
        by_cases d1:0<d
        ·have d1i:(d:Int)>0:=by omega
         by_cases Rz:l-f+1=(d:Int)
         ·have HF:Hid (gw L=true):=HR3.out true (by rw[aaw p1,aaw d1,aaw Rz];rfl);have l2:(l-f+1==(d:Int))=true:=abs.2 Rz;clear HR3 Rz;go_wp2
          go_ret
          exact⟨aG HF.out.symm,rfl⟩
         ·have HF:Hid (gw L=false):=HR3.out false (by rw[aa4 Rz];simp);have l2:(l-f+1==(d:Int))=false:=aam.2 Rz;clear HR3 Rz;go_wp2
          go_ret
          exact⟨aG HF.out.symm,rfl⟩
        ·have HF:Hid (gw L=false):=HR3.out false (by rw[aa4 d1];simp);have d1i:¬(d:Int)>0:=by omega
         clear HR3;go_wp2
         go_ret
         exact⟨aG HF.out.symm,rfl⟩
       ·have HF:Hid (gw L=false):=HR3.out false (by rw[aa4 p1];simp);have p1i:¬(p:Int)<=1:=by omega
        clear HR3;go_wp2
        go_ret
        exact⟨aG HF.out.symm,rfl⟩
end Go.Proofs.YtmfijackgekioaaGreatDoor
