import Derived.Test.YtmfijackgekioabGreatDoorQ27
import Derived.Test.YtmfijackgekioabGreatDoorQ43
set_option maxHeartbeats 8000000
set_option maxRecDepth 100000
namespace Go.Proofs.YtmfijackgekioabGreatDoor
section
open Go.RowKit
theorem Pe (a b:List UInt8)(j:Nat)(h:j<8*a.length):(Mx.low (a++b)).getD j 0=(Mx.low a).getD j 0:=by
 rw[oI,oI];have:j/8<a.length:=by omega
 rw[aab,aab,abn this]
theorem Pf {P R:List UInt8}{W:List Int}(h:Rf.Holds P W):Rf.At (Mx.low (P++R)) 0 W:=by
 have hl:=h.1;obtain⟨h1,h2⟩:=Rf.Rz h;refine⟨by rw[Mx.oF,aac];omega,fun j hj=>?_⟩;rw[<-h2 j hj,aaO];exact Pe P R j (by omega)
def dH (P b:ByteArray):ByteArray:=(⟨#[120,156]⟩++P)++⟨(four (Mx.ew b.data.toList)).toArray⟩
theorem ib (P b:ByteArray):(dH P b).data.toList=[120,156]++(P.data.toList++four (Mx.ew b.data.toList)):=by
 simp[dH,ByteArray.data_append]
theorem pm (P b:ByteArray):(dH P b).size=P.size+6:=by
 have h:=abV List.length (ib P b);rw[aac,aac]at h;have YE:(dH P b).data.toList.length=(dH P b).data.size:=abm;have e2':P.data.toList.length=P.data.size:=abm;have e1:(dH P b).data.size=(dH P b).size:=rfl;have e2:P.data.size=P.size:=rfl;have e3:(four (Mx.ew b.data.toList)).length=4:=rfl;have e4:([120,156]:List UInt8).length=2:=rfl;omega
theorem IC (P b:ByteArray):((dH P b).extract 2 (dH P b).size).data.toList=P.data.toList++four (Mx.ew b.data.toList):=by
 rw[acs,acF,aco,ib,List.drop_append_of_le_length (by simp)];have hz:=pm P b;have e:P.data.toList.length=P.size:=by rw[abm];rfl
 rw[abf (by simp[four];omega)];rfl
theorem Mt {P b:ByteArray}{W ks:List Int}(hP:Rf.Holds P.data.toList W)(hwh:Rf.Whole b.data.toList b.data.toList.length W ks)(hb:b.size<=4500000)(hW:W.length<=40000000): dx (dH P b) (b.size:Int)=0/\jg (dH P b) (b.size:Int)=b/\tr (dH P b) (b.size:Int):=by
 have hbl:b.data.toList.length=b.size:=by rw[abm];rfl
 have Vu:P.data.toList.length=P.size:=by rw[abm];rfl
 have hz:=pm P b;have Yf:=Rf.CM hP
 have hm:mid (dH P b) (b.size:Int)=⟨W.length,false,false,b.data.toList,ks⟩:=by
  unfold mid;show Rf.inflate (Mx.low ((dH P b).extract 2 (dH P b).size).data.toList) _=_;rw[IC,<-hbl];exact hwh _ (Pf hP)
 have h0:af (dH P b) 0=120:=by unfold af;rw[ib];rfl
 have h1:af (dH P b) 1=156:=by unfold af;rw[ib];rfl
 have hd:(dH P b).data.toList.drop ((W.length+7)/8+2)=four (Mx.ew b.data.toList):=by
  rw[ib,Yf,<-aaw,List.drop_append];have e:P.data.toList.length+2-([120,156]++P.data.toList).length=0:=by simp
  rw[e,List.drop_of_length_le (by simp),abb,acU]
 have hc:dx (dH P b) (b.size:Int)=0:=by
  unfold dx;rw[hm,h0,h1];rw[aai (by rintro (q|q);omega;exact q (by decide)),aai (show ¬(false||false)=true by decide),aai (by simp only;omega),aai (by simp only;rw[hd];simp)]
 refine⟨hc,?_,fun _ _ _=>?_⟩
 ·unfold jg;rw[hc,aaj rfl,hm]
 ·rw[hm];exact⟨hW,by show _<=_;simp only;omega⟩
end
section
open Go.RowKit Go.Maps
def Ph (T:ByteArray)(level per:Nat)(J:World->Nat->Prop)(wr:World)(p k:Nat)(W ks:List Int):Bool->Prop
 | true=>Rf.Whole T.data.toList T.data.toList.length W ks/\(W.length+7)/8<=T.size+5+5*(T.size/65535)/\(1<=level->Rf.Iv T.data.toList per->per<=32768->W.length<=11*per+31+26*(T.size/258)+41*(T.size/65535+1))
 | false=>Rf.wi T.data.toList T.data.toList.length W p k ks/\p<=T.size/\(W.length+7)/8<=p+5*k/\J wr p/\(1<=level->Rf.Iv T.data.toList per->per<=32768->W.length<=if p=0 then 0 else 11*per+31+26*(p/258)+41*k)
theorem Mu {T:ByteArray}{level per:Nat}{J:World->Nat->Prop}{wr w':World}{p k q:Nat}{W ks:List Int}(h:Ph T level per J wr p k W ks false)(hk:p=65535*k)(hq:q=min (p+65535) T.size)(last:Bool)(hlast:last=decide (q=T.size)){kk:Nat}{Bk:List Int}{E:Nat}(hk3:kk<=2)(hE:W.length+3+Bk.length=E)(hle:E<=(W.length+10)/8*8+32+8*(q-p))(hco:1<=level->Rf.Iv T.data.toList per->per<=32768->E<=W.length+3+(QB per q p+7))(hb:Rf.jQ T.data.toList T.data.toList.length (W.length+3) p q kk Bk)(hJ:J w' q): Ph T level per J w' (p+65535) (k+1) (W++(sJ last kk++Bk)) (ks++[(kk:Int)]) last:=by
 obtain⟨hs,hp,hsz,_,hcs⟩:=h;have hpq:p<=q/\q<=p+65535:=by omega
 have Yg:1<=level->Rf.Iv T.data.toList per->per<=32768->E<=11*per+31+26*(q/258)+41*(k+1):=fun a b c=>by
  have h1:=hco a b c;have h2:=hcs a b c;unfold QB at h1;by_cases h0:p=0
  ·rw[aaj h0]at h2;subst h0;split at h1<;>omega
  ·rw[aai h0]at h2;rw[aai (by omega)]at h1;omega
 have hl:(W++(sJ last kk++Bk)).length=E:=by rw[aac,aac,lu];omega
 have Rc:T.data.toList.length=T.size:=by rw[abm];rfl
 cases last with
 | true =>
  have e:q=T.size:=of_decide_eq_true hlast.symm;refine⟨?_,?_,?_⟩
  ·rw[e,<-Rc]at hb;exact Rf.Ae hs (by omega) hb
  ·rw[hl];have:k<=T.size/65535:=by omega
   omega
  ·rw[hl];intro a b c;have:=Yg a b c;have:k<=T.size/65535:=by omega
   rw[e]at *;omega
 | false =>
  have e:¬q=T.size:=of_decide_eq_false hlast.symm;have e2:q=p+65535:=by omega
  subst e2;refine⟨Rf.Ad hs (by omega) hb,by omega,?_,hJ,?_⟩
  ·rw[hl];omega
  ·rw[hl,aai (by omega)];exact Yg
theorem Pj (T:ByteArray)(level:Nat)(w:World)(hl:level<=2)(hT:T.size<=4500000): Calls Tryz.prog 79 #[.string T,.int .i64 level] w fun e w'=>∃(P:ByteArray) (W ks:List Int),e=.returned (.string P)/\Rf.Holds P.data.toList W/\Rf.Whole T.data.toList T.data.toList.length W ks/\(W.length+7)/8<=T.size+5+5*(T.size/65535)/\(∀x∈ks,0<=x/\x<=(level:Int))/\(1<=level->∃per,qa T per/\(Rf.Iv T.data.toList per->per<=32768->W.length<=11*per+31+26*(T.size/258)+41*(T.size/65535+1)))/\Below w.heap.size w w':=by
 have k0:=ae w (.cells #[.slice none 0 0,.int .i64 0] 156);have hw0:aA (w.alloc (.cells #[.slice none 0 0,.int .i64 0] 156)) w.heap.size []:=⟨_,[],ah w _,⟨rfl,.inl ⟨rfl,rfl⟩⟩,rfl,fun j=>by simp[Rf.jC]⟩
 have hst:=Ms T level hl hT w.heap.size (w.alloc (.cells #[.slice none 0 0,.int .i64 0] 156)) (by simp)
 go_enter Tryz.func79,Tryz.ntmps79
 go_wp2_with fail;refine hst.mono ?_;rintro e u2 ⟨kf,aO,J,R,per,rfl,lv,hpo,hj0,hb2⟩;have HPO:Hid (1<=level->qa T per):=hpo;clear hpo;have hw2:=hw0.below hb2;have B2:Below w.heap.size w u2:=k0.trans (hb2.mono k0.size);have hcall:=lv.call;have HT:Hid (T.size<=4500000):=hT;have HL:Hid (level<=2):=hl;clear k0 hw0 hst hb2 hT hl;go_wp2
 go_loopw [7,8] (fun sv lv wr=>∃(p k:Nat) (tZ:Bool) (W ks:List Int),sv=.int .i64 p/\lv=.bool tZ/\Hid (p=65535*k)/\p<=T.size+65535/\Hid (aA wr w.heap.size W)/\Hid (∀x∈ks,0<=x/\x<=(level:Int))/\Hid (Ph T level per J wr p k W ks tZ)/\Below w.heap.size w wr) (fun sv _ _=>T.size+70000-(intOf sv).toNat)
 case atStart=>exact⟨0,0,false,[],[],rfl,rfl,rfl,by omega,hw2,(fun x hx=>by cases hx),⟨Rf.CL _ _,aaq _,by simp,hj0,fun _ _ _=>by simp⟩,B2⟩
 case round =>
  clear hj0 hw2 B2;obtain⟨p,k,tZ,W,ks,rfl,rfl,HK,KR,HW,HKS,HF,hbe⟩:=hrel;cases tZ
  ·have hJ:J wr p:=HF.out.2.2.2.1;have hp:=HF.out.2.1;have hsz:=HF.out.2.2.1;obtain⟨q,hq⟩:∃q,min (p+65535) T.size=q:=⟨_,rfl⟩
   obtain⟨pe,hpe⟩:∃pe,IntKind.i64.wrap ((p:Int)+65535)=pe:=⟨_,rfl⟩
   have Yh:pe=((p+65535:Nat):Int):=by rw[<-hpe];exact (aao _ (by have:=HT.out;omega)).trans (by omega)
   have hmin:min pe (T.size:Int)=(q:Int):=by omega
   have hq1:p<=q:=by omega
   have hq2:q<=p+65535:=by omega
   have hq3:q<=T.size:=by omega
   have HQ:Hid (q=min (p+65535) T.size):=hq.symm;have HPE:Hid (pe=((p+65535:Nat):Int)):=Yh;have hWl:Hid (W.length<=80000000):=by have:=HK.out;have:=HT.out;show _<=_;omega
   obtain⟨last,hlast⟩:∃last,last=decide (q=T.size):=⟨_,rfl⟩
   have hlv:((q:Int)==(T.size:Int))=last:=by rw[hlast];rw[acA];simp;omega
   have hlv2:(q:Int)=(T.size:Int)↔last=true:=by rw[hlast];simp;omega
   have HLA:Hid (last=decide (q=T.size)):=hlast;have hS:True:=trivial;have hsp:=lv.split wr.drew p q W (lv.drew _ _ hJ) (HW.out.drewN 1) hq1 hq2 hq3 HQ.out;have hqi:(q:Int)<=(T.size:Int):=by omega
   have ab4:(p:Int)<=(q:Int):=by omega
   have hbd:Below w.heap.size w wr.drew:=hbe.drew;clear hq Yh hlast hJ hp hsz HW hbe;go_wp2_with fail;refine ax (fun _=>True) 999 ?_;generalize wr.drew=v0 at *;refine ap [0,1,2,3] ?_
   iterate 4 (refine au hS ?_;try simp only[Act.put])
   refine aj ?_;refine aB 4 (v:=.string (T.extract p q)) ?_ hS ?_
   ·intro w hSw;(try dsimp only at hSw);go_simp;try with_reducible rfl
   simp only[Act.put];refine ap [5,6,7] ?_
   iterate 3 (refine au hS ?_;try simp only[Act.put])
   refine aj ?_;refine ap [9,10] ?_
   iterate 2 (refine au hS ?_;try simp only[Act.put])
   refine aj ?_;refine ag 8 fun K hK=>?_;go_simp;refine hsp.mono ?_;rintro e v1 ⟨Zo,rfl,hr1,hw1,hb1⟩;refine hK _ _ (fun _=>trivial) ?_;clear hK K hsp;have hpl:=lv.Mr v1 p q Zo W last hr1 hw1 hWl.out hq1 hq2 hq3;refine ag 11 fun K hK=>?_;go_simp;refine hpl.mono ?_;rintro e v2 ⟨pv,rfl,C,po,hC⟩;have HC:Hid (1<=level->Rf.Iv T.data.toList per->per<=32768->C<=QB per q p+7):=hC;clear hC;refine hK _ _ (fun _=>trivial) ?_;clear hK K hpl;refine ag 12 fun K hK=>?_;go_simp;refine hK _ _ (fun _=>trivial) ?_;clear hK K;refine am ?_;obtain⟨⟨x0,UR,hown,hx0,hall,hrl,hfx⟩,Pn⟩:=po
   have HFX:Hid (1<=level->∃y∈x0::UR,y.1=W.length+3+C):=fun h=>by
    obtain⟨y,hy,he⟩:=hfx h;exact⟨y,acu _ hy,he⟩
   clear hfx
   obtain⟨g,cap,hpv⟩:∃g cap,pv=.slice (some ⟨g,0,none⟩) (x0::UR).length cap:=by
    rcases hown.2 with⟨_,h0⟩|⟨g,cap,cur,hv,_⟩
    ·simp at h0
    ·exact⟨g,cap,hv⟩
   subst hpv;have hmn:=Wj g cap (x0::UR).length (x0::UR) v2 rfl (by simp) (by simp only[aaA];omega) (hown.lt g rfl).2 (fun j hj=>KJ hown rfl j hj);have hw2:=hw1.below Pn;have hr2:=lv.below v1 v2 p q Zo hr1 Pn;have Yi:((x0::UR).getD 0 (0,0,#[])).1=x0.1:=rfl;rw[Yi,hx0]at hmn;have BB2:Below w.heap.size w v2:=hbd.trans (hb1.trans (Pn.mono (acV hw1.lt)));clear hown hx0 Yi hr1 hw1 hb1 Pn hbd;generalize (x0::UR).length=nn at *;go_wp2_with fail;refine hmn.mono ?_;rintro e v3 ⟨x,hx,rfl,⟨hle,hmin⟩,hb3⟩
   have HCO:Hid (1<=level->Rf.Iv T.data.toList per->per<=32768->x.1<=W.length+3+(QB per q p+7)):=fun a b c=>by
    obtain⟨y,hy,he⟩:=HFX.out a;have h1:=hmin y hy;have h2:=HC.out a b c;omega
   clear hmin HFX HC;obtain⟨hpn,_⟩:=hall x hx;have hcl:=hpn.call;have hdo:=hpn.does v3 (Kq.aF hb3) (hw2.below hb3);have hr3:=lv.below v2 v3 p q Zo hr2 hb3;have BB3:Below w.heap.size w v3:=BB2.trans (hb3.mono BB2.size);clear hmn hall hx hpn hr2 hw2 BB2 hb3;obtain⟨xE,xf,xc⟩:=x;simp only at hcl hdo hle;have ahy:∀u:World,(Instr.field 163 (Wg (xE,xf,xc)) 1).run Tryz.prog u=.ok (.func (.func xf) #[] xc) u:=fun u=>by kernel_rfl
   go_wp2_with fail;refine hdo.mono ?_;rintro e v4 ⟨rfl,kk,Bk,hkk,hw4,hlen,hbr,f4⟩;have HW4:Hid (aA v4 w.heap.size (W++(sJ last kk++Bk))):=hw4;have HF4:Hid (Ph T level per J v4 (p+65535) (k+1) (W++(sJ last kk++Bk)) (ks++[(kk:Int)]) last):=Mu HF.out HK.out HQ.out last HLA.out (by have:=HL.out;omega) hlen hle HCO.out hbr (lv.next v3 v4 p q Zo hr3 f4)
   have ab8:Hid (∀x∈ks++[(kk:Int)],0<=x/\x<=(level:Int)):=fun x hx=>by
    rcases abA.1 hx with q|q
    ·exact HKS.out x q
    ·rw[abK.1 q];omega
   have BB4:Below w.heap.size w v4:=BB3.trans f4.below;have HK4:Hid (p+65535=65535*(k+1)):=by show _=_;have:=HK.out;omega
   have hpp:p+65535<=T.size+65535:=by omega
   clear hdo hcl hw4 hlen hbr f4 hr3 BB3 hle hkk HF HKS HK hWl hq1 hq2 hq3 hqi ab4 hmin hlv hlv2 HLA HQ;go_wp2
   go_roundw
   case rel=>exact⟨p+65535,k+1,last,_,_,by rw[HPE.out],rfl,HK4,hpp,HW4,ab8,HF4,BB4⟩
   case measure=>rw[HPE.out];simp[intOf];omega
  ·obtain⟨pv,P,hwr⟩:=HW.out;obtain⟨c0,c1,fz⟩:=hwr.cells;have hcv:=fM hwr.own rfl;have HH:Hid (_/\_):=⟨hwr.hold,HF.out⟩
   have hBl:=hwr.lt;clear hwr HW HF lv hcall;go_wp2
   go_ret
   exact⟨⟨P.toArray⟩,W,ks,rfl,by simpa using HH.out.1,HH.out.2.1,HH.out.2.2.1,HKS.out,fun h=>⟨per,HPO.out h,HH.out.2.2.2 h⟩,hbe⟩
end
section
open Go.RowKit
theorem BF (l:List UInt8):0<=Mx.ew l/\Mx.ew l<4294967296:=by
 have h1:=Mx.qh l;have h2:=Mx.qi l;unfold Mx.ew;omega
theorem QD (T:ByteArray)(level:Nat)(w:World)(hl:level<=2)(hT:T.size<=4500000): Calls Tryz.prog 46 #[.string T,.int .i64 level] w fun e w'=>∃(P:ByteArray) (W ks:List Int),e=.returned (.string (dH P T))/\Rf.Holds P.data.toList W/\Rf.Whole T.data.toList T.data.toList.length W ks/\(W.length+7)/8<=T.size+5+5*(T.size/65535)/\(∀x∈ks,0<=x/\x<=(level:Int))/\Below w.heap.size w w':=by
 have hby:=Pj T level w hl hT;have had:=fun v=>JU T v (by unfold maxLen;omega);obtain⟨a,ha⟩:∃a:Nat,Mx.ew T.data.toList=(a:Int):=⟨(Mx.ew T.data.toList).toNat,by have:=BF T.data.toList;omega⟩
 have hfo:=fun v=>pW a v (by have:=BF T.data.toList;omega);have HT:Hid (T.size<=4500000):=hT;have HA:Hid (dH=fun P b=>(⟨#[120,156]⟩++P)++⟨(four (Mx.ew b.data.toList)).toArray⟩):=rfl;rw[ha]at had;have HAA:Hid (Mx.ew T.data.toList=(a:Int)):=ha;clear hl hT ha
 go_enter Tryz.func46,Tryz.ntmps46
 go_wp2_with fail;refine hby.mono ?_;rintro e w1 ⟨P,W,ks,rfl,h1,h2,h3,h4,-,h5⟩;have Vu:P.data.toList.length=P.size:=by rw[abm];rfl
 have Yf:=h1.1;have hps:P.size<=4600000:=by have:=HT.out;omega
 have hc1:(2+P.size:Nat)<=maxLen:=by unfold maxLen;omega
 have HH:Hid (_/\_/\_/\_/\_):=⟨h1,h2,h3,h4,h5⟩
 clear h1 h2 h3 h4 Vu Yf hby;go_wp2_with fail;refine (had _).mono ?_;rintro e w2 ⟨rfl,rfl⟩;go_wp2_with fail;refine (hfo _).mono ?_;rintro e w3 ⟨rfl,h6⟩;have I3:(four (a:Int)).length=4:=rfl;go_wp2
 go_ret
 refine⟨P,W,ks,?_,HH.out.1,HH.out.2.1,HH.out.2.2.1,HH.out.2.2.2.1,h5.trans (h6.mono h5.size)⟩;rw[HA.out];simp only;rw[HAA.out];rfl
end
end Go.Proofs.YtmfijackgekioabGreatDoor
