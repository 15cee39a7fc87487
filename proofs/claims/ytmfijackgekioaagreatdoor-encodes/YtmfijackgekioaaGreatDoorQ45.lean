import Derived.Test.YtmfijackgekioaaGreatDoorQ27
import Derived.Test.YtmfijackgekioaaGreatDoorQ44
set_option maxHeartbeats 8000000
set_option maxRecDepth 100000
namespace Go.Proofs.YtmfijackgekioaaGreatDoor
section
open Go.RowKit
theorem M9 (a b:List UInt8)(j:Nat)(h:j<8*a.length):(Mx.low (a++b)).getD j 0=(Mx.low a).getD j 0:=by
 rw[wQ,wQ];have:j/8<a.length:=by omega
 rw[aaa,aaa,aaS this]
theorem Na {P R:List UInt8}{W:List Int}(h:Rf.Holds P W):Rf.At (Mx.low (P++R)) 0 W:=by
 have hl:=h.1;obtain⟨h1,h2⟩:=Rf.Hu h;refine⟨by rw[Mx.jZ,aac];omega,fun j hj=>?_⟩;rw[<-h2 j hj,aaF];exact M9 P R j (by omega)
def bU (P b:ByteArray):ByteArray:=(⟨#[120,156]⟩++P)++⟨(four (Mx.eg b.data.toList)).toArray⟩
theorem fB (P b:ByteArray):(bU P b).data.toList=[120,156]++(P.data.toList++four (Mx.eg b.data.toList)):=by
 simp[bU,ByteArray.data_append]
theorem gB (P b:ByteArray):(bU P b).size=P.size+6:=by
 have h:=abq List.length (fB P b);rw[aac,aac]at h;have Sm:(bU P b).data.toList.length=(bU P b).data.size:=aaN;have e2':P.data.toList.length=P.data.size:=aaN;have e1:(bU P b).data.size=(bU P b).size:=rfl;have e2:P.data.size=P.size:=rfl;have e3:(four (Mx.eg b.data.toList)).length=4:=rfl;have e4:([120,156]:List UInt8).length=2:=rfl;omega
theorem Gj (P b:ByteArray):((bU P b).extract 2 (bU P b).size).data.toList=P.data.toList++four (Mx.eg b.data.toList):=by
 rw[ab2,acg,abO,fB,List.drop_append_of_le_length (by simp)];have hz:=gB P b;have e:P.data.toList.length=P.size:=by rw[aaN];rfl
 rw[aav (by simp[four];omega)];rfl
theorem yj (P b:ByteArray):(bU P b).extract 2 ((bU P b).size-4)=P:=by
 have hz:=gB P b;have e:P.data.toList.length=P.size:=by rw[aaN];rfl
 have h:((bU P b).extract 2 ((bU P b).size-4)).data.toList=P.data.toList:=by
  rw[ab2,acg,abO,fB,List.drop_append_of_le_length (by simp)];show List.take ((bU P b).size-4-2) (P.data.toList++_)=_;rw[List.take_append_of_le_length (by omega),aav (by omega)]
 cases hx:(bU P b).extract 2 ((bU P b).size-4);rw[hx]at h;cases P;simp only at h
 congr 1
 exact Array.toList_inj.1 h
theorem Kv {P b:ByteArray}{W ks:List Int}(hP:Rf.Holds P.data.toList W)(Wi:Rf.Whole b.data.toList b.data.toList.length W ks)(hb:b.size<=4500000)(hW:W.length<=40000000): jM (bU P b) (b.size:Int)=0/\nZ (bU P b) (b.size:Int)=b/\DQ (bU P b) (b.size:Int):=by
 have hbl:b.data.toList.length=b.size:=by rw[aaN];rfl
 have Nx:P.data.toList.length=P.size:=by rw[aaN];rfl
 have hz:=gB P b;have Ou:=Rf.sB hP
 have hm:mid (bU P b) (b.size:Int)=⟨W.length,false,false,b.data.toList,ks⟩:=by
  unfold mid;show Rf.inflate (Mx.low ((bU P b).extract 2 (bU P b).size).data.toList) _=_;rw[Gj,<-hbl];exact Wi _ (Na hP)
 have h0:ae (bU P b) 0=120:=by unfold ae;rw[fB];rfl
 have h1:ae (bU P b) 1=156:=by unfold ae;rw[fB];rfl
 have hd:(bU P b).data.toList.drop ((W.length+7)/8+2)=four (Mx.eg b.data.toList):=by
  rw[fB,Ou,<-aaq,List.drop_append];have e:P.data.toList.length+2-([120,156]++P.data.toList).length=0:=by simp
  rw[e,List.drop_of_length_le (by simp),abg,acv]
 have hc:jM (bU P b) (b.size:Int)=0:=by
  unfold jM;rw[hm,h0,h1];rw[aae (by rintro (q|q);omega;exact q (by decide)),aae (show ¬(false||false)=true by decide),aae (by simp only;omega),aae (by simp only;rw[hd];simp)]
 refine⟨hc,?_,fun _ _ _=>?_⟩
 ·unfold nZ;rw[hc,aaf rfl,hm]
 ·rw[hm];exact⟨hW,by show _<=_;simp only;omega⟩
end
section
open Go.RowKit Go.Maps
def Nb (T:ByteArray)(level per:Nat)(J:World->Nat->Prop)(wr:World)(p k:Nat)(W ks:List Int):Bool->Prop
 | true=>Rf.Whole T.data.toList T.data.toList.length W ks/\(W.length+7)/8<=T.size+5+5*(T.size/65535)/\(1<=level->Rf.Gc T.data.toList per->per<=32768->W.length<=11*per+31+26*(T.size/258)+41*(T.size/65535+1))
 | false=>Rf.vo T.data.toList T.data.toList.length W p k ks/\p<=T.size/\(W.length+7)/8<=p+5*k/\J wr p/\(1<=level->Rf.Gc T.data.toList per->per<=32768->W.length<=if p=0 then 0 else 11*per+31+26*(p/258)+41*k)
theorem Kw {T:ByteArray}{level per:Nat}{J:World->Nat->Prop}{wr w':World}{p k q:Nat}{W ks:List Int}(h:Nb T level per J wr p k W ks false)(hk:p=65535*k)(hq:q=min (p+65535) T.size)(last:Bool)(hlast:last=decide (q=T.size)){kk:Nat}{Bk:List Int}{E:Nat}(hk3:kk<=2)(hE:W.length+3+Bk.length=E)(hle:E<=(W.length+10)/8*8+32+8*(q-p))(hco:1<=level->Rf.Gc T.data.toList per->per<=32768->E<=W.length+3+(Oq per q p+7))(hb:Rf.jq T.data.toList T.data.toList.length (W.length+3) p q kk Bk)(hJ:J w' q): Nb T level per J w' (p+65535) (k+1) (W++(uN last kk++Bk)) (ks++[(kk:Int)]) last:=by
 obtain⟨hs,hp,hsz,_,hcs⟩:=h;have hpq:p<=q/\q<=p+65535:=by omega
 have Vq:1<=level->Rf.Gc T.data.toList per->per<=32768->E<=11*per+31+26*(q/258)+41*(k+1):=fun a b c=>by
  have h1:=hco a b c;have h2:=hcs a b c;unfold Oq at h1;by_cases h0:p=0
  ·rw[aaf h0]at h2;subst h0;split at h1<;>omega
  ·rw[aae h0]at h2;rw[aae (by omega)]at h1;omega
 have hl:(W++(uN last kk++Bk)).length=E:=by rw[aac,aac,ko];omega
 have Wd:T.data.toList.length=T.size:=by rw[aaN];rfl
 cases last with
 | true =>
  have e:q=T.size:=of_decide_eq_true hlast.symm;refine⟨?_,?_,?_⟩
  ·rw[e,<-Wd]at hb;exact Rf.yR hs (by omega) hb
  ·rw[hl];have:k<=T.size/65535:=by omega
   omega
  ·rw[hl];intro a b c;have:=Vq a b c;have:k<=T.size/65535:=by omega
   rw[e]at *;omega
 | false =>
  have e:¬q=T.size:=of_decide_eq_false hlast.symm;have e2:q=p+65535:=by omega
  subst e2;refine⟨Rf.yQ hs (by omega) hb,by omega,?_,hJ,?_⟩
  ·rw[hl];omega
  ·rw[hl,aae (by omega)];exact Vq
theorem Nc (T:ByteArray)(level:Nat)(w:World)(hl:level<=2)(hT:T.size<=4500000): Calls Tryz.prog 97 #[.string T,.int .i64 level] w fun e w'=>∃(P:ByteArray) (W ks:List Int),e=.returned (.string P)/\Rf.Holds P.data.toList W/\Rf.Whole T.data.toList T.data.toList.length W ks/\(W.length+7)/8<=T.size+5+5*(T.size/65535)/\(∀x∈ks,0<=x/\x<=(level:Int))/\(1<=level->∃per,pF T per/\(Rf.Gc T.data.toList per->per<=32768->W.length<=11*per+31+26*(T.size/258)+41*(T.size/65535+1)))/\Below w.heap.size w w':=by
 have k0:=ag w (.cells #[.slice none 0 0,.int .i64 0] 181);have hw0:aB (w.alloc (.cells #[.slice none 0 0,.int .i64 0] 181)) w.heap.size []:=⟨_,[],ak w _,⟨rfl,.inl ⟨rfl,rfl⟩⟩,rfl,fun j=>by simp[Rf.ja]⟩
 have hst:=Ku T level hl hT w.heap.size (w.alloc (.cells #[.slice none 0 0,.int .i64 0] 181)) (by simp)
 go_enter Tryz.func97,Tryz.ntmps97
 go_wp2_with fail;refine hst.mono ?_;rintro e u2 ⟨kf,aN,J,R,per,rfl,lv,hpo,hj0,hb2⟩;have HPO:Hid (1<=level->pF T per):=hpo;clear hpo;have hw2:=hw0.below hb2;have B2:Below w.heap.size w u2:=k0.trans (hb2.mono k0.size);have hcall:=lv.call;have HT:Hid (T.size<=4500000):=hT;have HL:Hid (level<=2):=hl;clear k0 hw0 hst hb2 hT hl;go_wp2
 go_loopw [7,8] (fun sv lv wr=>∃(p k:Nat) (BD:Bool) (W ks:List Int),sv=.int .i64 p/\lv=.bool BD/\Hid (p=65535*k)/\p<=T.size+65535/\Hid (aB wr w.heap.size W)/\Hid (∀x∈ks,0<=x/\x<=(level:Int))/\Hid (Nb T level per J wr p k W ks BD)/\Below w.heap.size w wr) (fun sv _ _=>T.size+70000-(intOf sv).toNat)
 case atStart=>exact⟨0,0,false,[],[],rfl,rfl,rfl,by omega,hw2,(fun x hx=>by cases hx),⟨Rf.A6 _ _,aaj _,by simp,hj0,fun _ _ _=>by simp⟩,B2⟩
 case round =>
  clear hj0 hw2 B2;obtain⟨p,k,BD,W,ks,rfl,rfl,HK,I3,HW,Vr,HF,hbe⟩:=hrel;cases BD
  ·have hJ:J wr p:=HF.out.2.2.2.1;have hp:=HF.out.2.1;have hsz:=HF.out.2.2.1;obtain⟨q,hq⟩:∃q,min (p+65535) T.size=q:=⟨_,rfl⟩
   obtain⟨pe,hpe⟩:∃pe,IntKind.i64.wrap ((p:Int)+65535)=pe:=⟨_,rfl⟩
   have Vs:pe=((p+65535:Nat):Int):=by rw[<-hpe];exact (aah _ (by have:=HT.out;omega)).trans (by omega)
   have hmin:min pe (T.size:Int)=(q:Int):=by omega
   have hq1:p<=q:=by omega
   have hq2:q<=p+65535:=by omega
   have hq3:q<=T.size:=by omega
   have HQ:Hid (q=min (p+65535) T.size):=hq.symm;have HPE:Hid (pe=((p+65535:Nat):Int)):=Vs;have hWl:Hid (W.length<=80000000):=by have:=HK.out;have:=HT.out;show _<=_;omega
   obtain⟨last,hlast⟩:∃last,last=decide (q=T.size):=⟨_,rfl⟩
   have hlv:((q:Int)==(T.size:Int))=last:=by rw[hlast];rw[aa3];simp;omega
   have hlv2:(q:Int)=(T.size:Int)↔last=true:=by rw[hlast];simp;omega
   have HLA:Hid (last=decide (q=T.size)):=hlast;have hS:True:=trivial;have hsp:=lv.split wr.drew p q W (lv.drew _ _ hJ) (HW.out.drewN 1) hq1 hq2 hq3 HQ.out;have hqi:(q:Int)<=(T.size:Int):=by omega
   have Y9:(p:Int)<=(q:Int):=by omega
   have hbd:Below w.heap.size w wr.drew:=hbe.drew;clear hq Vs hlast hJ hp hsz HW hbe;go_wp2_with fail;refine aE (fun _=>True) 999 ?_;generalize wr.drew=v0 at *;refine am [0,1,2,3] ?_
   iterate 4 (refine ay hS ?_;try simp only[Act.put])
   refine aj ?_;refine ly 4 (v:=.string (T.extract p q)) ?_ hS ?_
   ·intro w hSw;(try dsimp only at hSw);go_simp;try with_reducible rfl
   simp only[Act.put];refine am [5,6,7] ?_
   iterate 3 (refine ay hS ?_;try simp only[Act.put])
   refine aj ?_;refine am [9,10] ?_
   iterate 2 (refine ay hS ?_;try simp only[Act.put])
   refine aj ?_;refine ai 8 fun K hK=>?_;go_simp;refine hsp.mono ?_;rintro e v1 ⟨Wj,rfl,hr1,hw1,hb1⟩;refine hK _ _ (fun _=>trivial) ?_;clear hK K hsp;have hpl:=lv.Kt v1 p q Wj W last hr1 hw1 hWl.out hq1 hq2 hq3;refine ai 11 fun K hK=>?_;go_simp;refine hpl.mono ?_;rintro e v2 ⟨pv,rfl,C,po,hC⟩;have HC:Hid (1<=level->Rf.Gc T.data.toList per->per<=32768->C<=Oq per q p+7):=hC;clear hC;refine hK _ _ (fun _=>trivial) ?_;clear hK K hpl;refine ai 12 fun K hK=>?_;go_simp;refine hK _ _ (fun _=>trivial) ?_;clear hK K;refine ar ?_;obtain⟨⟨x0,RJ,hown,hx0,hall,hrl,hfx⟩,Nd⟩:=po
   have HFX:Hid (1<=level->∃y∈x0::RJ,y.1=W.length+3+C):=fun h=>by
    obtain⟨y,hy,he⟩:=hfx h;exact⟨y,abN _ hy,he⟩
   clear hfx
   obtain⟨g,cap,hpv⟩:∃g cap,pv=.slice (some ⟨g,0,none⟩) (x0::RJ).length cap:=by
    rcases hown.2 with⟨_,h0⟩|⟨g,cap,cur,hv,_⟩
    ·simp at h0
    ·exact⟨g,cap,hv⟩
   subst hpv;have hmn:=Tp g cap (x0::RJ).length (x0::RJ) v2 rfl (by simp) (by simp only[aao];omega) (hown.lt g rfl).2 (fun j hj=>IV hown rfl j hj);have hw2:=hw1.below Nd;have hr2:=lv.below v1 v2 p q Wj hr1 Nd;have Vt:((x0::RJ).getD 0 (0,0,#[])).1=x0.1:=rfl;rw[Vt,hx0]at hmn;have Za:Below w.heap.size w v2:=hbd.trans (hb1.trans (Nd.mono (aaI hw1.lt)));clear hown hx0 Vt hr1 hw1 hb1 Nd hbd;generalize (x0::RJ).length=nn at *;go_wp2_with fail;refine hmn.mono ?_;rintro e v3 ⟨x,hx,rfl,⟨hle,hmin⟩,hb3⟩
   have HCO:Hid (1<=level->Rf.Gc T.data.toList per->per<=32768->x.1<=W.length+3+(Oq per q p+7)):=fun a b c=>by
    obtain⟨y,hy,he⟩:=HFX.out a;have h1:=hmin y hy;have h2:=HC.out a b c;omega
   clear hmin HFX HC;obtain⟨hpn,_⟩:=hall x hx;have hcl:=hpn.call;have hdo:=hpn.does v3 (Kq.aJ hb3) (hw2.below hb3);have hr3:=lv.below v2 v3 p q Wj hr2 hb3;have BB3:Below w.heap.size w v3:=Za.trans (hb3.mono Za.size);clear hmn hall hx hpn hr2 hw2 Za hb3;obtain⟨xE,xf,xc⟩:=x;simp only at hcl hdo hle;have aeW:∀u:World,(Instr.field 188 (Tl (xE,xf,xc)) 1).run Tryz.prog u=.ok (.func (.func xf) #[] xc) u:=fun u=>by kernel_rfl
   go_wp2_with fail;refine hdo.mono ?_;rintro e v4 ⟨rfl,kk,Bk,hkk,hw4,hlen,hbr,f4⟩;have JG:Hid (aB v4 w.heap.size (W++(uN last kk++Bk))):=hw4;have HF4:Hid (Nb T level per J v4 (p+65535) (k+1) (W++(uN last kk++Bk)) (ks++[(kk:Int)]) last):=Kw HF.out HK.out HQ.out last HLA.out (by have:=HL.out;omega) hlen hle HCO.out hbr (lv.next v3 v4 p q Wj hr3 f4)
   have Zb:Hid (∀x∈ks++[(kk:Int)],0<=x/\x<=(level:Int)):=fun x hx=>by
    rcases aa8.1 hx with q|q
    ·exact Vr.out x q
    ·rw[abf.1 q];omega
   have BB4:Below w.heap.size w v4:=BB3.trans f4.below;have HK4:Hid (p+65535=65535*(k+1)):=by show _=_;have:=HK.out;omega
   have hpp:p+65535<=T.size+65535:=by omega
   clear hdo hcl hw4 hlen hbr f4 hr3 BB3 hle hkk HF Vr HK hWl hq1 hq2 hq3 hqi Y9 hmin hlv hlv2 HLA HQ;go_wp2
   go_roundw
   case rel=>exact⟨p+65535,k+1,last,_,_,by rw[HPE.out],rfl,HK4,hpp,JG,Zb,HF4,BB4⟩
   case measure=>rw[HPE.out];simp[intOf];omega
  ·obtain⟨pv,P,hwr⟩:=HW.out;obtain⟨c0,c1,fz⟩:=hwr.cells;have hcv:=dI hwr.own rfl;have HH:Hid (_/\_):=⟨hwr.hold,HF.out⟩
   have hBl:=hwr.lt;clear hwr HW HF lv hcall;go_wp2
   go_ret
   exact⟨⟨P.toArray⟩,W,ks,rfl,by simpa using HH.out.1,HH.out.2.1,HH.out.2.2.1,Vr.out,fun h=>⟨per,HPO.out h,HH.out.2.2.2 h⟩,hbe⟩
end
section
open Go.RowKit
theorem AB (l:List UInt8):0<=Mx.eg l/\Mx.eg l<4294967296:=by
 have h1:=Mx.mW l;have h2:=Mx.mX l;unfold Mx.eg;omega
theorem Ov (T:ByteArray)(level:Nat)(w:World)(hl:level<=2)(hT:T.size<=4500000): Calls Tryz.prog 61 #[.string T,.int .i64 level] w fun e w'=>∃(P:ByteArray) (W ks:List Int),e=.returned (.string (bU P T))/\Rf.Holds P.data.toList W/\Rf.Whole T.data.toList T.data.toList.length W ks/\(W.length+7)/8<=T.size+5+5*(T.size/65535)/\(∀x∈ks,0<=x/\x<=(level:Int))/\Below w.heap.size w w':=by
 have hby:=Nc T level w hl hT;have had:=fun v=>PO T v (by unfold maxLen;omega);obtain⟨a,ha⟩:∃a:Nat,Mx.eg T.data.toList=(a:Int):=⟨(Mx.eg T.data.toList).toNat,by have:=AB T.data.toList;omega⟩
 have hfo:=fun v=>py a v (by have:=AB T.data.toList;omega);have HT:Hid (T.size<=4500000):=hT;have HA:Hid (bU=fun P b=>(⟨#[120,156]⟩++P)++⟨(four (Mx.eg b.data.toList)).toArray⟩):=rfl;rw[ha]at had;have HAA:Hid (Mx.eg T.data.toList=(a:Int)):=ha;clear hl hT ha
 go_enter Tryz.func61,Tryz.ntmps61
 go_wp2_with fail;refine hby.mono ?_;rintro e w1 ⟨P,W,ks,rfl,h1,h2,h3,h4,-,h5⟩;have Nx:P.data.toList.length=P.size:=by rw[aaN];rfl
 have Ou:=h1.1;have hps:P.size<=4600000:=by have:=HT.out;omega
 have hc1:(2+P.size:Nat)<=maxLen:=by unfold maxLen;omega
 have HH:Hid (_/\_/\_/\_/\_):=⟨h1,h2,h3,h4,h5⟩
 clear h1 h2 h3 h4 Nx Ou hby;go_wp2_with fail;refine (had _).mono ?_;rintro e w2 ⟨rfl,rfl⟩;go_wp2_with fail;refine (hfo _).mono ?_;rintro e w3 ⟨rfl,h6⟩;have AY:(four (a:Int)).length=4:=rfl;go_wp2
 go_ret
 refine⟨P,W,ks,?_,HH.out.1,HH.out.2.1,HH.out.2.2.1,HH.out.2.2.2.1,h5.trans (h6.mono h5.size)⟩;rw[HA.out];simp only;rw[HAA.out];rfl
end
end Go.Proofs.YtmfijackgekioaaGreatDoor
