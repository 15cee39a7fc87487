import Derived.Test.YtmfijackgekioaaGreatDoorQ28
import Derived.Test.YtmfijackgekioaaGreatDoorQ45
set_option maxHeartbeats 8000000
set_option maxRecDepth 100000
namespace Go.Proofs.YtmfijackgekioaaGreatDoor
section
open Go.RowKit
theorem OC (a b:List UInt8)(j:Nat)(h:j<8*a.length):(Mx.low (a++b)).getD j 0=(Mx.low a).getD j 0:=by
 rw[ot,ot];have:j/8<a.length:=by omega
 rw[List.getD_eq_getElem?_getD,List.getD_eq_getElem?_getD,List.getElem?_append_left this]
theorem OD {P R:List UInt8}{W:List Int}(h:Rf.Holds P W):Rf.At (Mx.low (P++R)) 0 W:=by
 have hl:=h.1;obtain⟨h1,h2⟩:=Rf.QY h;refine⟨by rw[Mx.om,List.length_append];omega,fun j hj=>?_⟩;rw[<-h2 j hj,Nat.zero_add];exact OC P R j (by omega)
def dr (P b:ByteArray):ByteArray:=(⟨#[120,156]⟩++P)++⟨(four (Mx.eg b.data.toList)).toArray⟩
theorem gV (P b:ByteArray):(dr P b).data.toList=[120,156]++(P.data.toList++four (Mx.eg b.data.toList)):=by
 simp[dr,ByteArray.data_append]
theorem oX (P b:ByteArray):(dr P b).size=P.size+6:=by
 have h:=congrArg List.length (gV P b);rw[List.length_append,List.length_append]at h;have Yf:(dr P b).data.toList.length=(dr P b).data.size:=Array.length_toList;have e2':P.data.toList.length=P.data.size:=Array.length_toList;have e1:(dr P b).data.size=(dr P b).size:=rfl;have e2:P.data.size=P.size:=rfl;have e3:(four (Mx.eg b.data.toList)).length=4:=rfl;have e4:([120,156]:List UInt8).length=2:=rfl;omega
theorem H4 (P b:ByteArray):((dr P b).extract 2 (dr P b).size).data.toList=P.data.toList++four (Mx.eg b.data.toList):=by
 rw[ByteArray.data_extract,Array.toList_extract,List.extract_eq_take_drop,gV,List.drop_append_of_le_length (by simp)];have hz:=oX P b;have e:P.data.toList.length=P.size:=by rw[Array.length_toList];rfl
 rw[List.take_of_length_le (by simp[four];omega)];rfl
theorem LW {P b:ByteArray}{W ks:List Int}(hP:Rf.Holds P.data.toList W)(hwh:Rf.Whole b.data.toList b.data.toList.length W ks)(hb:b.size<=4500000)(hW:W.length<=40000000): cX (dr P b) (b.size:Int)=0/\i7 (dr P b) (b.size:Int)=b/\sY (dr P b) (b.size:Int):=by
 have hbl:b.data.toList.length=b.size:=by rw[Array.length_toList];rfl
 have U4:P.data.toList.length=P.size:=by rw[Array.length_toList];rfl
 have hz:=oX P b;have XE:=Rf.Ce hP
 have hm:mid (dr P b) (b.size:Int)=⟨W.length,false,false,b.data.toList,ks⟩:=by
  unfold mid;show Rf.inflate (Mx.low ((dr P b).extract 2 (dr P b).size).data.toList) _=_;rw[H4,<-hbl];exact hwh _ (OD hP)
 have h0:ag (dr P b) 0=120:=by unfold ag;rw[gV];rfl
 have h1:ag (dr P b) 1=156:=by unfold ag;rw[gV];rfl
 have hd:(dr P b).data.toList.drop ((W.length+7)/8+2)=four (Mx.eg b.data.toList):=by
  rw[gV,XE,<-List.append_assoc,List.drop_append];have e:P.data.toList.length+2-([120,156]++P.data.toList).length=0:=by simp
  rw[e,List.drop_of_length_le (by simp),List.nil_append,List.drop_zero]
 have hc:cX (dr P b) (b.size:Int)=0:=by
  unfold cX;rw[hm,h0,h1];rw[if_neg (by rintro (q|q);omega;exact q (by decide)),if_neg (show ¬(false||false)=true by decide),if_neg (by simp only;omega),if_neg (by simp only;rw[hd];simp)]
 refine⟨hc,?_,fun _ _ _=>?_⟩
 ·unfold i7;rw[hc,if_pos rfl,hm]
 ·rw[hm];exact⟨hW,by show _<=_;simp only;omega⟩
end
section
open Go.RowKit Go.Maps
def OE (T:ByteArray)(level per:Nat)(J:World->Nat->Prop)(wr:World)(p k:Nat)(W ks:List Int):Bool->Prop
 | true=>Rf.Whole T.data.toList T.data.toList.length W ks/\(W.length+7)/8<=T.size+5+5*(T.size/65535)/\(1<=level->Rf.Hn T.data.toList per->per<=32768->W.length<=11*per+31+26*(T.size/258)+41*(T.size/65535+1))
 | false=>Rf.vK T.data.toList T.data.toList.length W p k ks/\p<=T.size/\(W.length+7)/8<=p+5*k/\J wr p/\(1<=level->Rf.Hn T.data.toList per->per<=32768->W.length<=if p=0 then 0 else 11*per+31+26*(p/258)+41*k)
theorem LX {T:ByteArray}{level per:Nat}{J:World->Nat->Prop}{wr w':World}{p k q:Nat}{W ks:List Int}(h:OE T level per J wr p k W ks false)(hk:p=65535*k)(hq:q=min (p+65535) T.size)(last:Bool)(hlast:last=decide (q=T.size)){kk:Nat}{Bk:List Int}{E:Nat}(hk3:kk<=2)(hE:W.length+3+Bk.length=E)(hle:E<=(W.length+10)/8*8+32+8*(q-p))(hco:1<=level->Rf.Hn T.data.toList per->per<=32768->E<=W.length+3+(Qf per q p+7))(hb:Rf.jI T.data.toList T.data.toList.length (W.length+3) p q kk Bk)(hJ:J w' q): OE T level per J w' (p+65535) (k+1) (W++(sr last kk++Bk)) (ks++[(kk:Int)]) last:=by
 obtain⟨hs,hp,hsz,_,hcs⟩:=h;have hpq:p<=q/\q<=p+65535:=by omega
 have XG:1<=level->Rf.Hn T.data.toList per->per<=32768->E<=11*per+31+26*(q/258)+41*(k+1):=fun a b c=>by
  have h1:=hco a b c;have h2:=hcs a b c;unfold Qf at h1;by_cases h0:p=0
  ·rw[if_pos h0]at h2;subst h0;split at h1<;>omega
  ·rw[if_neg h0]at h2;rw[if_neg (by omega)]at h1;omega
 have hl:(W++(sr last kk++Bk)).length=E:=by rw[List.length_append,List.length_append,kX];omega
 have QF:T.data.toList.length=T.size:=by rw[Array.length_toList];rfl
 cases last with
 | true =>
  have e:q=T.size:=of_decide_eq_true hlast.symm;refine⟨?_,?_,?_⟩
  ·rw[e,<-QF]at hb;exact Rf.zF hs (by omega) hb
  ·rw[hl];have:k<=T.size/65535:=by omega
   omega
  ·rw[hl];intro a b c;have:=XG a b c;have:k<=T.size/65535:=by omega
   rw[e]at *;omega
 | false =>
  have e:¬q=T.size:=of_decide_eq_false hlast.symm;have e2:q=p+65535:=by omega
  subst e2;refine⟨Rf.zE hs (by omega) hb,by omega,?_,hJ,?_⟩
  ·rw[hl];omega
  ·rw[hl,if_neg (by omega)];exact XG
theorem OG (T:ByteArray)(level:Nat)(w:World)(hl:level<=2)(hT:T.size<=4500000): Calls Tryz.prog 97 #[.string T,.int .i64 level] w fun e w'=>∃(P:ByteArray) (W ks:List Int),e=.returned (.string P)/\Rf.Holds P.data.toList W/\Rf.Whole T.data.toList T.data.toList.length W ks/\(W.length+7)/8<=T.size+5+5*(T.size/65535)/\(∀x∈ks,0<=x/\x<=(level:Int))/\(1<=level->∃per,pV T per/\(Rf.Hn T.data.toList per->per<=32768->W.length<=11*per+31+26*(T.size/258)+41*(T.size/65535+1)))/\Below w.heap.size w w':=by
 have k0:=ae w (.cells #[.slice none 0 0,.int .i64 0] 181);have hw0:aB (w.alloc (.cells #[.slice none 0 0,.int .i64 0] 181)) w.heap.size []:=⟨_,[],ah w _,⟨rfl,.inl ⟨rfl,rfl⟩⟩,rfl,fun j=>by simp[Rf.jw]⟩
 have hst:=LT T level hl hT w.heap.size (w.alloc (.cells #[.slice none 0 0,.int .i64 0] 181)) (by simp)
 go_enter Tryz.func97,Tryz.ntmps97
 go_wp2_with fail;refine hst.mono ?_;rintro e u2 ⟨kf,aN,J,R,per,rfl,lv,hpo,hj0,hb2⟩;have HPO:Hid (1<=level->pV T per):=hpo;clear hpo;have hw2:=hw0.below hb2;have B2:Below w.heap.size w u2:=k0.trans (hb2.mono k0.size);have hcall:=lv.call;have HT:Hid (T.size<=4500000):=hT;have HL:Hid (level<=2):=hl;clear k0 hw0 hst hb2 hT hl;go_wp2
 go_loopw [7,8] (fun sv lv wr=>∃(p k:Nat) (tQ:Bool) (W ks:List Int),sv=.int .i64 p/\lv=.bool tQ/\Hid (p=65535*k)/\p<=T.size+65535/\Hid (aB wr w.heap.size W)/\Hid (∀x∈ks,0<=x/\x<=(level:Int))/\Hid (OE T level per J wr p k W ks tQ)/\Below w.heap.size w wr) (fun sv _ _=>T.size+70000-(intOf sv).toNat)
 case atStart=>exact⟨0,0,false,[],[],rfl,rfl,rfl,by omega,hw2,(fun x hx=>by cases hx),⟨Rf.Cd _ _,Nat.zero_le _,by simp,hj0,fun _ _ _=>by simp⟩,B2⟩
 case round =>
  clear hj0 hw2 B2;obtain⟨p,k,tQ,W,ks,rfl,rfl,HK,Kg,HW,HKS,HF,hbe⟩:=hrel;cases tQ
  ·have hJ:J wr p:=HF.out.2.2.2.1;have hp:=HF.out.2.1;have hsz:=HF.out.2.2.1;obtain⟨q,hq⟩:∃q,min (p+65535) T.size=q:=⟨_,rfl⟩
   obtain⟨pe,hpe⟩:∃pe,IntKind.i64.wrap ((p:Int)+65535)=pe:=⟨_,rfl⟩
   have XH:pe=((p+65535:Nat):Int):=by rw[<-hpe];exact (IntWalk.i64_in _ (by have:=HT.out;omega)).trans (by omega)
   have hmin:min pe (T.size:Int)=(q:Int):=by omega
   have hq1:p<=q:=by omega
   have hq2:q<=p+65535:=by omega
   have hq3:q<=T.size:=by omega
   have HQ:Hid (q=min (p+65535) T.size):=hq.symm;have HPE:Hid (pe=((p+65535:Nat):Int)):=XH;have hWl:Hid (W.length<=80000000):=by have:=HK.out;have:=HT.out;show _<=_;omega
   obtain⟨last,hlast⟩:∃last,last=decide (q=T.size):=⟨_,rfl⟩
   have hlv:((q:Int)==(T.size:Int))=last:=by rw[hlast];rw[Bool.eq_iff_iff];simp;omega
   have hlv2:(q:Int)=(T.size:Int)↔last=true:=by rw[hlast];simp;omega
   have HLA:Hid (last=decide (q=T.size)):=hlast;have hS:True:=trivial;have hsp:=lv.split wr.drew p q W (lv.drew _ _ hJ) (HW.out.drewN 1) hq1 hq2 hq3 HQ.out;have hqi:(q:Int)<=(T.size:Int):=by omega
   have abz:(p:Int)<=(q:Int):=by omega
   have hbd:Below w.heap.size w wr.drew:=hbe.drew;clear hq XH hlast hJ hp hsz HW hbe;go_wp2_with fail;refine ax (by kernel_rfl) (fun _=>True) 999 ?_;generalize wr.drew=v0 at *;refine ap [0,1,2,3] ?_
   iterate 4 (refine ar (v:=?_) rfl (by kernel_rfl) (fun _ _ _ h=>h) ?_ hS ?_;rotate_left;(·intro w hSw;(try dsimp only at hSw);go_simp;try with_reducible rfl);try simp only[Act.put])
   refine ai ?_;refine aw (i:=4) (v:=.string (T.extract p q)) rfl (by kernel_rfl) (by kernel_rfl) (by kernel_rfl) (by kernel_rfl) (fun _ _ _ h=>h) (by kernel_rfl) ?_ hS ?_
   ·intro w hSw;(try dsimp only at hSw);go_simp;try with_reducible rfl
   simp only[Act.put];refine ap [5,6,7] ?_
   iterate 3 (refine ar (v:=?_) rfl (by kernel_rfl) (fun _ _ _ h=>h) ?_ hS ?_;rotate_left;(·intro w hSw;(try dsimp only at hSw);go_simp;try with_reducible rfl);try simp only[Act.put])
   refine ai ?_;refine ap [9,10] ?_
   iterate 2 (refine ar (v:=?_) rfl (by kernel_rfl) (fun _ _ _ h=>h) ?_ hS ?_;rotate_left;(·intro w hSw;(try dsimp only at hSw);go_simp;try with_reducible rfl);try simp only[Act.put])
   refine ai ?_;refine af (i:=8) (by kernel_rfl) rfl (fun K hK=>?_);go_simp;refine hsp.mono ?_;rintro e v1 ⟨YW,rfl,hr1,hw1,hb1⟩;refine hK _ _ (fun _=>trivial) ?_;clear hK K hsp;have hpl:=lv.LS v1 p q YW W last hr1 hw1 hWl.out hq1 hq2 hq3;refine af (i:=11) (by kernel_rfl) rfl (fun K hK=>?_);go_simp;refine hpl.mono ?_;rintro e v2 ⟨pv,rfl,C,po,hC⟩;have HC:Hid (1<=level->Rf.Hn T.data.toList per->per<=32768->C<=Qf per q p+7):=hC;clear hC;refine hK _ _ (fun _=>trivial) ?_;clear hK K hpl;refine af (i:=12) (by kernel_rfl) rfl (fun K hK=>?_);go_simp;refine hK _ _ (fun _=>trivial) ?_;clear hK K;refine ak (by kernel_rfl) ?_ _;obtain⟨⟨x0,Uo,hown,hx0,hall,hrl,hfx⟩,OH⟩:=po
   have HFX:Hid (1<=level->∃y∈x0::Uo,y.1=W.length+3+C):=fun h=>by
    obtain⟨y,hy,he⟩:=hfx h;exact⟨y,List.mem_cons_of_mem _ hy,he⟩
   clear hfx
   obtain⟨g,cap,hpv⟩:∃g cap,pv=.slice (some ⟨g,0,none⟩) (x0::Uo).length cap:=by
    rcases hown.2 with⟨_,h0⟩|⟨g,cap,cur,hv,_⟩
    ·simp at h0
    ·exact⟨g,cap,hv⟩
   subst hpv;have hmn:=VR g cap (x0::Uo).length (x0::Uo) v2 rfl (by simp) (by simp only[List.length_cons];omega) (hown.lt g rfl).2 (fun j hj=>J8 hown rfl j hj);have hw2:=hw1.below OH;have hr2:=lv.below v1 v2 p q YW hr1 OH;have XI:((x0::Uo).getD 0 (0,0,#[])).1=x0.1:=rfl;rw[XI,hx0]at hmn;have BB2:Below w.heap.size w v2:=hbd.trans (hb1.trans (OH.mono (Nat.le_of_lt hw1.lt)));clear hown hx0 XI hr1 hw1 hb1 OH hbd;generalize (x0::Uo).length=nn at *;go_wp2_with fail;refine hmn.mono ?_;rintro e v3 ⟨x,hx,rfl,⟨hle,hmin⟩,hb3⟩
   have HCO:Hid (1<=level->Rf.Hn T.data.toList per->per<=32768->x.1<=W.length+3+(Qf per q p+7)):=fun a b c=>by
    obtain⟨y,hy,he⟩:=HFX.out a;have h1:=hmin y hy;have h2:=HC.out a b c;omega
   clear hmin HFX HC;obtain⟨hpn,_⟩:=hall x hx;have hcl:=hpn.call;have hdo:=hpn.does v3 (Kq.aG hb3) (hw2.below hb3);have hr3:=lv.below v2 v3 p q YW hr2 hb3;have BB3:Below w.heap.size w v3:=BB2.trans (hb3.mono BB2.size);clear hmn hall hx hpn hr2 hw2 BB2 hb3;obtain⟨xE,xf,xc⟩:=x;simp only at hcl hdo hle;have ahl:∀u:World,(Instr.field 188 (VO (xE,xf,xc)) 1).run Tryz.prog u=.ok (.func (.func xf) #[] xc) u:=fun u=>by kernel_rfl
   go_wp2_with fail;refine hdo.mono ?_;rintro e v4 ⟨rfl,kk,Bk,hkk,hw4,hlen,hbr,f4⟩;have HW4:Hid (aB v4 w.heap.size (W++(sr last kk++Bk))):=hw4;have HF4:Hid (OE T level per J v4 (p+65535) (k+1) (W++(sr last kk++Bk)) (ks++[(kk:Int)]) last):=LX HF.out HK.out HQ.out last HLA.out (by have:=HL.out;omega) hlen hle HCO.out hbr (lv.next v3 v4 p q YW hr3 f4)
   have abB:Hid (∀x∈ks++[(kk:Int)],0<=x/\x<=(level:Int)):=fun x hx=>by
    rcases List.mem_append.1 hx with q|q
    ·exact HKS.out x q
    ·rw[List.mem_singleton.1 q];omega
   have BB4:Below w.heap.size w v4:=BB3.trans f4.below;have HK4:Hid (p+65535=65535*(k+1)):=by show _=_;have:=HK.out;omega
   have hpp:p+65535<=T.size+65535:=by omega
   clear hdo hcl hw4 hlen hbr f4 hr3 BB3 hle hkk HF HKS HK hWl hq1 hq2 hq3 hqi abz hmin hlv hlv2 HLA HQ;go_wp2
   go_roundw
   case rel=>exact⟨p+65535,k+1,last,_,_,by rw[HPE.out],rfl,HK4,hpp,HW4,abB,HF4,BB4⟩
   case measure=>rw[HPE.out];simp[intOf];omega
  ·obtain⟨pv,P,hwr⟩:=HW.out;obtain⟨c0,c1,fz⟩:=hwr.cells;have hcv:=fH hwr.own rfl;have HH:Hid (_/\_):=⟨hwr.hold,HF.out⟩
   have hBl:=hwr.lt;clear hwr HW HF lv hcall;go_wp2
   go_ret
   exact⟨⟨P.toArray⟩,W,ks,rfl,by simpa using HH.out.1,HH.out.2.1,HH.out.2.2.1,HKS.out,fun h=>⟨per,HPO.out h,HH.out.2.2.2 h⟩,hbe⟩
end
section
open Go.RowKit
theorem Bb (l:List UInt8):0<=Mx.eg l/\Mx.eg l<4294967296:=by
 have h1:=Mx.qc l;have h2:=Mx.qd l;unfold Mx.eg;omega
theorem Qh (T:ByteArray)(level:Nat)(w:World)(hl:level<=2)(hT:T.size<=4500000): Calls Tryz.prog 61 #[.string T,.int .i64 level] w fun e w'=>∃(P:ByteArray) (W ks:List Int),e=.returned (.string (dr P T))/\Rf.Holds P.data.toList W/\Rf.Whole T.data.toList T.data.toList.length W ks/\(W.length+7)/8<=T.size+5+5*(T.size/65535)/\(∀x∈ks,0<=x/\x<=(level:Int))/\Below w.heap.size w w':=by
 have hby:=OG T level w hl hT;have had:=fun v=>Jp T v (by unfold maxLen;omega);obtain⟨a,ha⟩:∃a:Nat,Mx.eg T.data.toList=(a:Int):=⟨(Mx.eg T.data.toList).toNat,by have:=Bb T.data.toList;omega⟩
 have hfo:=fun v=>pK a v (by have:=Bb T.data.toList;omega);have HT:Hid (T.size<=4500000):=hT;have HA:Hid (dr=fun P b=>(⟨#[120,156]⟩++P)++⟨(four (Mx.eg b.data.toList)).toArray⟩):=rfl;rw[ha]at had;have HAA:Hid (Mx.eg T.data.toList=(a:Int)):=ha;clear hl hT ha
 go_enter Tryz.func61,Tryz.ntmps61
 go_wp2_with fail;refine hby.mono ?_;rintro e w1 ⟨P,W,ks,rfl,h1,h2,h3,h4,-,h5⟩;have U4:P.data.toList.length=P.size:=by rw[Array.length_toList];rfl
 have XE:=h1.1;have hps:P.size<=4600000:=by have:=HT.out;omega
 have hc1:(2+P.size:Nat)<=maxLen:=by unfold maxLen;omega
 have HH:Hid (_/\_/\_/\_/\_):=⟨h1,h2,h3,h4,h5⟩
 clear h1 h2 h3 h4 U4 XE hby;go_wp2_with fail;refine (had _).mono ?_;rintro e w2 ⟨rfl,rfl⟩;go_wp2_with fail;refine (hfo _).mono ?_;rintro e w3 ⟨rfl,h6⟩;have Iq:(four (a:Int)).length=4:=rfl;go_wp2
 go_ret
 refine⟨P,W,ks,?_,HH.out.1,HH.out.2.1,HH.out.2.2.1,HH.out.2.2.2.1,h5.trans (h6.mono h5.size)⟩;rw[HA.out];simp only;rw[HAA.out];rfl
end
end Go.Proofs.YtmfijackgekioaaGreatDoor
