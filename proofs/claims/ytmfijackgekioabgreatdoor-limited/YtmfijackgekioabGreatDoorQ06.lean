import Derived.Test.YtmfijackgekioabGreatDoorQ05
import Derived.Deep.AppendLies
set_option maxHeartbeats 4000000
set_option maxRecDepth 100000
namespace Go.Proofs.YtmfijackgekioabGreatDoor
section
open Go.RowKit
def lb (x:Int):Int:=if x=285 then 258 else if x-257<8 then x-257+3 else (4+(x-257)%4)*2^((x-257)/4-1).toNat+3
def wK (x:Int):Nat:=if x=285 then 0 else if x-257<8 then 0 else ((x-257)/4-1).toNat
def db (x:Int):Int:=if x<4 then x+1 else (2+x%2)*2^(x/2-1).toNat+1
def de (x:Int):Nat:=if x<4 then 0 else (x/2-1).toNat
theorem JQ (x:Int)(w:World)(h1:257<=x)(h2:x<=285): Calls Tryz.prog 110 #[.int .i64 x] w fun e w'=>e=.returned (.tuple #[.int .i64 (lb x),.int .i64 (wK x)])/\w'=w:=by
 have h:x=257\/x=258\/x=259\/x=260\/x=261\/x=262\/x=263\/x=264\/x=265\/x=266\/x=267\/x=268\/x=269\/x=270\/x=271\/x=272\/x=273\/x=274\/x=275\/x=276\/x=277\/x=278\/x=279\/x=280\/x=281\/x=282\/x=283\/x=284\/x=285:=by omega
 rcases h with rfl|rfl|rfl|rfl|rfl|rfl|rfl|rfl|rfl|rfl|rfl|rfl|rfl|rfl|rfl|rfl|rfl|rfl|rfl|rfl|rfl|rfl|rfl|rfl|rfl|rfl|rfl|rfl|rfl
 all_goals
  go_enter Tryz.func110,Tryz.ntmps110
  go_wp2
  go_ret2
  exact⟨rfl,rfl⟩
theorem ET (x:Int)(w:World)(h1:0<=x)(h2:x<=29): Calls Tryz.prog 111 #[.int .i64 x] w fun e w'=>e=.returned (.tuple #[.int .i64 (db x),.int .i64 (de x)])/\w'=w:=by
 have h:x=0\/x=1\/x=2\/x=3\/x=4\/x=5\/x=6\/x=7\/x=8\/x=9\/x=10\/x=11\/x=12\/x=13\/x=14\/x=15\/x=16\/x=17\/x=18\/x=19\/x=20\/x=21\/x=22\/x=23\/x=24\/x=25\/x=26\/x=27\/x=28\/x=29:=by omega
 rcases h with rfl|rfl|rfl|rfl|rfl|rfl|rfl|rfl|rfl|rfl|rfl|rfl|rfl|rfl|rfl|rfl|rfl|rfl|rfl|rfl|rfl|rfl|rfl|rfl|rfl|rfl|rfl|rfl|rfl|rfl
 all_goals
  go_enter Tryz.func111,Tryz.ntmps111
  go_wp2
  go_ret2
  exact⟨rfl,rfl⟩
theorem JR (x:Int)(h1:257<=x)(h2:x<=285):3<=lb x/\lb x<=258/\wK x<=5:=by
 have h:x=257\/x=258\/x=259\/x=260\/x=261\/x=262\/x=263\/x=264\/x=265\/x=266\/x=267\/x=268\/x=269\/x=270\/x=271\/x=272\/x=273\/x=274\/x=275\/x=276\/x=277\/x=278\/x=279\/x=280\/x=281\/x=282\/x=283\/x=284\/x=285:=by omega
 rcases h with rfl|rfl|rfl|rfl|rfl|rfl|rfl|rfl|rfl|rfl|rfl|rfl|rfl|rfl|rfl|rfl|rfl|rfl|rfl|rfl|rfl|rfl|rfl|rfl|rfl|rfl|rfl|rfl|rfl
 all_goals decide
theorem Ah (x:Int)(h1:0<=x)(h2:x<=29):1<=db x/\db x<=24577/\de x<=13:=by
 have h:x=0\/x=1\/x=2\/x=3\/x=4\/x=5\/x=6\/x=7\/x=8\/x=9\/x=10\/x=11\/x=12\/x=13\/x=14\/x=15\/x=16\/x=17\/x=18\/x=19\/x=20\/x=21\/x=22\/x=23\/x=24\/x=25\/x=26\/x=27\/x=28\/x=29:=by omega
 rcases h with rfl|rfl|rfl|rfl|rfl|rfl|rfl|rfl|rfl|rfl|rfl|rfl|rfl|rfl|rfl|rfl|rfl|rfl|rfl|rfl|rfl|rfl|rfl|rfl|rfl|rfl|rfl|rfl|rfl|rfl
 all_goals decide
theorem take_zero (L:List Int)(st:Rf.St)(hp:st.pos<=L.length):Rf.take L st 0=(0,st):=by
 rw[Rf.take,aag (by omega)];rfl
theorem Ai (L:List Int)(x:Int)(h1:257<=x)(h2:x<=285)(st:Rf.St)(hp:st.pos<=L.length):Rf.lenOf L (x-257).toNat st=((lb x).toNat+(Rf.take L st (wK x)).1.toNat,(Rf.take L st (wK x)).2):=by
 obtain⟨i,rfl⟩:∃i:Nat,x=(i:Int)+257:=⟨(x-257).toNat,by omega⟩
 have e0:((i:Int)+257-257).toNat=i:=by omega
 rw[e0];by_cases JS:i=28
 ·subst JS;have a:lb (((28:Nat):Int)+257)=258:=by decide
  have b:wK (((28:Nat):Int)+257)=0:=by decide
  rw[a,b,take_zero L st hp,Rf.lenOf,aai rfl];rfl
 ·by_cases h8:8<=i
  ·have e1:(((i:Int)+257-257)/4-1).toNat=i/4-1:=by omega
   have e2:((i:Int)+257-257)%4=((i%4:Nat):Int):=by omega
   have a:lb ((i:Int)+257)=(((4+i%4)*2^(i/4-1)+3:Nat):Int):=by
    unfold lb;rw[aag (by omega),aag (by omega),e1,e2];simp
   have b:wK ((i:Int)+257)=i/4-1:=by unfold wK;rw[aag (by omega),aag (by omega),e1]
   rw[a,b,Rf.lenOf,aag JS,aai h8];rfl
  ·have a:lb ((i:Int)+257)=((i+3:Nat):Int):=by unfold lb;rw[aag (by omega),aai (by omega)];omega
   have b:wK ((i:Int)+257)=0:=by unfold wK;rw[aag (by omega),aai (by omega)]
   rw[a,b,take_zero L st hp,Rf.lenOf,aag JS,aag h8];rfl
theorem qN (L:List Int)(x:Int)(h1:0<=x)(st:Rf.St)(hp:st.pos<=L.length):Rf.cm L x.toNat st=((db x).toNat+(Rf.take L st (de x)).1.toNat,(Rf.take L st (de x)).2):=by
 obtain⟨i,rfl⟩:∃i:Nat,x=(i:Int):=⟨x.toNat,by omega⟩
 have e0:((i:Int)).toNat=i:=by omega
 rw[e0,Rf.cm];unfold db de;by_cases h8:4<=i
 ·rw[aai h8,aag (by omega),aag (by omega)];have e1:((i:Int)/2-1).toNat=i/2-1:=by omega
  have e2:(i:Int)%2=((i%2:Nat):Int):=by omega
  rw[e1,e2]
  have e3:((2+((i%2:Nat):Int))*2^(i/2-1)+1).toNat=(2+i%2)*2^(i/2-1)+1:=by
   have:((2+((i%2:Nat):Int))*2^(i/2-1)+1)=(((2+i%2)*2^(i/2-1)+1:Nat):Int):=by simp
   rw[this];rfl
  rw[e3]
 ·rw[aag h8,aai (by omega),aai (by omega),take_zero L st hp];have:((i:Int)+1).toNat=i+1:=by omega
  rw[this];rfl
theorem RC (x:Int)(s:ByteArray)(R:Nat)(st:Rf.St)(w:World)(h1:257<=x)(h2:x<=285)(hr:Rd w R s st.pos)(hs:s.size<=5000000)(hp:st.pos<=8*s.size)(hb:st.bad=false): Calls Tryz.prog 109 #[.pointer (some ⟨R,0,none⟩),.func (.func 110) #[] #[],.int .i64 x] w fun e w' =>
   ((Rf.lenOf (lw s) (x-257).toNat st).2.bad=false/\e=.returned (.int .i64 (Rf.lenOf (lw s) (x-257).toNat st).1)/\Rd w' R s (Rf.lenOf (lw s) (x-257).toNat st).2.pos/\Kp (·=R) w w') \/
   ((Rf.lenOf (lw s) (x-257).toNat st).2.bad=true/\e=dies 6/\Kp (·=R) w w'):=by
 have hrg:=JR x h1 h2;rw[Ai (lw s) x h1 h2 st (by rw[aw];exact hp)];simp only;have HT:=Rf.take_range (cR s) st (wK x);have cH:=dS (wK x) s R st w hr hs hp hb (by omega);have hc:=JQ x w h1 h2;have hpw:=n9 (wK x) (by omega);have HTr:0<=(Rf.take (lw s) st (wK x)).1/\(Rf.take (lw s) st (wK x)).1<=32768:=by omega
 generalize Rf.take (lw s) st (wK x)=T at *;obtain⟨t,st1⟩:=T;simp only at *;obtain⟨L,hL⟩:∃L:Int,L=lb x:=⟨_,rfl⟩
 obtain⟨E,hE⟩:∃E:Nat,E=wK x:=⟨_,rfl⟩
 rw[<-hL,<-hE]at hc;rw[<-hE]at cH;rw[<-hL]at hrg;have HL:Hid (L=lb x):=hL;clear hL hE HT hpw
 go_enter Tryz.func109,Tryz.ntmps109
 go_wp2_with fail;refine hc.mono ?_;rintro e w1 ⟨rfl,rfl⟩;go_wp2_with fail;refine cH.mono ?_;rintro e w2 (⟨q1,rfl,q2,q3⟩|⟨q1,rfl,q3⟩)
 ·go_wp2
  go_ret
  exact .inl ⟨q1,aK (by rw[<-HL.out];omega),q2,q3⟩
 ·go_wp2;exact⟨rfl,.inr ⟨q1,rfl,q3⟩⟩
theorem Nr (x:Int)(s:ByteArray)(R:Nat)(st:Rf.St)(w:World)(h1:0<=x)(h2:x<=29)(hr:Rd w R s st.pos)(hs:s.size<=5000000)(hp:st.pos<=8*s.size)(hb:st.bad=false): Calls Tryz.prog 109 #[.pointer (some ⟨R,0,none⟩),.func (.func 111) #[] #[],.int .i64 x] w fun e w' =>
   ((Rf.cm (lw s) x.toNat st).2.bad=false/\e=.returned (.int .i64 (Rf.cm (lw s) x.toNat st).1)/\Rd w' R s (Rf.cm (lw s) x.toNat st).2.pos/\Kp (·=R) w w') \/
   ((Rf.cm (lw s) x.toNat st).2.bad=true/\e=dies 6/\Kp (·=R) w w'):=by
 have hrg:=Ah x h1 h2;rw[qN (lw s) x h1 st (by rw[aw];exact hp)];simp only;have HT:=Rf.take_range (cR s) st (de x);have cH:=dS (de x) s R st w hr hs hp hb (by omega);have hc:=ET x w h1 h2;have hpw:=n9 (de x) (by omega);have HTr:0<=(Rf.take (lw s) st (de x)).1/\(Rf.take (lw s) st (de x)).1<=32768:=by omega
 generalize Rf.take (lw s) st (de x)=T at *;obtain⟨t,st1⟩:=T;simp only at *;obtain⟨L,hL⟩:∃L:Int,L=db x:=⟨_,rfl⟩
 obtain⟨E,hE⟩:∃E:Nat,E=de x:=⟨_,rfl⟩
 rw[<-hL,<-hE]at hc;rw[<-hE]at cH;rw[<-hL]at hrg;have HL:Hid (L=db x):=hL;clear hL hE HT hpw
 go_enter Tryz.func109,Tryz.ntmps109
 go_wp2_with fail;refine hc.mono ?_;rintro e w1 ⟨rfl,rfl⟩;go_wp2_with fail;refine cH.mono ?_;rintro e w2 (⟨q1,rfl,q2,q3⟩|⟨q1,rfl,q3⟩)
 ·go_wp2
  go_ret
  exact .inl ⟨q1,aK (by rw[<-HL.out];omega),q2,q3⟩
 ·go_wp2;exact⟨rfl,.inr ⟨q1,rfl,q3⟩⟩
theorem Ns (x:Int)(h1:0<x)(h2:x<=15):((2^(15-x).toNat:Nat))=32768/2^x.toNat:=by
 have e:(15-x).toNat=15-x.toNat:=by omega
 rw[e,show (32768:Nat)=2^15 from rfl,Nat.pow_div (by omega) (by omega)]
theorem CT (ao:Option Addr)(cap:Nat)(ls:List Int)(n:Nat)(w:World)(hn0:ls.length=n)(hn:n<=320)(hint:Ints w ao ls)(hrg:∀j,ls.getD j 0<=15): Calls Tryz.prog 114 #[.slice ao n cap] w fun e w'=>e=.returned (.bool (Rf.full ls))/\w'=w:=by
 go_enter Tryz.func114,Tryz.ntmps114
 go_wp2
 go_loop [3,8] (fun s i=>∃k:Nat,k<=n/\i=.int .i64 k/\s=.int .i64 (Rf.fs ls k)) (fun _ i=>n-(intOf i).toNat)
 case atStart=>exact⟨0,aao _,rfl,rfl⟩
 case round =>
  obtain⟨k,hk,rfl,rfl⟩:=hrel;have hfs:=Rf.Vt ls k;by_cases hlt:k<n
  ·obtain⟨b,off,rfl,hc⟩:=hint k (by omega);obtain⟨x,hx⟩:∃x:Int,x=ls[k]:=⟨_,rfl⟩
   have hx2:ls.getD k 0=x:=by rw[hx];simp[List.getD,List.getElem?_eq_getElem (show k<ls.length by omega)]
   have VF:x<=15:=by rw[<-hx2];exact hrg k
   rw[<-hx]at hc;have HF:Hid (Rf.fs ls (k+1)=Rf.fs ls k+if 0<x then 32768/2^x.toNat else 0):=by show _=_;rw[<-hx2];rfl
   have EU:(Rf.fs ls k:Int)<=10485760:=by omega
   clear hx hx2 hrg hfs;by_cases h0:0<x
   ·obtain⟨y,hy⟩:∃y:Nat,y=32768/2^x.toNat:=⟨_,rfl⟩
    have hyb:y<=32768:=by rw[hy];exact Nat.div_le_self _ _
    have e0:(2:Nat)^(15-x).toNat=y:=by rw[hy,Ns x h0 VF]
    have e1:(2:Int)^(15-x).toNat=(y:Int):=by rw[<-e0];simp
    have e2:(1:Int)*2^(15-x).toNat=(y:Int):=by rw[Int.one_mul];exact e1
    have e3:(0:Int)<=15-x:=by omega
    have HF2:Hid (Rf.fs ls (k+1)=Rf.fs ls k+y):=by show _=_;rw[HF.out,aai h0,<-hy]
    clear hy HF e0;go_wp2
    go_round
    case rel=>exact⟨k+1,by omega,by go_num,by rw[HF2.out];go_num⟩
    case measure=>simp[intOf];omega
   ·have HF2:Hid (Rf.fs ls (k+1)=Rf.fs ls k):=by show _=_;rw[HF.out,aag h0];rfl
    clear HF;go_wp2
    go_round
    case rel=>exact⟨k+1,by omega,by go_num,by rw[HF2.out]⟩
    case measure=>simp[intOf];omega
  ·have hkn:k=n:=by omega
   subst hkn;go_wp2
   go_ret
   refine⟨aO ?_,rfl⟩;rw[Rf.full,hn0,acE];simp;omega
theorem JT (w:World): Calls Tryz.prog 103 #[] w fun e w'=>e=.returned (.slice (some ⟨w.heap.size,0,none⟩) 288 288)/\aS w' w.heap.size Rf.bV/\Below w.heap.size w w':=by
 obtain⟨Z,hZ⟩:∃Z:List Value,Z=List.replicate 288 (.int .i64 0):=⟨_,rfl⟩
 have hmk:∀u:World,(Instr.makeSlice 22 (.int .i64 288) (.int .i64 288)).run Tryz.prog u=.ok (.slice (some ⟨u.heap.size,0,none⟩) 288 288) (u.alloc (.cells Z.toArray 3)):=fun u=>mU 288 (by omega) Z hZ u;have HZ:Hid (Z=vals (part 288 0 Rf.CC)):=by show _=_;rw[hZ,qI,bO]
 clear hZ
 go_enter Tryz.func103,Tryz.ntmps103
 go_wp2
 go_loopw [6] (fun i wr=>∃k:Nat,k<=288/\i=.int .i64 k/\aS wr w.heap.size (part 288 k Rf.CC)/\Below w.heap.size w wr) (fun i _=>288-(intOf i).toNat)
 case atStart=>exact⟨0,aao _,rfl,(ah w _).trans (by rw[HZ.out]),(aav _ _).alloc (aaf _) _⟩
 case round =>
  obtain⟨k,hk,rfl,hl,hb⟩:=hrel;by_cases hlt:k<288
  ·obtain⟨x,c1⟩:∃x,wr.cell? ⟨w.heap.size,k,none⟩=some (.int .i64 x):=⟨_,hl.cell k (by simp;omega)⟩
   have f1:wr.frozen? ⟨w.heap.size,k,none⟩=false:=aaM wr _ _ _ _ hl;obtain⟨y,hy⟩:∃y:Int,y=Rf.CC k:=⟨_,rfl⟩
   have HL:Hid (aS (wr.setCell ⟨w.heap.size,k,none⟩ (.int .i64 y)) w.heap.size (part 288 (k+1) Rf.CC)/\Below w.heap.size w (wr.setCell ⟨w.heap.size,k,none⟩ (.int .i64 y))):=⟨by rw[hy,<-tF];exact hl.set k _,hb.setCell (aaf _) _⟩
   have hd:decide ((k:Int)<288)=true:=by simp;omega
   unfold Rf.CC at hy;by_cases h1:k<144
   ·rw[aai h1]at hy;subst hy;go_wp2
    go_roundw
    case rel=>exact⟨k+1,by omega,by go_num,HL.out.1,HL.out.2⟩
    case measure=>simp[intOf];omega
   ·rw[aag h1]at hy;by_cases h2:k<256
    ·rw[aai h2]at hy;subst hy;go_wp2
     go_roundw
     case rel=>exact⟨k+1,by omega,by go_num,HL.out.1,HL.out.2⟩
     case measure=>simp[intOf];omega
    ·rw[aag h2]at hy;by_cases h3:k<280
     ·rw[aai h3]at hy;subst hy;go_wp2
      go_roundw
      case rel=>exact⟨k+1,by omega,by go_num,HL.out.1,HL.out.2⟩
      case measure=>simp[intOf];omega
     ·rw[aag h3]at hy;subst hy;go_wp2
      go_roundw
      case rel=>exact⟨k+1,by omega,by go_num,HL.out.1,HL.out.2⟩
      case measure=>simp[intOf];omega
  ·have hk2:k=288:=by omega
   subst hk2;go_wp2
   go_ret
   refine⟨rfl,?_,hb⟩;rw[Rf.bV,<-tG];exact hl
def bj:List Int:=(List.range 30).map fun _=>5
theorem JU (w:World): Calls Tryz.prog 104 #[] w fun e w'=>e=.returned (.slice (some ⟨w.heap.size,0,none⟩) 30 30)/\aS w' w.heap.size bj/\Below w.heap.size w w':=by
 obtain⟨Z,hZ⟩:∃Z:List Value,Z=List.replicate 30 (.int .i64 0):=⟨_,rfl⟩
 have hmk:∀u:World,(Instr.makeSlice 22 (.int .i64 30) (.int .i64 30)).run Tryz.prog u=.ok (.slice (some ⟨u.heap.size,0,none⟩) 30 30) (u.alloc (.cells Z.toArray 3)):=fun u=>mU 30 (by omega) Z hZ u;have HZ:Hid (Z=vals (part 30 0 fun _=>5)):=by show _=_;rw[hZ,qI,bO]
 clear hZ
 go_enter Tryz.func104,Tryz.ntmps104
 go_wp2
 go_loopw [6] (fun i wr=>∃k:Nat,k<=30/\i=.int .i64 k/\aS wr w.heap.size (part 30 k fun _=>5)/\Below w.heap.size w wr) (fun i _=>30-(intOf i).toNat)
 case atStart=>exact⟨0,aao _,rfl,(ah w _).trans (by rw[HZ.out]),(aav _ _).alloc (aaf _) _⟩
 case round =>
  obtain⟨k,hk,rfl,hl,hb⟩:=hrel;by_cases hlt:k<30
  ·obtain⟨x,c1⟩:∃x,wr.cell? ⟨w.heap.size,k,none⟩=some (.int .i64 x):=⟨_,hl.cell k (by simp;omega)⟩
   have f1:wr.frozen? ⟨w.heap.size,k,none⟩=false:=aaM wr _ _ _ _ hl;have HL:Hid (aS (wr.setCell ⟨w.heap.size,k,none⟩ (.int .i64 5)) w.heap.size (part 30 (k+1) fun _=>5)/\Below w.heap.size w (wr.setCell ⟨w.heap.size,k,none⟩ (.int .i64 5))):=⟨by rw[<-tF];exact hl.set k _,hb.setCell (aaf _) _⟩
   go_wp2
   go_roundw
   case rel=>exact⟨k+1,by omega,by go_num,HL.out.1,HL.out.2⟩
   case measure=>simp[intOf];omega
  ·have hk2:k=30:=by omega
   subst hk2;go_wp2
   go_ret
   refine⟨rfl,?_,hb⟩;rw[bj,<-tG];exact hl
def cntF (far:List Int):Nat->Nat
 | 0=>0
 | k+1=>cntF far k+if 0<far.getD k 0 then 1 else 0
theorem Nt (far:List Int)(h0:∀j,0<=far.getD j 0):∀k,(cntF far k:Int)<=Rf.fk far k/\(cntF far k=0↔Rf.fk far k=0)/\Rf.mS far k<=cntF far k/\(Rf.fk far k=1->Rf.mS far k=1/\cntF far k=1):=by
 intro k
 induction k with
 | zero=>simp[cntF,Rf.fk,Rf.mS]
 | succ k ih =>
  have:=h0 k;simp only[cntF,Rf.fk,Rf.mS];obtain⟨i1,i2,i3,i4⟩:=ih;by_cases hz:0<far.getD k 0
  ·rw[aai hz];by_cases h1:far.getD k 0=1
   ·rw[aai h1,h1];exact⟨by omega,by omega,by omega,fun h=>by have:=i2.2 (by omega);omega⟩
   ·rw[aag h1];exact⟨by omega,by omega,by omega,fun h=>by omega⟩
  ·rw[aag hz,aag (by omega)];have e:far.getD k 0=0:=by omega
   rw[e];exact⟨by omega,by omega,by omega,fun h=>by have:=i4 (by omega);omega⟩
theorem JV (far:List Int)(h0:∀j,0<=far.getD j 0): (decide (cntF far far.length=0)||(decide (cntF far far.length=1)&&decide (Rf.fk far far.length=1))||Rf.full far)=!(!Rf.full far&&(decide (Rf.fk far far.length≠0)&&(decide (Rf.fk far far.length≠1)||decide (Rf.mS far far.length≠1)))):=by
 have h:=Nt far h0 far.length;obtain⟨i1,i2,i3,i4⟩:=h;cases Rf.full far
 ·by_cases hs:Rf.fk far far.length=0
  ·have:=i2.2 hs;simp[hs,this]
  ·by_cases h1:Rf.fk far far.length=1
   ·have:=i4 h1;simp[h1,this.1,this.2]
   ·have hc:¬cntF far far.length=0:=fun e=>hs (i2.1 e);simp[hs,h1,hc]
 ·simp
def oW (far:List Int):Bool:=!(!Rf.full far&&(decide (Rf.fk far far.length≠0)&&(decide (Rf.fk far far.length≠1)||decide (Rf.mS far far.length≠1))))
theorem Nu (far:List Int)(h0:∀j,0<=far.getD j 0)(h1:∀j,far.getD j 0<=15)(k:Nat):0<=Rf.fk far k/\Rf.fk far k<=15*k/\cntF far k<=k:=by
 induction k with
 | zero=>simp[Rf.fk,cntF]
 | succ k ih =>
  have a:=h0 k;have b:=h1 k;simp only[Rf.fk,cntF];refine⟨by omega,by omega,?_⟩;split<;>omega
theorem VG (ao:Option Addr)(cap:Nat)(far:List Int)(n:Nat)(w:World)(hn0:far.length=n)(hn:n<=320)(hint:Ints w ao far)(h0:∀j,0<=far.getD j 0)(hrg:∀j,far.getD j 0<=15): Calls Tryz.prog 115 #[.slice ao n cap] w fun e w'=>e=.returned (.bool (oW far))/\w'=w:=by
 have hfull:=CT ao cap far n w hn0 hn hint hrg;have HD:Hid (_=oW far):=JV far h0;have HSL:Hid (∀k,0<=Rf.fk far k/\Rf.fk far k<=15*k/\cntF far k<=k):=Nu far h0 hrg
 go_enter Tryz.func115,Tryz.ntmps115
 go_wp2
 go_loop [3,4,9] (fun c s i=>∃k:Nat,k<=n/\i=.int .i64 k/\c=.int .i64 (cntF far k)/\s=.int .i64 (Rf.fk far k)) (fun _ _ i=>n-(intOf i).toNat)
 case atStart=>exact⟨0,aao _,rfl,rfl,rfl⟩
 case round =>
  obtain⟨k,hk,rfl,rfl,rfl⟩:=hrel;obtain⟨s1,s2,s3⟩:=HSL.out k;by_cases hlt:k<n
  ·obtain⟨b,off,rfl,hc⟩:=hint k (by omega);obtain⟨x,hx⟩:∃x:Int,x=far[k]:=⟨_,rfl⟩
   have hx2:far.getD k 0=x:=by rw[hx];simp[List.getD,List.getElem?_eq_getElem (show k<far.length by omega)]
   have VF:x<=15:=by rw[<-hx2];exact hrg k
   have hx0:0<=x:=by rw[<-hx2];exact h0 k
   rw[<-hx]at hc;have HF:Hid (cntF far (k+1)=cntF far k+(if 0<x then 1 else 0)/\Rf.fk far (k+1)=Rf.fk far k+x):=by show _/\_;rw[<-hx2];exact⟨rfl,rfl⟩
   clear hx hx2 hrg h0 hfull hint;by_cases hz:0<x
   ·rw[aai hz]at HF;go_wp2
    go_round
    case rel=>exact⟨k+1,by omega,by go_num,by rw[HF.out.1];go_num,by rw[HF.out.2]⟩
    case measure=>simp[intOf];omega
   ·rw[aag hz]at HF;have hx:x=0:=by omega
    subst hx;go_wp2
    go_round
    case rel=>exact⟨k+1,by omega,by go_num,by rw[HF.out.1];rfl,by rw[HF.out.2];simp⟩
    case measure=>simp[intOf];omega
  ·have hkn:k=n:=by omega
   subst hkn;rw[hn0]at HD;clear hint;by_cases q0:cntF far k=0
   ·have Qf:((cntF far k:Nat):Int)=0:=by omega
    go_wp2
    go_ret
    refine⟨aO ?_,rfl⟩;rw[<-HD.out];simp[q0]
   ·have Qf:¬((cntF far k:Nat):Int)=0:=by omega
    by_cases q1:cntF far k=1
    ·have q1':((cntF far k:Nat):Int)=1:=by omega
     by_cases q2:Rf.fk far k=1
     ·go_wp2
      go_ret
      refine⟨aO ?_,rfl⟩;rw[<-HD.out];simp[q1,q2]
     ·go_wp2_with fail;refine hfull.mono ?_;rintro e w' ⟨rfl,rfl⟩;go_wp2
      go_ret
      refine⟨aO ?_,rfl⟩;rw[<-HD.out];simp[q1,q2]
    ·have q1':¬((cntF far k:Nat):Int)=1:=by omega
     go_wp2_with fail;refine hfull.mono ?_;rintro e w' ⟨rfl,rfl⟩;go_wp2
     go_ret
     refine⟨aO ?_,rfl⟩;rw[<-HD.out];simp[q0,q1]
end
section
open Go.RowKit Go.Maps
abbrev JW (M1 s1 l1 M2 s2 l2:Nat):Value:=.agg #[.map (some M1),.int .u16 s1,.int .u16 l1,.map (some M2),.int .u16 s2,.int .u16 l2]
abbrev Nv (M1 s1 l1 M2 s2 l2:Nat):Array Value:=#[.map (some M1),.int .u16 s1,.int .u16 l1,.map (some M2),.int .u16 s2,.int .u16 l2]
abbrev fx:Array Value:=#[.map none,.int .u16 0,.int .u16 0,.map none,.int .u16 0,.int .u16 0]
theorem gF (n:Nat)(f:Nat->Int)(j:Nat):((List.range n).map f).getD j 0=if j<n then f j else 0:=by
 by_cases h:j<n
 ·simp[List.getD,h]
 ·simp[List.getD,h]
theorem Nw (j:Nat):Rf.bV.getD j 0<=15:=by
 rw[Rf.bV,gF];unfold Rf.CC;repeat' split
 all_goals omega
theorem Nx (j:Nat):bj.getD j 0<=15:=by
 rw[bj,gF];split<;>omega
theorem Ny:Rf.fs Rf.bV Rf.bV.length<=32768:=by decide +kernel
theorem Nz:Rf.fs bj bj.length<=32768:=by decide +kernel
theorem oX {w:World}{T:Nat}{a b c d e f:Value}{t:TypeId}(h:w.heap[T]?=some (.cells #[a,b,c,d,e,f] t (0,0))): w.cell? ⟨T,0,none⟩=some a/\w.cell? ⟨T,1,none⟩=some b/\w.cell? ⟨T,2,none⟩=some c/\w.cell? ⟨T,3,none⟩=some d/\w.cell? ⟨T,4,none⟩=some e/\w.cell? ⟨T,5,none⟩=some f/\(∀j,w.frozen? ⟨T,j,none⟩=false)/\T<w.heap.size :=
 ⟨aas _ _ _ _ _ _ h,aas _ _ _ _ _ _ h,aas _ _ _ _ _ _ h,aas _ _ _ _ _ _ h,aas _ _ _ _ _ _ h,aas _ _ _ _ _ _ h,fun j=>aaM w T j _ _ h,aac h⟩
abbrev RD (w:World)(T:Nat)(a b c d e f:Value):World:=(((((w.setCell ⟨T,0,none⟩ a).setCell ⟨T,1,none⟩ b).setCell ⟨T,2,none⟩ c).setCell ⟨T,3,none⟩ d).setCell ⟨T,4,none⟩ e).setCell ⟨T,5,none⟩ f
theorem sZ (w:World)(T:Nat)(a b c d e f:Value):Kp (·=T) w (RD w T a b c d e f) :=
 ((((((Kp.refl (·=T) w).setCell (p:=⟨T,0,none⟩) (.inl rfl) a).setCell (p:=⟨T,1,none⟩) (.inl rfl) b).setCell (p:=⟨T,2,none⟩) (.inl rfl) c).setCell (p:=⟨T,3,none⟩) (.inl rfl) d).setCell (p:=⟨T,4,none⟩) (.inl rfl) e).setCell (p:=⟨T,5,none⟩) (.inl rfl) f
theorem JX {w:World}{T:Nat}{cs:Array Value}{t:TypeId}(h:w.heap[T]?=some (.cells cs t (0,0)))(hs:cs.size=6)(a b c d e f:Value):(RD w T a b c d e f).heap[T]?=some (.cells #[a,b,c,d,e,f] t (0,0)):=by
 obtain⟨l⟩:=cs
 match l,hs with
 | [x0,x1,x2,x3,x4,x5],_ =>
  exact (aau _ T 5 _ _ f (aau _ T 4 _ _ e (aau _ T 3 _ _ d (aau _ T 2 _ _ c (aau _ T 1 _ _ b (aau w T 0 _ _ a h)))))).trans rfl
theorem Gz (S D:List Int)(w:World)(hS:∀w,Calls Tryz.prog 103 #[] w fun e w'=>e=.returned (.slice (some ⟨w.heap.size,0,none⟩) 288 288)/\aS w' w.heap.size S/\Below w.heap.size w w')(hD:∀w,Calls Tryz.prog 104 #[] w fun e w'=>e=.returned (.slice (some ⟨w.heap.size,0,none⟩) 30 30)/\aS w' w.heap.size D/\Below w.heap.size w w')(lS:S.length=288)(lD:D.length=30)(wS:∀j,S.getD j 0<=15)(wD:∀j,D.getD j 0<=15)(fS:Rf.fs S S.length<=32768)(fD:Rf.fs D D.length<=32768): Calls Tryz.prog 72 #[] w fun e w'=>∃M1 s1 l1 M2 s2 l2,e=.returned (JW M1 s1 l1 M2 s2 l2)/\kF w' M1 s1 l1 S/\kF w' M2 s2 l2 D/\w.heap.size<=M1/\w.heap.size<=M2/\Below w.heap.size w w':=by
 go_enter Tryz.func72,Tryz.ntmps72
 go_wp2_with fail;refine (hS _).mono ?_;rintro e w1 ⟨rfl,l1,b1⟩;simp only[aap]at l1 b1 ⊢;have h1:w.heap.size+1<=w1.heap.size:=by have:=b1.size;simpa using this
 go_wp2_with fail;refine (jq _ 288 S 288 _ lS (by omega) l1.ints (fun a e _=>by cases e;exact aac l1) wS fS).mono ?_;rintro e w2 ⟨M1,s1,lo1,rfl,T1,hM1,b2⟩;have h2:=b2.size;go_wp2_with fail;refine (hD _).mono ?_;rintro e w3 ⟨rfl,l3,b3⟩;have h3:=b3.size;have T1':=T1.below b3 T1.lt;go_wp2_with fail;refine (jq _ 30 D 30 _ lD (by omega) l3.ints (fun a e _=>by cases e;exact aac l3) wD fD).mono ?_;rintro e w4 ⟨M2,s2,lo2,rfl,T2,hM2,b4⟩;have h4:=b4.size
 have hr:w4.heap[w.heap.size]?=some (.cells fx 123 (0,0)) :=
  (b4.block _ (by omega)).trans ((b3.block _ (by omega)).trans ((b2.block _ (by omega)).trans ((b1.block _ (by omega)).trans (ah w _))))
 obtain⟨r0,r1,r2,r3,r4,r5,rz,RA⟩:=oX hr;have HB:Hid (Below w.heap.size w w4):=((((aav _ _).alloc (aaf _) _).trans (b1.mono (by simp))).trans (b2.mono (by omega))).trans ((b3.mono (by omega)).trans (b4.mono (by omega)));have HT1:Hid (kF w4 M1 s1 lo1 S):=T1'.below b4 T1'.lt;have afS:w.heap.size+1<=M1:=by omega
 have afT:w.heap.size+1<=M2:=by omega
 have HT2:Hid (kF w4 M2 s2 lo2 D):=T2;clear l1 l3 b1 b2 b3 b4 T1 T1' T2;go_wp2;have hk:=sZ w4 w.heap.size
 exact aaG (v:=JW M1 s1 lo1 M2 s2 lo2) (by simp[results,Tryz.results72,go_sem,r0,r1,r2,r3,r4,r5]) rfl
  ⟨M1,s1,lo1,M2,s2,lo2,rfl,HT1.out.kept (hk _ _ _ _ _ _) (by omega),HT2.out.kept (hk _ _ _ _ _ _) (by omega),by omega,by omega,HB.out.trans ((hk _ _ _ _ _ _).below (adf RA) (fun k _ h=>by omega))⟩
theorem JY (w:World): Calls Tryz.prog 72 #[] w fun e w'=>∃M1 s1 l1 M2 s2 l2,e=.returned (JW M1 s1 l1 M2 s2 l2)/\kF w' M1 s1 l1 Rf.bV/\kF w' M2 s2 l2 bj/\w.heap.size<=M1/\w.heap.size<=M2/\Below w.heap.size w w' :=
 Gz Rf.bV bj w JT JU (by simp[Rf.bV]) (by simp[bj]) Nw Nx Ny Nz
structure yq (w:World) (b:Nat):Prop where
 f:w.heap[b]?=some (.cells #[.func (.func 72) #[] #[]] 114 (0,0))
 ex:(w.heap[b+1]?=some (.cells #[.bool false] 4 (0,0))/\w.heap[b+2]?=some (.cells fx 123 (0,0))) \/
  ∃M1 s1 l1 M2 s2 l2,w.heap[b+1]?=some (.cells #[.bool true] 4 (0,0))/\w.heap[b+2]?=some (.cells (Nv M1 s1 l1 M2 s2 l2) 123 (0,0))/\kF w M1 s1 l1 Rf.bV/\kF w M2 s2 l2 bj/\b+2<M1/\b+2<M2
abbrev VH (b:Nat):Value:=.func (.func 101) #[] #[.pointer (some ⟨b+1,0,none⟩),.pointer (some ⟨b,0,none⟩),.pointer (some ⟨b+2,0,none⟩)]
theorem RE (w:World): Calls Tryz.prog 71 #[.func (.func 72) #[] #[]] w fun e w'=>e=.returned (VH w.heap.size)/\yq w' w.heap.size/\Below w.heap.size w w'/\w'.heap.size=w.heap.size+3:=by
 have UL:∀(fn:Fn) (first cap:Array Value) (w:World),(Instr.makeFunc fn first cap).run Tryz.prog w=.ok (.func fn first cap) w:=fun _ _ _ _=>rfl
 go_enter Tryz.func71,Tryz.ntmps71
 go_wp2
 go_ret
 refine⟨rfl,⟨?_,.inl ⟨?_,?_⟩⟩,?_,by simp⟩
 ·exact ak (ak (ah w _) _) _
 ·have h:=ah (w.alloc (.cells #[.func (.func 72) #[] #[]] 114)) (.cells #[.bool false] 4);rw[aap]at h;exact ak h _
 ·have h:=ah ((w.alloc (.cells #[.func (.func 72) #[] #[]] 114)).alloc (.cells #[.bool false] 4)) (.cells fx 123);rw[aap,aap]at h;exact h
 ·exact (((aav _ _).alloc (aaf _) _).alloc (by simp) _).alloc (by simp;omega) _
theorem CU (b:Nat)(M1 s1 l1 M2 s2 l2:Nat)(w:World)(g1:w.heap[b+1]?=some (.cells #[.bool true] 4 (0,0)))(g2:w.heap[b+2]?=some (.cells (Nv M1 s1 l1 M2 s2 l2) 123 (0,0))): Calls Tryz.prog 101 #[.pointer (some ⟨b+1,0,none⟩),.pointer (some ⟨b,0,none⟩),.pointer (some ⟨b+2,0,none⟩)] w fun e w'=>e=.returned (JW M1 s1 l1 M2 s2 l2)/\Kp (fun _=>False) w w':=by
 obtain⟨c1,_,Ze⟩:=one_cell g1;obtain⟨r0,r1,r2,r3,r4,r5,rz,RA⟩:=oX g2;have n0:(w.alloc (.cells fx 123)).heap[w.heap.size]?=some (.cells fx 123 (0,0)):=ah w _
 go_enter Tryz.func101,Tryz.ntmps101
 go_wp2;exact aaG (v:=JW M1 s1 l1 M2 s2 l2) (by simp[results,Tryz.results101,go_sem]) rfl ⟨rfl,(Kp.refl _ w).alloc _⟩
theorem CV (b:Nat)(w:World)(g0:w.heap[b]?=some (.cells #[.func (.func 72) #[] #[]] 114 (0,0)))(g1:w.heap[b+1]?=some (.cells #[.bool false] 4 (0,0)))(g2:w.heap[b+2]?=some (.cells fx 123 (0,0))): Calls Tryz.prog 101 #[.pointer (some ⟨b+1,0,none⟩),.pointer (some ⟨b,0,none⟩),.pointer (some ⟨b+2,0,none⟩)] w fun e w'=>∃M1 s1 l1 M2 s2 l2,e=.returned (JW M1 s1 l1 M2 s2 l2)/\w'.heap[b+1]?=some (.cells #[.bool true] 4 (0,0))/\w'.heap[b+2]?=some (.cells (Nv M1 s1 l1 M2 s2 l2) 123 (0,0)) /\ kF w' M1 s1 l1 Rf.bV/\kF w' M2 s2 l2 bj/\w.heap.size<=M1/\w.heap.size<=M2/\Kp (fun k=>k=b+1\/k=b+2) w w':=by
 obtain⟨c0,_,lt0⟩:=one_cell g0;obtain⟨c1,z1,Ze⟩:=one_cell g1;have UM:=aac g2;have htab:=JY (w.alloc (.cells fx 123));simp only[aap]at htab;generalize Rf.bV=S at *;generalize bj=D at *
 go_enter Tryz.func101,Tryz.ntmps101
 go_wp2_with fail;refine htab.mono ?_;rintro e w1 ⟨M1,s1,l1,M2,s2,l2,rfl,T1,T2,hM1,hM2,b1⟩;have hsz:=b1.size;simp only[aap]at hsz;have k1:w1.heap[b+1]?=some (.cells #[.bool false] 4 (0,0)):=(b1.block _ (by omega)).trans (ak g1 _);have k2:w1.heap[b+2]?=some (.cells fx 123 (0,0)):=(b1.block _ (by omega)).trans (ak g2 _);have k3:w1.heap[w.heap.size]?=some (.cells fx 123 (0,0)):=(b1.block _ (by omega)).trans (ah w _);obtain⟨d1,y1,_⟩:=one_cell k1;obtain⟨q0,q1,q2,q3,q4,q5,qz,qlt⟩:=oX k2;obtain⟨r0,r1,r2,r3,r4,r5,rz,RA⟩:=oX k3;have HB:Hid (Kp (fun k=>k=b+1\/k=b+2) w w1):=((Kp.refl _ w).alloc _).trans ⟨b1.os,b1.tape,b1.output,b1.size,fun k hk _=>b1.block k (by rw[aap]at hk;exact hk)⟩;have HT:Hid (kF w1 M1 s1 l1 S/\kF w1 M2 s2 l2 D):=⟨T1,T2⟩
 have HK:Hid (w1.heap[b+1]?=some (.cells #[.bool false] 4 (0,0))/\w1.heap[b+2]?=some (.cells fx 123 (0,0))):=⟨k1,k2⟩
 clear T1 T2 b1 k1 k2 k3 htab g0 g1 g2;go_wp2;have kA:Kp (·=b+1) w1 (w1.setCell ⟨b+1,0,none⟩ (.bool true)):=(Kp.refl (·=b+1) w1).setCell (p:=⟨b+1,0,none⟩) (.inl rfl) _;have kB:=sZ (w1.setCell ⟨b+1,0,none⟩ (.bool true)) (b+2) (.map (some M1)) (.int .u16 s1) (.int .u16 l1) (.map (some M2)) (.int .u16 s2) (.int .u16 l2);have kC:=sZ (RD (w1.setCell ⟨b+1,0,none⟩ (.bool true)) (b+2) (.map (some M1)) (.int .u16 s1) (.int .u16 l1) (.map (some M2)) (.int .u16 s2) (.int .u16 l2)) w.heap.size (.map (some M1)) (.int .u16 s1) (.int .u16 l1) (.map (some M2)) (.int .u16 s2) (.int .u16 l2);have sA:=kA.size;have sB:=kB.size;have h1:=(kC.block (b+1) (by omega) (by omega)).trans ((kB.block (b+1) (by omega) (by omega)).trans (one_set HK.out.1 (.bool true)));have h2:=(kC.block (b+2) (by omega) (by omega)).trans (JX ((kA.block (b+2) (by omega) (by omega)).trans HK.out.2) rfl (.map (some M1)) (.int .u16 s1) (.int .u16 l1) (.map (some M2)) (.int .u16 s2) (.int .u16 l2));have t1:=((HT.out.1.kept kA (by omega)).kept kB (by omega)).kept kC (by omega);have t2:=((HT.out.2.kept kA (by omega)).kept kB (by omega)).kept kC (by omega);have k9:=((HB.out.then kA (fun i _ e=>.inl e)).then kB (fun i _ e=>.inr e)).then kC (fun i h e=>by omega)
 exact aaG (v:=JW M1 s1 l1 M2 s2 l2) (by simp[results,Tryz.results101,go_sem,r0,r1,r2,r3,r4,r5]) rfl ⟨M1,s1,l1,M2,s2,l2,rfl,h1,h2,t1,t2,by omega,by omega,k9⟩
theorem RF (b:Nat)(w:World)(h:yq w b): Calls Tryz.prog 101 #[.pointer (some ⟨b+1,0,none⟩),.pointer (some ⟨b,0,none⟩),.pointer (some ⟨b+2,0,none⟩)] w fun e w'=>∃M1 s1 l1 M2 s2 l2,e=.returned (JW M1 s1 l1 M2 s2 l2)/\kF w' M1 s1 l1 Rf.bV/\kF w' M2 s2 l2 bj/\b+2<M1/\b+2<M2/\yq w' b/\Kp (fun k=>k=b+1\/k=b+2) w w':=by
 rcases h.ex with⟨g1,g2⟩|⟨M1,s1,l1,M2,s2,l2,g1,g2,T1,T2,m1,m2⟩
 ·refine (CV b w h.f g1 g2).mono ?_;rintro e w' ⟨M1,s1,l1,M2,s2,l2,rfl,q1,q2,t1,t2,m1,m2,k⟩;have lt:=aac g2;exact⟨M1,s1,l1,M2,s2,l2,rfl,t1,t2,by omega,by omega,⟨(k.block b (aac h.f) (by omega)).trans h.f,.inr ⟨M1,s1,l1,M2,s2,l2,q1,q2,t1,t2,by omega,by omega⟩⟩,k⟩
 ·refine (CU b M1 s1 l1 M2 s2 l2 w g1 g2).mono ?_;rintro e w' ⟨rfl,k⟩;have k2:Kp (fun k=>k=b+1\/k=b+2) w w':=k.mono (fun _ _ h=>h.elim);have e1:∀j,j<w.heap.size->w'.heap[j]?=w.heap[j]?:=fun j hj=>k.block j hj id;have t1:=T1.kept k id;have t2:=T2.kept k id;exact⟨M1,s1,l1,M2,s2,l2,rfl,t1,t2,m1,m2,⟨(e1 b (aac h.f)).trans h.f,.inr ⟨M1,s1,l1,M2,s2,l2,(e1 _ (aac g1)).trans g1,(e1 _ (aac g2)).trans g2,t1,t2,m1,m2⟩⟩,k2⟩
end
section
open Go.RowKit
abbrev rO (R:Nat):Value:=.func (.func 98) #[] #[.pointer (some ⟨R+3,0,none⟩),.pointer (some ⟨R+2,0,none⟩)]
abbrev CW (R:Nat):Value:=.func (.func 99) #[] #[.pointer (some ⟨R+5,0,none⟩),.pointer (some ⟨R+2,0,none⟩)]
abbrev tN (R:Nat):Value:=.func (.func 100) #[] #[.pointer (some ⟨R+2,0,none⟩),.pointer (some ⟨R+5,0,none⟩)]
structure Pg (w:World) (s:ByteArray) (R:Nat) (limit:Int) (st:Rf.St) (ov:Value):Prop where
 rd:Rd w R s st.pos
 o:w.heap[R+1]?=some (.cells #[ov] 36 (0,0))
 p:w.heap[R+2]?=some (.cells #[.pointer (some ⟨R+1,0,none⟩)] 113 (0,0))
 l:w.heap[R+3]?=some (.cells #[.int .i64 (max limit 0)] 3 (0,0))
 n:w.heap[R+5]?=some (.cells #[rO R] 98 (0,0))
 ho:w.ownsRow (R+6) 5 1 ov st.out.length (st.out.map cx)
 hp:st.pos<=8*s.size
 hs:s.size<=5000000
 hl:limit<=9223372036854775807
 hol:(st.out.length:Int)<=max limit 0
 nb:st.bad=false
 nf:st.full=false
structure j8 (R:Nat) (w w':World):Prop where
 below:Below R w w'
 other:∀k,k<w.heap.size->k≠R->k≠R+1->(∀c fr,w.heap[k]?≠some (.cells c 5 fr))->w'.heap[k]?=w.heap[k]?
theorem j8.refl (R:Nat)(w:World):j8 R w w:=⟨aav _ _,fun _ _ _ _ _=>rfl⟩
theorem j8.trans {R:Nat}{a b c:World}(h:j8 R a b)(k:j8 R b c):j8 R a c :=
 ⟨h.below.trans k.below,fun i h1 h2 h3 h4=>by
  have e:=h.other i h1 h2 h3 h4
  exact (k.other i (aa3 h1 h.below.size) h2 h3 (fun c fr=>by rw[e];exact h4 c fr)).trans e⟩
theorem j8.jJ {R:Nat}{w w':World}(hR:R<=w.heap.size)(h:Kp (·=R) w w'):j8 R w w' :=
 ⟨h.below hR (fun _ _ e=>Nat.le_of_eq e.symm),fun k h1 h2 _ _=>h.block k h1 h2⟩
theorem j8.drewN {R:Nat}{a w:World}(h:j8 R a w)(n:Nat):j8 R a (w.drewN n):=⟨aaA h.below n,h.other⟩
theorem Pg.lt {w:World}{s:ByteArray}{R:Nat}{limit:Int}{st:Rf.St}{ov:Value}(h:Pg w s R limit st ov):R+5<w.heap.size:=aac h.n
theorem Pg.drewN {w:World}{s:ByteArray}{R:Nat}{limit:Int}{st:Rf.St}{ov:Value}(h:Pg w s R limit st ov)(n:Nat):Pg (w.drewN n) s R limit st ov :=
 ⟨h.rd,h.o,h.p,h.l,h.n,h.ho,h.hp,h.hs,h.hl,h.hol,h.nb,h.nf⟩
theorem Aj {w w':World}{base:Nat}{e:TypeId}{size:Nat}{v:Value}{n:Nat}{xs:List Value}(h:w.ownsRow base e size v n xs)(hk:∀g,v.ownBlock=some g->w'.heap[g]?=w.heap[g]?):w'.ownsRow base e size v n xs:=by
 refine⟨h.1,?_⟩;rcases h.2 with h'|⟨g,cap,cur,rfl,hb,hg,r⟩
 ·exact .inl h'
 ·exact .inr ⟨g,cap,cur,rfl,hb,(hk g rfl).trans hg,r⟩
theorem Pg.read {w w':World}{s:ByteArray}{R:Nat}{limit:Int}{st st':Rf.St}{ov:Value}(h:Pg w s R limit st ov)(k:Kp (·=R) w w')(hr:Rd w' R s st'.pos)(hp:st'.pos<=8*s.size)(ho:st'.out=st.out)(hb:st'.bad=false)(hf:st'.full=false):Pg w' s R limit st' ov:=by
 have hlt:=h.lt;have e:∀j,R<j->j<w.heap.size->w'.heap[j]?=w.heap[j]?:=fun j h1 h2=>k.block j h2 (Nat.ne_of_gt h1);refine⟨hr,(e _ (by omega) (by omega)).trans h.o,(e _ (by omega) (by omega)).trans h.p,(e _ (by omega) (by omega)).trans h.l,(e _ (by omega) (by omega)).trans h.n,?_,hp,h.hs,h.hl,by rw[ho];exact h.hol,hb,hf⟩;rw[ho];exact Aj h.ho (fun g hg=>e g (by have:=(h.ho.lt g hg).1;omega) (h.ho.lt g hg).2)
theorem Pg.push {w w2:World}{s:ByteArray}{R:Nat}{limit:Int}{st:Rf.St}{ov v':Value}(h:Pg w s R limit st ov)(o:Obj)(c:UInt8)(hroom:((st.out.length+1:Nat):Int)<=max limit 0)(hown':w2.ownsRow (R+6) 5 1 v' (st.out.length+1) (st.out.map cx++[cx c]))(hgrow:(w.alloc o).grownBy w2 ov.ownBlock): Pg (w2.setCell ⟨R+1,0,none⟩ v') s R limit { st with out:=st.out++[c] } v'/\j8 R w (w2.setCell ⟨R+1,0,none⟩ v'):=by
 have hlt:=h.lt;have hne:∀k,k<=R+5->some k≠ov.ownBlock:=fun k hk e=>by have:=(h.ho.lt k e.symm).1;omega
 have hblk:∀k,k<w.heap.size->some k≠ov.ownBlock->w2.heap[k]?=w.heap[k]?:=fun k hk hn=>(hgrow.block k (by simp;omega) hn).trans (abV w o k hk);have hsz:w.heap.size<=w2.heap.size:=by have:=hgrow.size;simp at this;omega
 have hset:∀k,k≠R+1->(w2.setCell ⟨R+1,0,none⟩ v').heap[k]?=w2.heap[k]?:=fun k hk=>aam w2 ⟨R+1,0,none⟩ v' k hk;have hall:∀k,k<=R+5->k≠R+1->(w2.setCell ⟨R+1,0,none⟩ v').heap[k]?=w.heap[k]?:=fun k hk hn=>(hset k hn).trans (hblk k (by omega) (hne k hk));refine⟨⟨(hall R (by omega) (by omega)).trans h.rd,?_,(hall _ (by omega) (by omega)).trans h.p,(hall _ (by omega) (by omega)).trans h.l,(hall _ (by omega) (by omega)).trans h.n,?_,h.hp,h.hs,h.hl,?_,h.nb,h.nf⟩,⟨⟨hgrow.os,hgrow.tape,hgrow.output,by simp;omega,?_⟩,?_⟩⟩
 ·exact (aau w2 (R+1) 0 _ _ v' ((hblk _ (by omega) (hne _ (by omega))).trans h.o)).trans rfl
 ·have e:(st.out++[c]).map cx=st.out.map cx++[cx c]:=by simp
  show (w2.setCell _ _).ownsRow _ _ _ _ (st.out++[c]).length ((st.out++[c]).map cx);rw[e,aae];exact ownsRow_setCell_below hown' (by show R+1<_;omega) v'
 ·show ((st.out++[c]).length:Int)<=_;rw[aae];exact hroom
 ·intro k hk;exact (hall k (by omega) (by omega))
 ·intro k h1 h2 h3 h4;refine (hset k h3).trans (hblk k h1 (fun e=>?_));obtain⟨cur,q⟩:=jo h.ho k e.symm;exact h4 _ _ q
theorem Pg.grown {w w2:World}{s:ByteArray}{R:Nat}{limit:Int}{st:Rf.St}{ov:Value}(h:Pg w s R limit st ov)(o:Obj)(hgrow:(w.alloc o).grownBy w2 ov.ownBlock): w2.cell? ⟨R+1,0,none⟩=some ov/\w2.frozen? ⟨R+1,0,none⟩=false/\w2.cell? ⟨R+2,0,none⟩=some (.pointer (some ⟨R+1,0,none⟩)):=by
 have hlt:=h.lt;have hblk:∀k,k<=R+5->w2.heap[k]?=w.heap[k]?:=fun k hk=>(hgrow.block k (by simp;omega) (fun e=>by have:=(h.ho.lt k e.symm).1;omega)).trans (abV w o k (by omega));have h1:=(hblk (R+1) (by omega)).trans h.o;have h2:=(hblk (R+2) (by omega)).trans h.p;exact⟨aas _ _ _ _ _ _ h1,aaM w2 (R+1) 0 _ _ h1,aas _ _ _ _ _ _ h2⟩
theorem Pg.cells {w:World}{s:ByteArray}{R:Nat}{limit:Int}{st:Rf.St}{ov:Value}(h:Pg w s R limit st ov): w.cell? ⟨R+1,0,none⟩=some ov/\w.cell? ⟨R+2,0,none⟩=some (.pointer (some ⟨R+1,0,none⟩))/\w.cell? ⟨R+3,0,none⟩=some (.int .i64 (max limit 0))/\w.cell? ⟨R+5,0,none⟩=some (rO R)/\w.frozen? ⟨R+1,0,none⟩=false :=
 ⟨aas _ _ _ _ _ _ h.o,aas _ _ _ _ _ _ h.p,aas _ _ _ _ _ _ h.l,aas _ _ _ _ _ _ h.n,aaM w (R+1) 0 _ _ h.o⟩
theorem Tryz.infoB:(Tryz.prog.info? 5).map (fun i=>(i.zero,i.size,i.bytes))=some (some (.int .u8 0),1,1):=by kernel_rfl
theorem NA {limit:Int}{st:Rf.St}{n:Nat}(h:max limit 0<(st.out.length:Int)+n)(hol:(st.out.length:Int)<=max limit 0):Rf.room limit st n=(false,{ st with full:=true }):=by
 rw[Rf.room,aai (by omega)]
theorem Ak {limit:Int}{st:Rf.St}{n:Nat}(h:¬max limit 0<(st.out.length:Int)+n):Rf.room limit st n=(true,st):=by
 rw[Rf.room,aag (by omega)]
theorem CX (n:Nat)(s:ByteArray)(R:Nat)(limit:Int)(st:Rf.St)(ov:Value)(w:World)(h:Pg w s R limit st ov)(hn:n<=65535): Calls Tryz.prog 98 #[.int .i64 n,.pointer (some ⟨R+3,0,none⟩),.pointer (some ⟨R+2,0,none⟩)] w fun e w' =>
   ((Rf.room limit st n=(true,st))/\e=.returned (.tuple #[])/\((st.out.length+n:Nat):Int)<=max limit 0/\∃m,w'=w.drewN m)\/((Rf.room limit st n=(false,{ st with full:=true }))/\e=dies 7/\∃m,w'=w.drewN m):=by
 obtain⟨c1,c2,c3,c5,fz⟩:=h.cells;obtain⟨oa,oc,rfl⟩:=aV h.ho;have hl:=h.hl;have hol:=h.hol;obtain⟨lim,hlim⟩:∃lim:Int,lim=max limit 0:=⟨_,rfl⟩
 have hlr:0<=lim/\lim<=9223372036854775807:=by omega
 by_cases hr:max limit 0<(st.out.length:Int)+n
 ·have HQ:=NA hr hol;have HR:Hid (Rf.room limit st n=(false,{ st with full:=true })):=HQ;clear HQ;rw[<-hlim]at c3 hol hr;clear hlim;have hr':lim-(st.out.length:Int)<(n:Int):=by omega
  go_enter Tryz.func98,Tryz.ntmps98
  go_wp2
  go_quiet (fail)
  go_wp2;exact⟨rfl,.inr ⟨HR.out,rfl,_,rfl⟩⟩
 ·have HR:Hid (Rf.room limit st n=(true,st)/\((st.out.length+n:Nat):Int)<=max limit 0):=⟨Ak hr,by omega⟩
  rw[<-hlim]at c3 hol hr;clear hlim;have hr':¬lim-(st.out.length:Int)<(n:Int):=by omega
  have hr2:(n:Int)<=lim-(st.out.length:Int):=by omega
  go_enter Tryz.func98,Tryz.ntmps98
  go_wp2
  go_quiet (fail)
  go_wp2
  go_end0
  exact .inl ⟨HR.out.1,rfl,HR.out.2,_,rfl⟩
theorem Qg (c:UInt8)(s:ByteArray)(R:Nat)(limit:Int)(st:Rf.St)(ov:Value)(w:World)(h:Pg w s R limit st ov)(hout:Hid (st.out.length<=11000000000)): Calls Tryz.prog 99 #[.int .u8 c.toNat,.pointer (some ⟨R+5,0,none⟩),.pointer (some ⟨R+2,0,none⟩)] w fun e w' =>
   ((Rf.room limit st 1=(true,st))/\e=.returned (.tuple #[])/\(∃yr,Pg w' s R limit { st with out:=st.out++[c] } yr)/\j8 R w w')\/((Rf.room limit st 1=(false,{ st with full:=true }))/\e=dies 7/\Below R w w'):=by
 obtain⟨i0,hi,hz0,hz1,hz2⟩:=abx Tryz.infoB;obtain⟨c1,c2,c3,c5,fz⟩:=h.cells
 go_enter Tryz.func99,Tryz.ntmps99
 go_wp2_with fail;refine (CX 1 s R limit st ov _ h (by omega)).mono ?_;rintro e w1 (⟨hr,rfl,hol,m,rfl⟩|⟨hr,rfl,m,rfl⟩)
 ·have HR:Hid (Rf.room limit st 1=(true,st)):=hr;have Qh:Hid (((st.out.length+1:Nat):Int)<=max limit 0):=hol;have HB:Hid (st.out.length+1<=maxLen/\(st.out.length+1)*1<=140737488355328):=by have:=hout.out;show _/\_;unfold maxLen;omega
  have h2:=h.drewN m;have F2:=(j8.refl R w).drewN m;clear hr hol h c1 c2 c3 c5 fz;generalize w.drewN m=w0 at *;obtain⟨c1,c2,c3,c5,fz⟩:=h2.cells;have hlt:=h2.lt;have b1:R+1<w0.heap.size:=by omega
  have b2:R+2<w0.heap.size:=by omega
  obtain⟨oa,oc,rfl⟩:=aV h2.ho;go_wp2
  go_region_law ((refine step_append_lies _ (by rfl) _ _ _ (by rfl) (R+6) 5 i0 _ 1 1 Tryz.underlying36 hi hz0 hz1 hz2 rfl (by omega) (.slice oa st.out.length oc) st.out.length (st.out.map cx) (by rfl) ((h2.ho.alloc _).drew) ⟨w0.heap.size,0,none⟩ 1 1 [.int .u8 c.toNat] (by rfl) (by rfl) (World.news_of_block (cs:=#[.int .u8 c.toNat]) (t:=5) (fr:=(0,0)) (heap_alloc_new w0 _)) (by simp[Value.oneCell']) (by omega) HB.out.1 HB.out.2 (by simp;omega) (w0.heap.size+1) (by simp) ?_;intro gg cp w6 hown' hgrow hat aah;obtain⟨q1,q2,q3⟩:=h2.grown (.cells #[.int .u8 c.toNat] 5) ⟨hgrow.os,hgrow.tape,hgrow.output,hgrow.size,hgrow.block⟩))
  all_goals
   have R7:=h2.push (.cells #[.int .u8 c.toNat] 5) c Qh.out hown' ⟨hgrow.os,hgrow.tape,hgrow.output,hgrow.size,hgrow.block⟩;clear hown' hgrow q1 q2 q3 h2;go_wp2
   go_end0
   exact .inl ⟨HR.out,rfl,⟨_,R7.1⟩,F2.trans R7.2⟩
 ·go_wp2;exact⟨rfl,.inr ⟨hr,rfl,aaA (aav _ _) _⟩⟩
end
end Go.Proofs.YtmfijackgekioabGreatDoor
