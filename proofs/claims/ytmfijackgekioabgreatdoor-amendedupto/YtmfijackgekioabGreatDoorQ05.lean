import Derived.Test.YtmfijackgekioabGreatDoorQ04
import Derived.Deep.AppendLies
set_option maxHeartbeats 4000000
set_option maxRecDepth 100000
namespace Go.Proofs.YtmfijackgekioabGreatDoor
section
open Go.RowKit
def lb (x:Int):Int:=if x=285 then 258 else if x-257<8 then x-257+3 else (4+(x-257)%4)*2^((x-257)/4-1).toNat+3
def vY (x:Int):Nat:=if x=285 then 0 else if x-257<8 then 0 else ((x-257)/4-1).toNat
def db (x:Int):Int:=if x<4 then x+1 else (2+x%2)*2^(x/2-1).toNat+1
def de (x:Int):Nat:=if x<4 then 0 else (x/2-1).toNat
theorem Ju (x:Int)(w:World)(h1:257<=x)(h2:x<=285): Calls Tryz.prog 110 #[.int .i64 x] w fun e w'=>e=.returned (.tuple #[.int .i64 (lb x),.int .i64 (vY x)])/\w'=w:=by
 have h:x=257\/x=258\/x=259\/x=260\/x=261\/x=262\/x=263\/x=264\/x=265\/x=266\/x=267\/x=268\/x=269\/x=270\/x=271\/x=272\/x=273\/x=274\/x=275\/x=276\/x=277\/x=278\/x=279\/x=280\/x=281\/x=282\/x=283\/x=284\/x=285:=by omega
 rcases h with rfl|rfl|rfl|rfl|rfl|rfl|rfl|rfl|rfl|rfl|rfl|rfl|rfl|rfl|rfl|rfl|rfl|rfl|rfl|rfl|rfl|rfl|rfl|rfl|rfl|rfl|rfl|rfl|rfl
 all_goals
  go_enter Tryz.func110,Tryz.ntmps110
  go_wp2
  go_ret2
  exact⟨rfl,rfl⟩
theorem Et (x:Int)(w:World)(h1:0<=x)(h2:x<=29): Calls Tryz.prog 111 #[.int .i64 x] w fun e w'=>e=.returned (.tuple #[.int .i64 (db x),.int .i64 (de x)])/\w'=w:=by
 have h:x=0\/x=1\/x=2\/x=3\/x=4\/x=5\/x=6\/x=7\/x=8\/x=9\/x=10\/x=11\/x=12\/x=13\/x=14\/x=15\/x=16\/x=17\/x=18\/x=19\/x=20\/x=21\/x=22\/x=23\/x=24\/x=25\/x=26\/x=27\/x=28\/x=29:=by omega
 rcases h with rfl|rfl|rfl|rfl|rfl|rfl|rfl|rfl|rfl|rfl|rfl|rfl|rfl|rfl|rfl|rfl|rfl|rfl|rfl|rfl|rfl|rfl|rfl|rfl|rfl|rfl|rfl|rfl|rfl|rfl
 all_goals
  go_enter Tryz.func111,Tryz.ntmps111
  go_wp2
  go_ret2
  exact⟨rfl,rfl⟩
theorem Jv (x:Int)(h1:257<=x)(h2:x<=285):3<=lb x/\lb x<=258/\vY x<=5:=by
 have h:x=257\/x=258\/x=259\/x=260\/x=261\/x=262\/x=263\/x=264\/x=265\/x=266\/x=267\/x=268\/x=269\/x=270\/x=271\/x=272\/x=273\/x=274\/x=275\/x=276\/x=277\/x=278\/x=279\/x=280\/x=281\/x=282\/x=283\/x=284\/x=285:=by omega
 rcases h with rfl|rfl|rfl|rfl|rfl|rfl|rfl|rfl|rfl|rfl|rfl|rfl|rfl|rfl|rfl|rfl|rfl|rfl|rfl|rfl|rfl|rfl|rfl|rfl|rfl|rfl|rfl|rfl|rfl
 all_goals decide
theorem zJ (x:Int)(h1:0<=x)(h2:x<=29):1<=db x/\db x<=24577/\de x<=13:=by
 have h:x=0\/x=1\/x=2\/x=3\/x=4\/x=5\/x=6\/x=7\/x=8\/x=9\/x=10\/x=11\/x=12\/x=13\/x=14\/x=15\/x=16\/x=17\/x=18\/x=19\/x=20\/x=21\/x=22\/x=23\/x=24\/x=25\/x=26\/x=27\/x=28\/x=29:=by omega
 rcases h with rfl|rfl|rfl|rfl|rfl|rfl|rfl|rfl|rfl|rfl|rfl|rfl|rfl|rfl|rfl|rfl|rfl|rfl|rfl|rfl|rfl|rfl|rfl|rfl|rfl|rfl|rfl|rfl|rfl|rfl
 all_goals decide
theorem take_zero (L:List Int)(st:Rf.St)(hp:st.pos<=L.length):Rf.take L st 0=(0,st):=by
 rw[Rf.take,aai (by omega)];rfl
theorem zK (L:List Int)(x:Int)(h1:257<=x)(h2:x<=285)(st:Rf.St)(hp:st.pos<=L.length):Rf.lenOf L (x-257).toNat st=((lb x).toNat+(Rf.take L st (vY x)).1.toNat,(Rf.take L st (vY x)).2):=by
 obtain⟨i,rfl⟩:∃i:Nat,x=(i:Int)+257:=⟨(x-257).toNat,by omega⟩
 have e0:((i:Int)+257-257).toNat=i:=by omega
 rw[e0];by_cases Jw:i=28
 ·subst Jw;have a:lb (((28:Nat):Int)+257)=258:=by decide
  have b:vY (((28:Nat):Int)+257)=0:=by decide
  rw[a,b,take_zero L st hp,Rf.lenOf,aaj rfl];rfl
 ·by_cases h8:8<=i
  ·have e1:(((i:Int)+257-257)/4-1).toNat=i/4-1:=by omega
   have e2:((i:Int)+257-257)%4=((i%4:Nat):Int):=by omega
   have a:lb ((i:Int)+257)=(((4+i%4)*2^(i/4-1)+3:Nat):Int):=by
    unfold lb;rw[aai (by omega),aai (by omega),e1,e2];simp
   have b:vY ((i:Int)+257)=i/4-1:=by unfold vY;rw[aai (by omega),aai (by omega),e1]
   rw[a,b,Rf.lenOf,aai Jw,aaj h8];rfl
  ·have a:lb ((i:Int)+257)=((i+3:Nat):Int):=by unfold lb;rw[aai (by omega),aaj (by omega)];omega
   have b:vY ((i:Int)+257)=0:=by unfold vY;rw[aai (by omega),aaj (by omega)]
   rw[a,b,take_zero L st hp,Rf.lenOf,aai Jw,aai h8];rfl
theorem qr (L:List Int)(x:Int)(h1:0<=x)(st:Rf.St)(hp:st.pos<=L.length):Rf.bZ L x.toNat st=((db x).toNat+(Rf.take L st (de x)).1.toNat,(Rf.take L st (de x)).2):=by
 obtain⟨i,rfl⟩:∃i:Nat,x=(i:Int):=⟨x.toNat,by omega⟩
 have e0:((i:Int)).toNat=i:=by omega
 rw[e0,Rf.bZ];unfold db de;by_cases h8:4<=i
 ·rw[aaj h8,aai (by omega),aai (by omega)];have e1:((i:Int)/2-1).toNat=i/2-1:=by omega
  have e2:(i:Int)%2=((i%2:Nat):Int):=by omega
  rw[e1,e2]
  have e3:((2+((i%2:Nat):Int))*2^(i/2-1)+1).toNat=(2+i%2)*2^(i/2-1)+1:=by
   have:((2+((i%2:Nat):Int))*2^(i/2-1)+1)=(((2+i%2)*2^(i/2-1)+1:Nat):Int):=by simp
   rw[this];rfl
  rw[e3]
 ·rw[aai h8,aaj (by omega),aaj (by omega),take_zero L st hp];have:((i:Int)+1).toNat=i+1:=by omega
  rw[this];rfl
theorem QY (x:Int)(s:ByteArray)(R:Nat)(st:Rf.St)(w:World)(h1:257<=x)(h2:x<=285)(hr:Rd w R s st.pos)(hs:s.size<=5000000)(hp:st.pos<=8*s.size)(hb:st.bad=false): Calls Tryz.prog 109 #[.pointer (some ⟨R,0,none⟩),.func (.func 110) #[] #[],.int .i64 x] w fun e w' =>
   ((Rf.lenOf (lw s) (x-257).toNat st).2.bad=false/\e=.returned (.int .i64 (Rf.lenOf (lw s) (x-257).toNat st).1)/\Rd w' R s (Rf.lenOf (lw s) (x-257).toNat st).2.pos/\Kp (·=R) w w') \/
   ((Rf.lenOf (lw s) (x-257).toNat st).2.bad=true/\e=dies 6/\Kp (·=R) w w'):=by
 have hrg:=Jv x h1 h2;rw[zK (lw s) x h1 h2 st (by rw[aw];exact hp)];simp only;have HT:=Rf.take_range (cQ s) st (vY x);have cA:=dQ (vY x) s R st w hr hs hp hb (by omega);have hc:=Ju x w h1 h2;have hpw:=nK (vY x) (by omega);have HTr:0<=(Rf.take (lw s) st (vY x)).1/\(Rf.take (lw s) st (vY x)).1<=32768:=by omega
 generalize Rf.take (lw s) st (vY x)=T at *;obtain⟨t,st1⟩:=T;simp only at *;obtain⟨L,hL⟩:∃L:Int,L=lb x:=⟨_,rfl⟩
 obtain⟨E,hE⟩:∃E:Nat,E=vY x:=⟨_,rfl⟩
 rw[<-hL,<-hE]at hc;rw[<-hE]at cA;rw[<-hL]at hrg;have HL:Hid (L=lb x):=hL;clear hL hE HT hpw
 go_enter Tryz.func109,Tryz.ntmps109
 go_wp2_with fail;refine hc.mono ?_;rintro e w1 ⟨rfl,rfl⟩;go_wp2_with fail;refine cA.mono ?_;rintro e w2 (⟨q1,rfl,q2,q3⟩|⟨q1,rfl,q3⟩)
 ·go_wp2
  go_ret
  exact .inl ⟨q1,aI (by rw[<-HL.out];omega),q2,q3⟩
 ·go_wp2;exact⟨rfl,.inr ⟨q1,rfl,q3⟩⟩
theorem MW (x:Int)(s:ByteArray)(R:Nat)(st:Rf.St)(w:World)(h1:0<=x)(h2:x<=29)(hr:Rd w R s st.pos)(hs:s.size<=5000000)(hp:st.pos<=8*s.size)(hb:st.bad=false): Calls Tryz.prog 109 #[.pointer (some ⟨R,0,none⟩),.func (.func 111) #[] #[],.int .i64 x] w fun e w' =>
   ((Rf.bZ (lw s) x.toNat st).2.bad=false/\e=.returned (.int .i64 (Rf.bZ (lw s) x.toNat st).1)/\Rd w' R s (Rf.bZ (lw s) x.toNat st).2.pos/\Kp (·=R) w w') \/
   ((Rf.bZ (lw s) x.toNat st).2.bad=true/\e=dies 6/\Kp (·=R) w w'):=by
 have hrg:=zJ x h1 h2;rw[qr (lw s) x h1 st (by rw[aw];exact hp)];simp only;have HT:=Rf.take_range (cQ s) st (de x);have cA:=dQ (de x) s R st w hr hs hp hb (by omega);have hc:=Et x w h1 h2;have hpw:=nK (de x) (by omega);have HTr:0<=(Rf.take (lw s) st (de x)).1/\(Rf.take (lw s) st (de x)).1<=32768:=by omega
 generalize Rf.take (lw s) st (de x)=T at *;obtain⟨t,st1⟩:=T;simp only at *;obtain⟨L,hL⟩:∃L:Int,L=db x:=⟨_,rfl⟩
 obtain⟨E,hE⟩:∃E:Nat,E=de x:=⟨_,rfl⟩
 rw[<-hL,<-hE]at hc;rw[<-hE]at cA;rw[<-hL]at hrg;have HL:Hid (L=db x):=hL;clear hL hE HT hpw
 go_enter Tryz.func109,Tryz.ntmps109
 go_wp2_with fail;refine hc.mono ?_;rintro e w1 ⟨rfl,rfl⟩;go_wp2_with fail;refine cA.mono ?_;rintro e w2 (⟨q1,rfl,q2,q3⟩|⟨q1,rfl,q3⟩)
 ·go_wp2
  go_ret
  exact .inl ⟨q1,aI (by rw[<-HL.out];omega),q2,q3⟩
 ·go_wp2;exact⟨rfl,.inr ⟨q1,rfl,q3⟩⟩
theorem MX (x:Int)(h1:0<x)(h2:x<=15):((2^(15-x).toNat:Nat))=32768/2^x.toNat:=by
 have e:(15-x).toNat=15-x.toNat:=by omega
 rw[e,show (32768:Nat)=2^15 from rfl,Nat.pow_div (by omega) (by omega)]
theorem Co (ao:Option Addr)(cap:Nat)(ls:List Int)(n:Nat)(w:World)(hn0:ls.length=n)(hn:n<=320)(hint:Ints w ao ls)(hrg:∀j,ls.getD j 0<=15): Calls Tryz.prog 114 #[.slice ao n cap] w fun e w'=>e=.returned (.bool (Rf.full ls))/\w'=w:=by
 go_enter Tryz.func114,Tryz.ntmps114
 go_wp2
 go_loop [3,8] (fun s i=>∃k:Nat,k<=n/\i=.int .i64 k/\s=.int .i64 (Rf.fs ls k)) (fun _ i=>n-(intOf i).toNat)
 case atStart=>exact⟨0,aaq _,rfl,rfl⟩
 case round =>
  obtain⟨k,hk,rfl,rfl⟩:=hrel;have hfs:=Rf.UV ls k;by_cases hlt:k<n
  ·obtain⟨b,off,rfl,hc⟩:=hint k (by omega);obtain⟨x,hx⟩:∃x:Int,x=ls[k]:=⟨_,rfl⟩
   have hx2:ls.getD k 0=x:=by rw[hx];simp[List.getD,List.getElem?_eq_getElem (show k<ls.length by omega)]
   have U6:x<=15:=by rw[<-hx2];exact hrg k
   rw[<-hx]at hc;have HF:Hid (Rf.fs ls (k+1)=Rf.fs ls k+if 0<x then 32768/2^x.toNat else 0):=by show _=_;rw[<-hx2];rfl
   have Eu:(Rf.fs ls k:Int)<=10485760:=by omega
   clear hx hx2 hrg hfs;by_cases h0:0<x
   ·obtain⟨y,hy⟩:∃y:Nat,y=32768/2^x.toNat:=⟨_,rfl⟩
    have hyb:y<=32768:=by rw[hy];exact Nat.div_le_self _ _
    have e0:(2:Nat)^(15-x).toNat=y:=by rw[hy,MX x h0 U6]
    have e1:(2:Int)^(15-x).toNat=(y:Int):=by rw[<-e0];simp
    have e2:(1:Int)*2^(15-x).toNat=(y:Int):=by rw[Int.one_mul];exact e1
    have e3:(0:Int)<=15-x:=by omega
    have Zv:Hid (Rf.fs ls (k+1)=Rf.fs ls k+y):=by show _=_;rw[HF.out,aaj h0,<-hy]
    clear hy HF e0;go_wp2
    go_round
    case rel=>exact⟨k+1,by omega,by go_num,by rw[Zv.out];go_num⟩
    case measure=>simp[intOf];omega
   ·have Zv:Hid (Rf.fs ls (k+1)=Rf.fs ls k):=by show _=_;rw[HF.out,aai h0];rfl
    clear HF;go_wp2
    go_round
    case rel=>exact⟨k+1,by omega,by go_num,by rw[Zv.out]⟩
    case measure=>simp[intOf];omega
  ·have hkn:k=n:=by omega
   subst hkn;go_wp2
   go_ret
   refine⟨aL ?_,rfl⟩;rw[Rf.full,hn0,acA];simp;omega
theorem Jx (w:World): Calls Tryz.prog 103 #[] w fun e w'=>e=.returned (.slice (some ⟨w.heap.size,0,none⟩) 288 288)/\aQ w' w.heap.size Rf.bQ/\Below w.heap.size w w':=by
 obtain⟨Z,hZ⟩:∃Z:List Value,Z=List.replicate 288 (.int .i64 0):=⟨_,rfl⟩
 have hmk:∀u:World,(Instr.makeSlice 22 (.int .i64 288) (.int .i64 288)).run Tryz.prog u=.ok (.slice (some ⟨u.heap.size,0,none⟩) 288 288) (u.alloc (.cells Z.toArray 3)):=fun u=>mI 288 (by omega) Z hZ u;have HZ:Hid (Z=vals (part 288 0 Rf.Cb)):=by show _=_;rw[hZ,qk,bJ]
 clear hZ
 go_enter Tryz.func103,Tryz.ntmps103
 go_wp2
 go_loopw [6] (fun i wr=>∃k:Nat,k<=288/\i=.int .i64 k/\aQ wr w.heap.size (part 288 k Rf.Cb)/\Below w.heap.size w wr) (fun i _=>288-(intOf i).toNat)
 case atStart=>exact⟨0,aaq _,rfl,(ah w _).trans (by rw[HZ.out]),(aav _ _).alloc (aah _) _⟩
 case round =>
  obtain⟨k,hk,rfl,hl,hb⟩:=hrel;by_cases hlt:k<288
  ·obtain⟨x,c1⟩:∃x,wr.cell? ⟨w.heap.size,k,none⟩=some (.int .i64 x):=⟨_,hl.cell k (by simp;omega)⟩
   have f1:wr.frozen? ⟨w.heap.size,k,none⟩=false:=aaI wr _ _ _ _ hl;obtain⟨y,hy⟩:∃y:Int,y=Rf.Cb k:=⟨_,rfl⟩
   have HL:Hid (aQ (wr.setCell ⟨w.heap.size,k,none⟩ (.int .i64 y)) w.heap.size (part 288 (k+1) Rf.Cb)/\Below w.heap.size w (wr.setCell ⟨w.heap.size,k,none⟩ (.int .i64 y))):=⟨by rw[hy,<-sW];exact hl.set k _,hb.setCell (aah _) _⟩
   have hd:decide ((k:Int)<288)=true:=by simp;omega
   unfold Rf.Cb at hy;by_cases h1:k<144
   ·rw[aaj h1]at hy;subst hy;go_wp2
    go_roundw
    case rel=>exact⟨k+1,by omega,by go_num,HL.out.1,HL.out.2⟩
    case measure=>simp[intOf];omega
   ·rw[aai h1]at hy;by_cases h2:k<256
    ·rw[aaj h2]at hy;subst hy;go_wp2
     go_roundw
     case rel=>exact⟨k+1,by omega,by go_num,HL.out.1,HL.out.2⟩
     case measure=>simp[intOf];omega
    ·rw[aai h2]at hy;by_cases h3:k<280
     ·rw[aaj h3]at hy;subst hy;go_wp2
      go_roundw
      case rel=>exact⟨k+1,by omega,by go_num,HL.out.1,HL.out.2⟩
      case measure=>simp[intOf];omega
     ·rw[aai h3]at hy;subst hy;go_wp2
      go_roundw
      case rel=>exact⟨k+1,by omega,by go_num,HL.out.1,HL.out.2⟩
      case measure=>simp[intOf];omega
  ·have hk2:k=288:=by omega
   subst hk2;go_wp2
   go_ret
   refine⟨rfl,?_,hb⟩;rw[Rf.bQ,<-sX];exact hl
def bd:List Int:=(List.range 30).map fun _=>5
theorem Jy (w:World): Calls Tryz.prog 104 #[] w fun e w'=>e=.returned (.slice (some ⟨w.heap.size,0,none⟩) 30 30)/\aQ w' w.heap.size bd/\Below w.heap.size w w':=by
 obtain⟨Z,hZ⟩:∃Z:List Value,Z=List.replicate 30 (.int .i64 0):=⟨_,rfl⟩
 have hmk:∀u:World,(Instr.makeSlice 22 (.int .i64 30) (.int .i64 30)).run Tryz.prog u=.ok (.slice (some ⟨u.heap.size,0,none⟩) 30 30) (u.alloc (.cells Z.toArray 3)):=fun u=>mI 30 (by omega) Z hZ u;have HZ:Hid (Z=vals (part 30 0 fun _=>5)):=by show _=_;rw[hZ,qk,bJ]
 clear hZ
 go_enter Tryz.func104,Tryz.ntmps104
 go_wp2
 go_loopw [6] (fun i wr=>∃k:Nat,k<=30/\i=.int .i64 k/\aQ wr w.heap.size (part 30 k fun _=>5)/\Below w.heap.size w wr) (fun i _=>30-(intOf i).toNat)
 case atStart=>exact⟨0,aaq _,rfl,(ah w _).trans (by rw[HZ.out]),(aav _ _).alloc (aah _) _⟩
 case round =>
  obtain⟨k,hk,rfl,hl,hb⟩:=hrel;by_cases hlt:k<30
  ·obtain⟨x,c1⟩:∃x,wr.cell? ⟨w.heap.size,k,none⟩=some (.int .i64 x):=⟨_,hl.cell k (by simp;omega)⟩
   have f1:wr.frozen? ⟨w.heap.size,k,none⟩=false:=aaI wr _ _ _ _ hl;have HL:Hid (aQ (wr.setCell ⟨w.heap.size,k,none⟩ (.int .i64 5)) w.heap.size (part 30 (k+1) fun _=>5)/\Below w.heap.size w (wr.setCell ⟨w.heap.size,k,none⟩ (.int .i64 5))):=⟨by rw[<-sW];exact hl.set k _,hb.setCell (aah _) _⟩
   go_wp2
   go_roundw
   case rel=>exact⟨k+1,by omega,by go_num,HL.out.1,HL.out.2⟩
   case measure=>simp[intOf];omega
  ·have hk2:k=30:=by omega
   subst hk2;go_wp2
   go_ret
   refine⟨rfl,?_,hb⟩;rw[bd,<-sX];exact hl
def cntF (far:List Int):Nat->Nat
 | 0=>0
 | k+1=>cntF far k+if 0<far.getD k 0 then 1 else 0
theorem MY (far:List Int)(h0:∀j,0<=far.getD j 0):∀k,(cntF far k:Int)<=Rf.fc far k/\(cntF far k=0↔Rf.fc far k=0)/\Rf.mH far k<=cntF far k/\(Rf.fc far k=1->Rf.mH far k=1/\cntF far k=1):=by
 intro k
 induction k with
 | zero=>simp[cntF,Rf.fc,Rf.mH]
 | succ k ih =>
  have:=h0 k;simp only[cntF,Rf.fc,Rf.mH];obtain⟨i1,i2,i3,i4⟩:=ih;by_cases hz:0<far.getD k 0
  ·rw[aaj hz];by_cases h1:far.getD k 0=1
   ·rw[aaj h1,h1];exact⟨by omega,by omega,by omega,fun h=>by have:=i2.2 (by omega);omega⟩
   ·rw[aai h1];exact⟨by omega,by omega,by omega,fun h=>by omega⟩
  ·rw[aai hz,aai (by omega)];have e:far.getD k 0=0:=by omega
   rw[e];exact⟨by omega,by omega,by omega,fun h=>by have:=i4 (by omega);omega⟩
theorem Jz (far:List Int)(h0:∀j,0<=far.getD j 0): (decide (cntF far far.length=0)||(decide (cntF far far.length=1)&&decide (Rf.fc far far.length=1))||Rf.full far)=!(!Rf.full far&&(decide (Rf.fc far far.length≠0)&&(decide (Rf.fc far far.length≠1)||decide (Rf.mH far far.length≠1)))):=by
 have h:=MY far h0 far.length;obtain⟨i1,i2,i3,i4⟩:=h;cases Rf.full far
 ·by_cases hs:Rf.fc far far.length=0
  ·have:=i2.2 hs;simp[hs,this]
  ·by_cases h1:Rf.fc far far.length=1
   ·have:=i4 h1;simp[h1,this.1,this.2]
   ·have hc:¬cntF far far.length=0:=fun e=>hs (i2.1 e);simp[hs,h1,hc]
 ·simp
def oJ (far:List Int):Bool:=!(!Rf.full far&&(decide (Rf.fc far far.length≠0)&&(decide (Rf.fc far far.length≠1)||decide (Rf.mH far far.length≠1))))
theorem MZ (far:List Int)(h0:∀j,0<=far.getD j 0)(h1:∀j,far.getD j 0<=15)(k:Nat):0<=Rf.fc far k/\Rf.fc far k<=15*k/\cntF far k<=k:=by
 induction k with
 | zero=>simp[Rf.fc,cntF]
 | succ k ih =>
  have a:=h0 k;have b:=h1 k;simp only[Rf.fc,cntF];refine⟨by omega,by omega,?_⟩;split<;>omega
theorem U7 (ao:Option Addr)(cap:Nat)(far:List Int)(n:Nat)(w:World)(hn0:far.length=n)(hn:n<=320)(hint:Ints w ao far)(h0:∀j,0<=far.getD j 0)(hrg:∀j,far.getD j 0<=15): Calls Tryz.prog 115 #[.slice ao n cap] w fun e w'=>e=.returned (.bool (oJ far))/\w'=w:=by
 have hfull:=Co ao cap far n w hn0 hn hint hrg;have HD:Hid (_=oJ far):=Jz far h0;have Zw:Hid (∀k,0<=Rf.fc far k/\Rf.fc far k<=15*k/\cntF far k<=k):=MZ far h0 hrg
 go_enter Tryz.func115,Tryz.ntmps115
 go_wp2
 go_loop [3,4,9] (fun c s i=>∃k:Nat,k<=n/\i=.int .i64 k/\c=.int .i64 (cntF far k)/\s=.int .i64 (Rf.fc far k)) (fun _ _ i=>n-(intOf i).toNat)
 case atStart=>exact⟨0,aaq _,rfl,rfl,rfl⟩
 case round =>
  obtain⟨k,hk,rfl,rfl,rfl⟩:=hrel;obtain⟨s1,s2,s3⟩:=Zw.out k;by_cases hlt:k<n
  ·obtain⟨b,off,rfl,hc⟩:=hint k (by omega);obtain⟨x,hx⟩:∃x:Int,x=far[k]:=⟨_,rfl⟩
   have hx2:far.getD k 0=x:=by rw[hx];simp[List.getD,List.getElem?_eq_getElem (show k<far.length by omega)]
   have U6:x<=15:=by rw[<-hx2];exact hrg k
   have hx0:0<=x:=by rw[<-hx2];exact h0 k
   rw[<-hx]at hc;have HF:Hid (cntF far (k+1)=cntF far k+(if 0<x then 1 else 0)/\Rf.fc far (k+1)=Rf.fc far k+x):=by show _/\_;rw[<-hx2];exact⟨rfl,rfl⟩
   clear hx hx2 hrg h0 hfull hint;by_cases hz:0<x
   ·rw[aaj hz]at HF;go_wp2
    go_round
    case rel=>exact⟨k+1,by omega,by go_num,by rw[HF.out.1];go_num,by rw[HF.out.2]⟩
    case measure=>simp[intOf];omega
   ·rw[aai hz]at HF;have hx:x=0:=by omega
    subst hx;go_wp2
    go_round
    case rel=>exact⟨k+1,by omega,by go_num,by rw[HF.out.1];rfl,by rw[HF.out.2];simp⟩
    case measure=>simp[intOf];omega
  ·have hkn:k=n:=by omega
   subst hkn;rw[hn0]at HD;clear hint;by_cases q0:cntF far k=0
   ·have PA:((cntF far k:Nat):Int)=0:=by omega
    go_wp2
    go_ret
    refine⟨aL ?_,rfl⟩;rw[<-HD.out];simp[q0]
   ·have PA:¬((cntF far k:Nat):Int)=0:=by omega
    by_cases q1:cntF far k=1
    ·have q1':((cntF far k:Nat):Int)=1:=by omega
     by_cases q2:Rf.fc far k=1
     ·go_wp2
      go_ret
      refine⟨aL ?_,rfl⟩;rw[<-HD.out];simp[q1,q2]
     ·go_wp2_with fail;refine hfull.mono ?_;rintro e w' ⟨rfl,rfl⟩;go_wp2
      go_ret
      refine⟨aL ?_,rfl⟩;rw[<-HD.out];simp[q1,q2]
    ·have q1':¬((cntF far k:Nat):Int)=1:=by omega
     go_wp2_with fail;refine hfull.mono ?_;rintro e w' ⟨rfl,rfl⟩;go_wp2
     go_ret
     refine⟨aL ?_,rfl⟩;rw[<-HD.out];simp[q0,q1]
end
section
open Go.RowKit Go.Maps
abbrev JA (M1 s1 l1 M2 s2 l2:Nat):Value:=.agg #[.map (some M1),.int .u16 s1,.int .u16 l1,.map (some M2),.int .u16 s2,.int .u16 l2]
abbrev M0 (M1 s1 l1 M2 s2 l2:Nat):Array Value:=#[.map (some M1),.int .u16 s1,.int .u16 l1,.map (some M2),.int .u16 s2,.int .u16 l2]
abbrev fq:Array Value:=#[.map none,.int .u16 0,.int .u16 0,.map none,.int .u16 0,.int .u16 0]
theorem gw (n:Nat)(f:Nat->Int)(j:Nat):((List.range n).map f).getD j 0=if j<n then f j else 0:=by
 by_cases h:j<n
 ·simp[List.getD,h]
 ·simp[List.getD,h]
theorem M3 (j:Nat):Rf.bQ.getD j 0<=15:=by
 rw[Rf.bQ,gw];unfold Rf.Cb;repeat' split
 all_goals omega
theorem M4 (j:Nat):bd.getD j 0<=15:=by
 rw[bd,gw];split<;>omega
theorem M5:Rf.fs Rf.bQ Rf.bQ.length<=32768:=by decide +kernel
theorem M6:Rf.fs bd bd.length<=32768:=by decide +kernel
theorem oK {w:World}{T:Nat}{a b c d e f:Value}{t:TypeId}(h:w.heap[T]?=some (.cells #[a,b,c,d,e,f] t (0,0))): w.cell? ⟨T,0,none⟩=some a/\w.cell? ⟨T,1,none⟩=some b/\w.cell? ⟨T,2,none⟩=some c/\w.cell? ⟨T,3,none⟩=some d/\w.cell? ⟨T,4,none⟩=some e/\w.cell? ⟨T,5,none⟩=some f/\(∀j,w.frozen? ⟨T,j,none⟩=false)/\T<w.heap.size :=
 ⟨aat _ _ _ _ _ _ h,aat _ _ _ _ _ _ h,aat _ _ _ _ _ _ h,aat _ _ _ _ _ _ h,aat _ _ _ _ _ _ h,aat _ _ _ _ _ _ h,fun j=>aaI w T j _ _ h,aaa h⟩
abbrev QZ (w:World)(T:Nat)(a b c d e f:Value):World:=(((((w.setCell ⟨T,0,none⟩ a).setCell ⟨T,1,none⟩ b).setCell ⟨T,2,none⟩ c).setCell ⟨T,3,none⟩ d).setCell ⟨T,4,none⟩ e).setCell ⟨T,5,none⟩ f
theorem sF (w:World)(T:Nat)(a b c d e f:Value):Kp (·=T) w (QZ w T a b c d e f) :=
 ((((((Kp.refl (·=T) w).setCell (p:=⟨T,0,none⟩) (.inl rfl) a).setCell (p:=⟨T,1,none⟩) (.inl rfl) b).setCell (p:=⟨T,2,none⟩) (.inl rfl) c).setCell (p:=⟨T,3,none⟩) (.inl rfl) d).setCell (p:=⟨T,4,none⟩) (.inl rfl) e).setCell (p:=⟨T,5,none⟩) (.inl rfl) f
theorem JB {w:World}{T:Nat}{cs:Array Value}{t:TypeId}(h:w.heap[T]?=some (.cells cs t (0,0)))(hs:cs.size=6)(a b c d e f:Value):(QZ w T a b c d e f).heap[T]?=some (.cells #[a,b,c,d,e,f] t (0,0)):=by
 obtain⟨l⟩:=cs
 match l,hs with
 | [x0,x1,x2,x3,x4,x5],_ =>
  exact (aau _ T 5 _ _ f (aau _ T 4 _ _ e (aau _ T 3 _ _ d (aau _ T 2 _ _ c (aau _ T 1 _ _ b (aau w T 0 _ _ a h)))))).trans rfl
theorem FY (S D:List Int)(w:World)(hS:∀w,Calls Tryz.prog 103 #[] w fun e w'=>e=.returned (.slice (some ⟨w.heap.size,0,none⟩) 288 288)/\aQ w' w.heap.size S/\Below w.heap.size w w')(hD:∀w,Calls Tryz.prog 104 #[] w fun e w'=>e=.returned (.slice (some ⟨w.heap.size,0,none⟩) 30 30)/\aQ w' w.heap.size D/\Below w.heap.size w w')(lS:S.length=288)(lD:D.length=30)(wS:∀j,S.getD j 0<=15)(wD:∀j,D.getD j 0<=15)(fS:Rf.fs S S.length<=32768)(fD:Rf.fs D D.length<=32768): Calls Tryz.prog 72 #[] w fun e w'=>∃M1 s1 l1 M2 s2 l2,e=.returned (JA M1 s1 l1 M2 s2 l2)/\j0 w' M1 s1 l1 S/\j0 w' M2 s2 l2 D/\w.heap.size<=M1/\w.heap.size<=M2/\Below w.heap.size w w':=by
 go_enter Tryz.func72,Tryz.ntmps72
 go_wp2_with fail;refine (hS _).mono ?_;rintro e w1 ⟨rfl,l1,b1⟩;simp only[aas]at l1 b1 ⊢;have h1:w.heap.size+1<=w1.heap.size:=by have:=b1.size;simpa using this
 go_wp2_with fail;refine (je _ 288 S 288 _ lS (by omega) l1.ints (fun a e _=>by cases e;exact aaa l1) wS fS).mono ?_;rintro e w2 ⟨M1,s1,lo1,rfl,T1,hM1,b2⟩;have h2:=b2.size;go_wp2_with fail;refine (hD _).mono ?_;rintro e w3 ⟨rfl,l3,b3⟩;have h3:=b3.size;have Zx:=T1.below b3 T1.lt;go_wp2_with fail;refine (je _ 30 D 30 _ lD (by omega) l3.ints (fun a e _=>by cases e;exact aaa l3) wD fD).mono ?_;rintro e w4 ⟨M2,s2,lo2,rfl,T2,hM2,b4⟩;have h4:=b4.size
 have hr:w4.heap[w.heap.size]?=some (.cells fq 123 (0,0)) :=
  (b4.block _ (by omega)).trans ((b3.block _ (by omega)).trans ((b2.block _ (by omega)).trans ((b1.block _ (by omega)).trans (ah w _))))
 obtain⟨r0,r1,r2,r3,r4,r5,rz,QW⟩:=oK hr;have HB:Hid (Below w.heap.size w w4):=((((aav _ _).alloc (aah _) _).trans (b1.mono (by simp))).trans (b2.mono (by omega))).trans ((b3.mono (by omega)).trans (b4.mono (by omega)));have HT1:Hid (j0 w4 M1 s1 lo1 S):=Zx.below b4 Zx.lt;have afe:w.heap.size+1<=M1:=by omega
 have aff:w.heap.size+1<=M2:=by omega
 have HT2:Hid (j0 w4 M2 s2 lo2 D):=T2;clear l1 l3 b1 b2 b3 b4 T1 Zx T2;go_wp2;have hk:=sF w4 w.heap.size
 exact aaF (v:=JA M1 s1 lo1 M2 s2 lo2) (by simp[results,Tryz.results72,go_sem,r0,r1,r2,r3,r4,r5]) rfl
  ⟨M1,s1,lo1,M2,s2,lo2,rfl,HT1.out.kept (hk _ _ _ _ _ _) (by omega),HT2.out.kept (hk _ _ _ _ _ _) (by omega),by omega,by omega,HB.out.trans ((hk _ _ _ _ _ _).below (acV QW) (fun k _ h=>by omega))⟩
theorem JC (w:World): Calls Tryz.prog 72 #[] w fun e w'=>∃M1 s1 l1 M2 s2 l2,e=.returned (JA M1 s1 l1 M2 s2 l2)/\j0 w' M1 s1 l1 Rf.bQ/\j0 w' M2 s2 l2 bd/\w.heap.size<=M1/\w.heap.size<=M2/\Below w.heap.size w w' :=
 FY Rf.bQ bd w Jx Jy (by simp[Rf.bQ]) (by simp[bd]) M3 M4 M5 M6
structure xP (w:World) (b:Nat):Prop where
 f:w.heap[b]?=some (.cells #[.func (.func 72) #[] #[]] 114 (0,0))
 ex:(w.heap[b+1]?=some (.cells #[.bool false] 4 (0,0))/\w.heap[b+2]?=some (.cells fq 123 (0,0))) \/
  ∃M1 s1 l1 M2 s2 l2,w.heap[b+1]?=some (.cells #[.bool true] 4 (0,0))/\w.heap[b+2]?=some (.cells (M0 M1 s1 l1 M2 s2 l2) 123 (0,0))/\j0 w M1 s1 l1 Rf.bQ/\j0 w M2 s2 l2 bd/\b+2<M1/\b+2<M2
abbrev U8 (b:Nat):Value:=.func (.func 101) #[] #[.pointer (some ⟨b+1,0,none⟩),.pointer (some ⟨b,0,none⟩),.pointer (some ⟨b+2,0,none⟩)]
theorem Q8 (w:World): Calls Tryz.prog 71 #[.func (.func 72) #[] #[]] w fun e w'=>e=.returned (U8 w.heap.size)/\xP w' w.heap.size/\Below w.heap.size w w'/\w'.heap.size=w.heap.size+3:=by
 have Uf:∀(fn:Fn) (first cap:Array Value) (w:World),(Instr.makeFunc fn first cap).run Tryz.prog w=.ok (.func fn first cap) w:=fun _ _ _ _=>rfl
 go_enter Tryz.func71,Tryz.ntmps71
 go_wp2
 go_ret
 refine⟨rfl,⟨?_,.inl ⟨?_,?_⟩⟩,?_,by simp⟩
 ·exact ak (ak (ah w _) _) _
 ·have h:=ah (w.alloc (.cells #[.func (.func 72) #[] #[]] 114)) (.cells #[.bool false] 4);rw[aas]at h;exact ak h _
 ·have h:=ah ((w.alloc (.cells #[.func (.func 72) #[] #[]] 114)).alloc (.cells #[.bool false] 4)) (.cells fq 123);rw[aas,aas]at h;exact h
 ·exact (((aav _ _).alloc (aah _) _).alloc (by simp) _).alloc (by simp;omega) _
theorem Cp (b:Nat)(M1 s1 l1 M2 s2 l2:Nat)(w:World)(g1:w.heap[b+1]?=some (.cells #[.bool true] 4 (0,0)))(g2:w.heap[b+2]?=some (.cells (M0 M1 s1 l1 M2 s2 l2) 123 (0,0))): Calls Tryz.prog 101 #[.pointer (some ⟨b+1,0,none⟩),.pointer (some ⟨b,0,none⟩),.pointer (some ⟨b+2,0,none⟩)] w fun e w'=>e=.returned (JA M1 s1 l1 M2 s2 l2)/\Kp (fun _=>False) w w':=by
 obtain⟨c1,_,YA⟩:=one_cell g1;obtain⟨r0,r1,r2,r3,r4,r5,rz,QW⟩:=oK g2;have n0:(w.alloc (.cells fq 123)).heap[w.heap.size]?=some (.cells fq 123 (0,0)):=ah w _
 go_enter Tryz.func101,Tryz.ntmps101
 go_wp2;exact aaF (v:=JA M1 s1 l1 M2 s2 l2) (by simp[results,Tryz.results101,go_sem]) rfl ⟨rfl,(Kp.refl _ w).alloc _⟩
theorem Cq (b:Nat)(w:World)(g0:w.heap[b]?=some (.cells #[.func (.func 72) #[] #[]] 114 (0,0)))(g1:w.heap[b+1]?=some (.cells #[.bool false] 4 (0,0)))(g2:w.heap[b+2]?=some (.cells fq 123 (0,0))): Calls Tryz.prog 101 #[.pointer (some ⟨b+1,0,none⟩),.pointer (some ⟨b,0,none⟩),.pointer (some ⟨b+2,0,none⟩)] w fun e w'=>∃M1 s1 l1 M2 s2 l2,e=.returned (JA M1 s1 l1 M2 s2 l2)/\w'.heap[b+1]?=some (.cells #[.bool true] 4 (0,0))/\w'.heap[b+2]?=some (.cells (M0 M1 s1 l1 M2 s2 l2) 123 (0,0)) /\ j0 w' M1 s1 l1 Rf.bQ/\j0 w' M2 s2 l2 bd/\w.heap.size<=M1/\w.heap.size<=M2/\Kp (fun k=>k=b+1\/k=b+2) w w':=by
 obtain⟨c0,_,lt0⟩:=one_cell g0;obtain⟨c1,z1,YA⟩:=one_cell g1;have Ug:=aaa g2;have htab:=JC (w.alloc (.cells fq 123));simp only[aas]at htab;generalize Rf.bQ=S at *;generalize bd=D at *
 go_enter Tryz.func101,Tryz.ntmps101
 go_wp2_with fail;refine htab.mono ?_;rintro e w1 ⟨M1,s1,l1,M2,s2,l2,rfl,T1,T2,hM1,hM2,b1⟩;have hsz:=b1.size;simp only[aas]at hsz;have k1:w1.heap[b+1]?=some (.cells #[.bool false] 4 (0,0)):=(b1.block _ (by omega)).trans (ak g1 _);have k2:w1.heap[b+2]?=some (.cells fq 123 (0,0)):=(b1.block _ (by omega)).trans (ak g2 _);have k3:w1.heap[w.heap.size]?=some (.cells fq 123 (0,0)):=(b1.block _ (by omega)).trans (ah w _);obtain⟨d1,y1,_⟩:=one_cell k1;obtain⟨q0,q1,q2,q3,q4,q5,qz,qlt⟩:=oK k2;obtain⟨r0,r1,r2,r3,r4,r5,rz,QW⟩:=oK k3;have HB:Hid (Kp (fun k=>k=b+1\/k=b+2) w w1):=((Kp.refl _ w).alloc _).trans ⟨b1.os,b1.tape,b1.output,b1.size,fun k hk _=>b1.block k (by rw[aas]at hk;exact hk)⟩;have HT:Hid (j0 w1 M1 s1 l1 S/\j0 w1 M2 s2 l2 D):=⟨T1,T2⟩
 have HK:Hid (w1.heap[b+1]?=some (.cells #[.bool false] 4 (0,0))/\w1.heap[b+2]?=some (.cells fq 123 (0,0))):=⟨k1,k2⟩
 clear T1 T2 b1 k1 k2 k3 htab g0 g1 g2;go_wp2;have kA:Kp (·=b+1) w1 (w1.setCell ⟨b+1,0,none⟩ (.bool true)):=(Kp.refl (·=b+1) w1).setCell (p:=⟨b+1,0,none⟩) (.inl rfl) _;have kB:=sF (w1.setCell ⟨b+1,0,none⟩ (.bool true)) (b+2) (.map (some M1)) (.int .u16 s1) (.int .u16 l1) (.map (some M2)) (.int .u16 s2) (.int .u16 l2);have kC:=sF (QZ (w1.setCell ⟨b+1,0,none⟩ (.bool true)) (b+2) (.map (some M1)) (.int .u16 s1) (.int .u16 l1) (.map (some M2)) (.int .u16 s2) (.int .u16 l2)) w.heap.size (.map (some M1)) (.int .u16 s1) (.int .u16 l1) (.map (some M2)) (.int .u16 s2) (.int .u16 l2);have sA:=kA.size;have sB:=kB.size;have h1:=(kC.block (b+1) (by omega) (by omega)).trans ((kB.block (b+1) (by omega) (by omega)).trans (one_set HK.out.1 (.bool true)));have h2:=(kC.block (b+2) (by omega) (by omega)).trans (JB ((kA.block (b+2) (by omega) (by omega)).trans HK.out.2) rfl (.map (some M1)) (.int .u16 s1) (.int .u16 l1) (.map (some M2)) (.int .u16 s2) (.int .u16 l2));have t1:=((HT.out.1.kept kA (by omega)).kept kB (by omega)).kept kC (by omega);have t2:=((HT.out.2.kept kA (by omega)).kept kB (by omega)).kept kC (by omega);have k9:=((HB.out.then kA (fun i _ e=>.inl e)).then kB (fun i _ e=>.inr e)).then kC (fun i h e=>by omega)
 exact aaF (v:=JA M1 s1 l1 M2 s2 l2) (by simp[results,Tryz.results101,go_sem,r0,r1,r2,r3,r4,r5]) rfl ⟨M1,s1,l1,M2,s2,l2,rfl,h1,h2,t1,t2,by omega,by omega,k9⟩
theorem Q9 (b:Nat)(w:World)(h:xP w b): Calls Tryz.prog 101 #[.pointer (some ⟨b+1,0,none⟩),.pointer (some ⟨b,0,none⟩),.pointer (some ⟨b+2,0,none⟩)] w fun e w'=>∃M1 s1 l1 M2 s2 l2,e=.returned (JA M1 s1 l1 M2 s2 l2)/\j0 w' M1 s1 l1 Rf.bQ/\j0 w' M2 s2 l2 bd/\b+2<M1/\b+2<M2/\xP w' b/\Kp (fun k=>k=b+1\/k=b+2) w w':=by
 rcases h.ex with⟨g1,g2⟩|⟨M1,s1,l1,M2,s2,l2,g1,g2,T1,T2,m1,m2⟩
 ·refine (Cq b w h.f g1 g2).mono ?_;rintro e w' ⟨M1,s1,l1,M2,s2,l2,rfl,q1,q2,t1,t2,m1,m2,k⟩;have lt:=aaa g2;exact⟨M1,s1,l1,M2,s2,l2,rfl,t1,t2,by omega,by omega,⟨(k.block b (aaa h.f) (by omega)).trans h.f,.inr ⟨M1,s1,l1,M2,s2,l2,q1,q2,t1,t2,by omega,by omega⟩⟩,k⟩
 ·refine (Cp b M1 s1 l1 M2 s2 l2 w g1 g2).mono ?_;rintro e w' ⟨rfl,k⟩;have k2:Kp (fun k=>k=b+1\/k=b+2) w w':=k.mono (fun _ _ h=>h.elim);have e1:∀j,j<w.heap.size->w'.heap[j]?=w.heap[j]?:=fun j hj=>k.block j hj id;have t1:=T1.kept k id;have t2:=T2.kept k id;exact⟨M1,s1,l1,M2,s2,l2,rfl,t1,t2,m1,m2,⟨(e1 b (aaa h.f)).trans h.f,.inr ⟨M1,s1,l1,M2,s2,l2,(e1 _ (aaa g1)).trans g1,(e1 _ (aaa g2)).trans g2,t1,t2,m1,m2⟩⟩,k2⟩
end
section
open Go.RowKit
abbrev rj (R:Nat):Value:=.func (.func 98) #[] #[.pointer (some ⟨R+3,0,none⟩),.pointer (some ⟨R+2,0,none⟩)]
abbrev Cr (R:Nat):Value:=.func (.func 99) #[] #[.pointer (some ⟨R+5,0,none⟩),.pointer (some ⟨R+2,0,none⟩)]
abbrev tk (R:Nat):Value:=.func (.func 100) #[] #[.pointer (some ⟨R+2,0,none⟩),.pointer (some ⟨R+5,0,none⟩)]
structure Pg (w:World) (s:ByteArray) (R:Nat) (limit:Int) (st:Rf.St) (ov:Value):Prop where
 rd:Rd w R s st.pos
 o:w.heap[R+1]?=some (.cells #[ov] 36 (0,0))
 p:w.heap[R+2]?=some (.cells #[.pointer (some ⟨R+1,0,none⟩)] 113 (0,0))
 l:w.heap[R+3]?=some (.cells #[.int .i64 (max limit 0)] 3 (0,0))
 n:w.heap[R+5]?=some (.cells #[rj R] 98 (0,0))
 ho:w.ownsRow (R+6) 5 1 ov st.out.length (st.out.map cm)
 hp:st.pos<=8*s.size
 hs:s.size<=5000000
 hl:limit<=9223372036854775807
 hol:(st.out.length:Int)<=max limit 0
 nb:st.bad=false
 nf:st.full=false
structure jP (R:Nat) (w w':World):Prop where
 below:Below R w w'
 other:∀k,k<w.heap.size->k≠R->k≠R+1->(∀c fr,w.heap[k]?≠some (.cells c 5 fr))->w'.heap[k]?=w.heap[k]?
theorem jP.refl (R:Nat)(w:World):jP R w w:=⟨aav _ _,fun _ _ _ _ _=>rfl⟩
theorem jP.trans {R:Nat}{a b c:World}(h:jP R a b)(k:jP R b c):jP R a c :=
 ⟨h.below.trans k.below,fun i h1 h2 h3 h4=>by
  have e:=h.other i h1 h2 h3 h4
  exact (k.other i (aaQ h1 h.below.size) h2 h3 (fun c fr=>by rw[e];exact h4 c fr)).trans e⟩
theorem jP.jx {R:Nat}{w w':World}(hR:R<=w.heap.size)(h:Kp (·=R) w w'):jP R w w' :=
 ⟨h.below hR (fun _ _ e=>Nat.le_of_eq e.symm),fun k h1 h2 _ _=>h.block k h1 h2⟩
theorem jP.drewN {R:Nat}{a w:World}(h:jP R a w)(n:Nat):jP R a (w.drewN n):=⟨aaD h.below n,h.other⟩
theorem Pg.lt {w:World}{s:ByteArray}{R:Nat}{limit:Int}{st:Rf.St}{ov:Value}(h:Pg w s R limit st ov):R+5<w.heap.size:=aaa h.n
theorem Pg.drewN {w:World}{s:ByteArray}{R:Nat}{limit:Int}{st:Rf.St}{ov:Value}(h:Pg w s R limit st ov)(n:Nat):Pg (w.drewN n) s R limit st ov :=
 ⟨h.rd,h.o,h.p,h.l,h.n,h.ho,h.hp,h.hs,h.hl,h.hol,h.nb,h.nf⟩
theorem zL {w w':World}{base:Nat}{e:TypeId}{size:Nat}{v:Value}{n:Nat}{xs:List Value}(h:w.ownsRow base e size v n xs)(hk:∀g,v.ownBlock=some g->w'.heap[g]?=w.heap[g]?):w'.ownsRow base e size v n xs:=by
 refine⟨h.1,?_⟩;rcases h.2 with h'|⟨g,cap,cur,rfl,hb,hg,r⟩
 ·exact .inl h'
 ·exact .inr ⟨g,cap,cur,rfl,hb,(hk g rfl).trans hg,r⟩
theorem Pg.read {w w':World}{s:ByteArray}{R:Nat}{limit:Int}{st st':Rf.St}{ov:Value}(h:Pg w s R limit st ov)(k:Kp (·=R) w w')(hr:Rd w' R s st'.pos)(hp:st'.pos<=8*s.size)(ho:st'.out=st.out)(hb:st'.bad=false)(hf:st'.full=false):Pg w' s R limit st' ov:=by
 have hlt:=h.lt;have e:∀j,R<j->j<w.heap.size->w'.heap[j]?=w.heap[j]?:=fun j h1 h2=>k.block j h2 (Nat.ne_of_gt h1);refine⟨hr,(e _ (by omega) (by omega)).trans h.o,(e _ (by omega) (by omega)).trans h.p,(e _ (by omega) (by omega)).trans h.l,(e _ (by omega) (by omega)).trans h.n,?_,hp,h.hs,h.hl,by rw[ho];exact h.hol,hb,hf⟩;rw[ho];exact zL h.ho (fun g hg=>e g (by have:=(h.ho.lt g hg).1;omega) (h.ho.lt g hg).2)
theorem Pg.push {w w2:World}{s:ByteArray}{R:Nat}{limit:Int}{st:Rf.St}{ov v':Value}(h:Pg w s R limit st ov)(o:Obj)(c:UInt8)(hroom:((st.out.length+1:Nat):Int)<=max limit 0)(hown':w2.ownsRow (R+6) 5 1 v' (st.out.length+1) (st.out.map cm++[cm c]))(hgrow:(w.alloc o).grownBy w2 ov.ownBlock): Pg (w2.setCell ⟨R+1,0,none⟩ v') s R limit { st with out:=st.out++[c] } v'/\jP R w (w2.setCell ⟨R+1,0,none⟩ v'):=by
 have hlt:=h.lt;have hne:∀k,k<=R+5->some k≠ov.ownBlock:=fun k hk e=>by have:=(h.ho.lt k e.symm).1;omega
 have hblk:∀k,k<w.heap.size->some k≠ov.ownBlock->w2.heap[k]?=w.heap[k]?:=fun k hk hn=>(hgrow.block k (by simp;omega) hn).trans (abI w o k hk);have hsz:w.heap.size<=w2.heap.size:=by have:=hgrow.size;simp at this;omega
 have hset:∀k,k≠R+1->(w2.setCell ⟨R+1,0,none⟩ v').heap[k]?=w2.heap[k]?:=fun k hk=>aak w2 ⟨R+1,0,none⟩ v' k hk;have hall:∀k,k<=R+5->k≠R+1->(w2.setCell ⟨R+1,0,none⟩ v').heap[k]?=w.heap[k]?:=fun k hk hn=>(hset k hn).trans (hblk k (by omega) (hne k hk));refine⟨⟨(hall R (by omega) (by omega)).trans h.rd,?_,(hall _ (by omega) (by omega)).trans h.p,(hall _ (by omega) (by omega)).trans h.l,(hall _ (by omega) (by omega)).trans h.n,?_,h.hp,h.hs,h.hl,?_,h.nb,h.nf⟩,⟨⟨hgrow.os,hgrow.tape,hgrow.output,by simp;omega,?_⟩,?_⟩⟩
 ·exact (aau w2 (R+1) 0 _ _ v' ((hblk _ (by omega) (hne _ (by omega))).trans h.o)).trans rfl
 ·have e:(st.out++[c]).map cm=st.out.map cm++[cm c]:=by simp
  show (w2.setCell _ _).ownsRow _ _ _ _ (st.out++[c]).length ((st.out++[c]).map cm);rw[e,aac];exact ownsRow_setCell_below hown' (by show R+1<_;omega) v'
 ·show ((st.out++[c]).length:Int)<=_;rw[aac];exact hroom
 ·intro k hk;exact (hall k (by omega) (by omega))
 ·intro k h1 h2 h3 h4;refine (hset k h3).trans (hblk k h1 (fun e=>?_));obtain⟨cur,q⟩:=jd h.ho k e.symm;exact h4 _ _ q
theorem Pg.grown {w w2:World}{s:ByteArray}{R:Nat}{limit:Int}{st:Rf.St}{ov:Value}(h:Pg w s R limit st ov)(o:Obj)(hgrow:(w.alloc o).grownBy w2 ov.ownBlock): w2.cell? ⟨R+1,0,none⟩=some ov/\w2.frozen? ⟨R+1,0,none⟩=false/\w2.cell? ⟨R+2,0,none⟩=some (.pointer (some ⟨R+1,0,none⟩)):=by
 have hlt:=h.lt;have hblk:∀k,k<=R+5->w2.heap[k]?=w.heap[k]?:=fun k hk=>(hgrow.block k (by simp;omega) (fun e=>by have:=(h.ho.lt k e.symm).1;omega)).trans (abI w o k (by omega));have h1:=(hblk (R+1) (by omega)).trans h.o;have h2:=(hblk (R+2) (by omega)).trans h.p;exact⟨aat _ _ _ _ _ _ h1,aaI w2 (R+1) 0 _ _ h1,aat _ _ _ _ _ _ h2⟩
theorem Pg.cells {w:World}{s:ByteArray}{R:Nat}{limit:Int}{st:Rf.St}{ov:Value}(h:Pg w s R limit st ov): w.cell? ⟨R+1,0,none⟩=some ov/\w.cell? ⟨R+2,0,none⟩=some (.pointer (some ⟨R+1,0,none⟩))/\w.cell? ⟨R+3,0,none⟩=some (.int .i64 (max limit 0))/\w.cell? ⟨R+5,0,none⟩=some (rj R)/\w.frozen? ⟨R+1,0,none⟩=false :=
 ⟨aat _ _ _ _ _ _ h.o,aat _ _ _ _ _ _ h.p,aat _ _ _ _ _ _ h.l,aat _ _ _ _ _ _ h.n,aaI w (R+1) 0 _ _ h.o⟩
theorem Tryz.infoB:(Tryz.prog.info? 5).map (fun i=>(i.zero,i.size,i.bytes))=some (some (.int .u8 0),1,1):=by kernel_rfl
theorem M7 {limit:Int}{st:Rf.St}{n:Nat}(h:max limit 0<(st.out.length:Int)+n)(hol:(st.out.length:Int)<=max limit 0):Rf.room limit st n=(false,{ st with full:=true }):=by
 rw[Rf.room,aaj (by omega)]
theorem zM {limit:Int}{st:Rf.St}{n:Nat}(h:¬max limit 0<(st.out.length:Int)+n):Rf.room limit st n=(true,st):=by
 rw[Rf.room,aai (by omega)]
theorem Ct (n:Nat)(s:ByteArray)(R:Nat)(limit:Int)(st:Rf.St)(ov:Value)(w:World)(h:Pg w s R limit st ov)(hn:n<=65535): Calls Tryz.prog 98 #[.int .i64 n,.pointer (some ⟨R+3,0,none⟩),.pointer (some ⟨R+2,0,none⟩)] w fun e w' =>
   ((Rf.room limit st n=(true,st))/\e=.returned (.tuple #[])/\((st.out.length+n:Nat):Int)<=max limit 0/\∃m,w'=w.drewN m)\/((Rf.room limit st n=(false,{ st with full:=true }))/\e=dies 7/\∃m,w'=w.drewN m):=by
 obtain⟨c1,c2,c3,c5,fz⟩:=h.cells;obtain⟨oa,oc,rfl⟩:=aS h.ho;have hl:=h.hl;have hol:=h.hol;obtain⟨lim,hlim⟩:∃lim:Int,lim=max limit 0:=⟨_,rfl⟩
 have hlr:0<=lim/\lim<=9223372036854775807:=by omega
 by_cases hr:max limit 0<(st.out.length:Int)+n
 ·have HQ:=M7 hr hol;have HR:Hid (Rf.room limit st n=(false,{ st with full:=true })):=HQ;clear HQ;rw[<-hlim]at c3 hol hr;clear hlim;have hr':lim-(st.out.length:Int)<(n:Int):=by omega
  go_enter Tryz.func98,Tryz.ntmps98
  go_wp2
  go_quiet (fail)
  go_wp2;exact⟨rfl,.inr ⟨HR.out,rfl,_,rfl⟩⟩
 ·have HR:Hid (Rf.room limit st n=(true,st)/\((st.out.length+n:Nat):Int)<=max limit 0):=⟨zM hr,by omega⟩
  rw[<-hlim]at c3 hol hr;clear hlim;have hr':¬lim-(st.out.length:Int)<(n:Int):=by omega
  have hr2:(n:Int)<=lim-(st.out.length:Int):=by omega
  go_enter Tryz.func98,Tryz.ntmps98
  go_wp2
  go_quiet (fail)
  go_wp2
  go_end0
  exact .inl ⟨HR.out.1,rfl,HR.out.2,_,rfl⟩
theorem PB (c:UInt8)(s:ByteArray)(R:Nat)(limit:Int)(st:Rf.St)(ov:Value)(w:World)(h:Pg w s R limit st ov)(hout:Hid (st.out.length<=11000000000)): Calls Tryz.prog 99 #[.int .u8 c.toNat,.pointer (some ⟨R+5,0,none⟩),.pointer (some ⟨R+2,0,none⟩)] w fun e w' =>
   ((Rf.room limit st 1=(true,st))/\e=.returned (.tuple #[])/\(∃xQ,Pg w' s R limit { st with out:=st.out++[c] } xQ)/\jP R w w')\/((Rf.room limit st 1=(false,{ st with full:=true }))/\e=dies 7/\Below R w w'):=by
 obtain⟨i0,hi,hz0,hz1,hz2⟩:=abu Tryz.infoB;obtain⟨c1,c2,c3,c5,fz⟩:=h.cells
 go_enter Tryz.func99,Tryz.ntmps99
 go_wp2_with fail;refine (Ct 1 s R limit st ov _ h (by omega)).mono ?_;rintro e w1 (⟨hr,rfl,hol,m,rfl⟩|⟨hr,rfl,m,rfl⟩)
 ·have HR:Hid (Rf.room limit st 1=(true,st)):=hr;have PD:Hid (((st.out.length+1:Nat):Int)<=max limit 0):=hol;have HB:Hid (st.out.length+1<=maxLen/\(st.out.length+1)*1<=140737488355328):=by have:=hout.out;show _/\_;unfold maxLen;omega
  have h2:=h.drewN m;have F2:=(jP.refl R w).drewN m;clear hr hol h c1 c2 c3 c5 fz;generalize w.drewN m=w0 at *;obtain⟨c1,c2,c3,c5,fz⟩:=h2.cells;have hlt:=h2.lt;have b1:R+1<w0.heap.size:=by omega
  have b2:R+2<w0.heap.size:=by omega
  obtain⟨oa,oc,rfl⟩:=aS h2.ho;go_wp2
  go_region_law ((refine step_append_lies _ (by rfl) _ _ _ (by rfl) (R+6) 5 i0 _ 1 1 Tryz.underlying36 hi hz0 hz1 hz2 rfl (by omega) (.slice oa st.out.length oc) st.out.length (st.out.map cm) (by rfl) ((h2.ho.alloc _).drew) ⟨w0.heap.size,0,none⟩ 1 1 [.int .u8 c.toNat] (by rfl) (by rfl) (World.news_of_block (cs:=#[.int .u8 c.toNat]) (t:=5) (fr:=(0,0)) (heap_alloc_new w0 _)) (by simp[Value.oneCell']) (by omega) HB.out.1 HB.out.2 (by simp;omega) (w0.heap.size+1) (by simp) ?_;intro gg cp w6 hown' hgrow hat Zy;obtain⟨q1,q2,q3⟩:=h2.grown (.cells #[.int .u8 c.toNat] 5) ⟨hgrow.os,hgrow.tape,hgrow.output,hgrow.size,hgrow.block⟩))
  all_goals
   have R7:=h2.push (.cells #[.int .u8 c.toNat] 5) c PD.out hown' ⟨hgrow.os,hgrow.tape,hgrow.output,hgrow.size,hgrow.block⟩;clear hown' hgrow q1 q2 q3 h2;go_wp2
   go_end0
   exact .inl ⟨HR.out,rfl,⟨_,R7.1⟩,F2.trans R7.2⟩
 ·go_wp2;exact⟨rfl,.inr ⟨hr,rfl,aaD (aav _ _) _⟩⟩
end
end Go.Proofs.YtmfijackgekioabGreatDoor
