import Derived.Test.YtmfijackgekioaaGreatDoorQ06
import Derived.Deep.AppendLies
import Derived.Laws.Tables
import Derived.Laws.Rows
set_option maxHeartbeats 4000000
set_option maxRecDepth 100000
namespace Go.Proofs.YtmfijackgekioaaGreatDoor
section
open Go.RowKit
def lb (x:Int):Int:=if x=285 then 258 else if x-257<8 then x-257+3 else (4+(x-257)%4)*2^((x-257)/4-1).toNat+3
def WL (x:Int):Nat:=if x=285 then 0 else if x-257<8 then 0 else ((x-257)/4-1).toNat
def db (x:Int):Int:=if x<4 then x+1 else (2+x%2)*2^(x/2-1).toNat+1
def de (x:Int):Nat:=if x<4 then 0 else (x/2-1).toNat
theorem OM (x:Int)(w:World)(h1:257<=x)(h2:x<=285): Calls Tryz.prog 164 #[.int .i64 x] w fun e w'=>e=.returned (.tuple #[.int .i64 (lb x),.int .i64 (WL x)])/\w'=w:=by
 have h:x=257\/x=258\/x=259\/x=260\/x=261\/x=262\/x=263\/x=264\/x=265\/x=266\/x=267\/x=268\/x=269\/x=270\/x=271\/x=272\/x=273\/x=274\/x=275\/x=276\/x=277\/x=278\/x=279\/x=280\/x=281\/x=282\/x=283\/x=284\/x=285:=by omega
 rcases h with rfl|rfl|rfl|rfl|rfl|rfl|rfl|rfl|rfl|rfl|rfl|rfl|rfl|rfl|rfl|rfl|rfl|rfl|rfl|rfl|rfl|rfl|rfl|rfl|rfl|rfl|rfl|rfl|rfl
 all_goals
  go_enter Tryz.func164,Tryz.ntmps164
  go_wp2
  go_ret2
  exact⟨rfl,rfl⟩
theorem Lu (x:Int)(w:World)(h1:0<=x)(h2:x<=29): Calls Tryz.prog 165 #[.int .i64 x] w fun e w'=>e=.returned (.tuple #[.int .i64 (db x),.int .i64 (de x)])/\w'=w:=by
 have h:x=0\/x=1\/x=2\/x=3\/x=4\/x=5\/x=6\/x=7\/x=8\/x=9\/x=10\/x=11\/x=12\/x=13\/x=14\/x=15\/x=16\/x=17\/x=18\/x=19\/x=20\/x=21\/x=22\/x=23\/x=24\/x=25\/x=26\/x=27\/x=28\/x=29:=by omega
 rcases h with rfl|rfl|rfl|rfl|rfl|rfl|rfl|rfl|rfl|rfl|rfl|rfl|rfl|rfl|rfl|rfl|rfl|rfl|rfl|rfl|rfl|rfl|rfl|rfl|rfl|rfl|rfl|rfl|rfl|rfl
 all_goals
  go_enter Tryz.func165,Tryz.ntmps165
  go_wp2
  go_ret2
  exact⟨rfl,rfl⟩
theorem Lw (x:Int)(h1:0<x)(h2:x<=15):((2^(15-x).toNat:Nat))=32768/2^x.toNat:=by
 have e:(15-x).toNat=15-x.toNat:=by omega
 rw[e,show (32768:Nat)=2^15 from rfl,Nat.pow_div (by omega) (by omega)]
theorem WM (ao:Option Addr)(cap:Nat)(ls:List Int)(n:Nat)(w:World)(hn0:ls.length=n)(hn:n<=320)(hint:Ints w ao ls)(hrg:∀j,ls.getD j 0<=15): Calls Tryz.prog 168 #[.slice ao n cap] w fun e w'=>e=.returned (.bool (Rf.full ls))/\w'=w:=by
 go_enter Tryz.func168,Tryz.ntmps168
 go_wp2
 go_loop [3,8] (fun s i=>∃k:Nat,k<=n/\i=.int .i64 k/\s=.int .i64 (Rf.fs ls k)) (fun _ i=>n-(intOf i).toNat)
 case atStart=>exact⟨0,aaj _,rfl,rfl⟩
 case round =>
  obtain⟨k,hk,rfl,rfl⟩:=hrel;have hfs:=Rf.Np ls k;by_cases hlt:k<n
  ·obtain⟨b,off,rfl,hc⟩:=hint k (by omega);obtain⟨x,hx⟩:∃x:Int,x=ls[k]:=⟨_,rfl⟩
   have hx2:ls.getD k 0=x:=by rw[hx];simp[List.getD,List.getElem?_eq_getElem (show k<ls.length by omega)]
   have K8:x<=15:=by rw[<-hx2];exact hrg k
   rw[<-hx]at hc;have HF:Hid (Rf.fs ls (k+1)=Rf.fs ls k+if 0<x then 32768/2^x.toNat else 0):=by show _=_;rw[<-hx2];rfl
   have ve:(Rf.fs ls k:Int)<=10485760:=by omega
   clear hx hx2 hrg hfs;by_cases h0:0<x
   ·obtain⟨y,hy⟩:∃y:Nat,y=32768/2^x.toNat:=⟨_,rfl⟩
    have hyb:y<=32768:=by rw[hy];exact Nat.div_le_self _ _
    have e0:(2:Nat)^(15-x).toNat=y:=by rw[hy,Lw x h0 K8]
    have e1:(2:Int)^(15-x).toNat=(y:Int):=by rw[<-e0];simp
    have e2:(1:Int)*2^(15-x).toNat=(y:Int):=by rw[Int.one_mul];exact e1
    have e3:(0:Int)<=15-x:=by omega
    have cz:Hid (Rf.fs ls (k+1)=Rf.fs ls k+y):=by show _=_;rw[HF.out,aaf h0,<-hy]
    clear hy HF e0;go_wp2
    go_round
    case rel=>exact⟨k+1,by omega,by go_num,by rw[cz.out];go_num⟩
    case measure=>simp[intOf];omega
   ·have cz:Hid (Rf.fs ls (k+1)=Rf.fs ls k):=by show _=_;rw[HF.out,aae h0];rfl
    clear HF;go_wp2
    go_round
    case rel=>exact⟨k+1,by omega,by go_num,by rw[cz.out]⟩
    case measure=>simp[intOf];omega
  ·have hkn:k=n:=by omega
   subst hkn;go_wp2
   go_ret
   refine⟨aG ?_,rfl⟩;rw[Rf.full,hn0,aa3];simp;omega
theorem OO (w:World): Calls Tryz.prog 157 #[] w fun e w'=>e=.returned (.slice (some ⟨w.heap.size,0,none⟩) 288 288)/\aR w' w.heap.size Rf.bE/\Below w.heap.size w w':=by
 obtain⟨Z,hZ⟩:∃Z:List Value,Z=List.replicate 288 (.int .i64 0):=⟨_,rfl⟩
 have hmk:∀u:World,(Instr.makeSlice 24 (.int .i64 288) (.int .i64 288)).run Tryz.prog u=.ok (.slice (some ⟨u.heap.size,0,none⟩) 288 288) (u.alloc (.cells Z.toArray 3)):=fun u=>iE 288 (by omega) Z hZ u;have HZ:Hid (Z=vals (part 288 0 Rf.rP)):=by show _=_;rw[hZ,mY,aX]
 clear hZ
 go_enter Tryz.func157,Tryz.ntmps157
 go_wp2
 go_loopw [6] (fun i wr=>∃k:Nat,k<=288/\i=.int .i64 k/\aR wr w.heap.size (part 288 k Rf.rP)/\Below w.heap.size w wr) (fun i _=>288-(intOf i).toNat)
 case atStart=>exact⟨0,aaj _,rfl,(ak w _).trans (by rw[HZ.out]),(aak _ _).alloc (aad _) _⟩
 case round =>
  obtain⟨k,hk,rfl,hl,hb⟩:=hrel;by_cases hlt:k<288
  ·obtain⟨x,c1⟩:∃x,wr.cell? ⟨w.heap.size,k,none⟩=some (.int .i64 x):=⟨_,hl.cell k (by simp;omega)⟩
   have f1:wr.frozen? ⟨w.heap.size,k,none⟩=false:=aaE wr _ _ _ _ hl;obtain⟨y,hy⟩:∃y:Int,y=Rf.rP k:=⟨_,rfl⟩
   have HL:Hid (aR (wr.setCell ⟨w.heap.size,k,none⟩ (.int .i64 y)) w.heap.size (part 288 (k+1) Rf.rP)/\Below w.heap.size w (wr.setCell ⟨w.heap.size,k,none⟩ (.int .i64 y))):=⟨by rw[hy,<-oL];exact hl.set k _,hb.setCell (aad _) _⟩
   have hd:decide ((k:Int)<288)=true:=by simp;omega
   unfold Rf.rP at hy;by_cases h1:k<144
   ·rw[aaf h1]at hy;subst hy;go_wp2
    go_roundw
    case rel=>exact⟨k+1,by omega,by go_num,HL.out.1,HL.out.2⟩
    case measure=>simp[intOf];omega
   ·rw[aae h1]at hy;by_cases h2:k<256
    ·rw[aaf h2]at hy;subst hy;go_wp2
     go_roundw
     case rel=>exact⟨k+1,by omega,by go_num,HL.out.1,HL.out.2⟩
     case measure=>simp[intOf];omega
    ·rw[aae h2]at hy;by_cases h3:k<280
     ·rw[aaf h3]at hy;subst hy;go_wp2
      go_roundw
      case rel=>exact⟨k+1,by omega,by go_num,HL.out.1,HL.out.2⟩
      case measure=>simp[intOf];omega
     ·rw[aae h3]at hy;subst hy;go_wp2
      go_roundw
      case rel=>exact⟨k+1,by omega,by go_num,HL.out.1,HL.out.2⟩
      case measure=>simp[intOf];omega
  ·have hk2:k=288:=by omega
   subst hk2;go_wp2
   go_ret
   refine⟨rfl,?_,hb⟩;rw[Rf.bE,<-oM];exact hl
def dF:List Int:=(List.range 30).map fun _=>5
theorem OP (w:World): Calls Tryz.prog 158 #[] w fun e w'=>e=.returned (.slice (some ⟨w.heap.size,0,none⟩) 30 30)/\aR w' w.heap.size dF/\Below w.heap.size w w':=by
 obtain⟨Z,hZ⟩:∃Z:List Value,Z=List.replicate 30 (.int .i64 0):=⟨_,rfl⟩
 have hmk:∀u:World,(Instr.makeSlice 24 (.int .i64 30) (.int .i64 30)).run Tryz.prog u=.ok (.slice (some ⟨u.heap.size,0,none⟩) 30 30) (u.alloc (.cells Z.toArray 3)):=fun u=>iE 30 (by omega) Z hZ u;have HZ:Hid (Z=vals (part 30 0 fun _=>5)):=by show _=_;rw[hZ,mY,aX]
 clear hZ
 go_enter Tryz.func158,Tryz.ntmps158
 go_wp2
 go_loopw [6] (fun i wr=>∃k:Nat,k<=30/\i=.int .i64 k/\aR wr w.heap.size (part 30 k fun _=>5)/\Below w.heap.size w wr) (fun i _=>30-(intOf i).toNat)
 case atStart=>exact⟨0,aaj _,rfl,(ak w _).trans (by rw[HZ.out]),(aak _ _).alloc (aad _) _⟩
 case round =>
  obtain⟨k,hk,rfl,hl,hb⟩:=hrel;by_cases hlt:k<30
  ·obtain⟨x,c1⟩:∃x,wr.cell? ⟨w.heap.size,k,none⟩=some (.int .i64 x):=⟨_,hl.cell k (by simp;omega)⟩
   have f1:wr.frozen? ⟨w.heap.size,k,none⟩=false:=aaE wr _ _ _ _ hl;have HL:Hid (aR (wr.setCell ⟨w.heap.size,k,none⟩ (.int .i64 5)) w.heap.size (part 30 (k+1) fun _=>5)/\Below w.heap.size w (wr.setCell ⟨w.heap.size,k,none⟩ (.int .i64 5))):=⟨by rw[<-oL];exact hl.set k _,hb.setCell (aad _) _⟩
   go_wp2
   go_roundw
   case rel=>exact⟨k+1,by omega,by go_num,HL.out.1,HL.out.2⟩
   case measure=>simp[intOf];omega
  ·have hk2:k=30:=by omega
   subst hk2;go_wp2
   go_ret
   refine⟨rfl,?_,hb⟩;rw[dF,<-oM];exact hl
end
section
open Go.RowKit Go.Maps
end
section
open Go.RowKit
def code (st:Rf.St):Int:=if st.full=true then 7 else 6
end
section
open Go.RowKit Go.Maps
abbrev Ih:Array Value:=#[.int .i64 16,.int .i64 17,.int .i64 18,.int .i64 0,.int .i64 8,.int .i64 7,.int .i64 9,.int .i64 6,.int .i64 10,.int .i64 5,.int .i64 11,.int .i64 4,.int .i64 12,.int .i64 3,.int .i64 13,.int .i64 2,.int .i64 14,.int .i64 1,.int .i64 15]
theorem Lx (i:Nat)(h:i<19):Ih[i]?=some (.int .i64 ((Rf.order.getD i 0:Nat):Int)):=by
 match i,h with
 | 0,_=>rfl|1,_=>rfl|2,_=>rfl|3,_=>rfl|4,_=>rfl|5,_=>rfl|6,_=>rfl|7,_=>rfl|8,_=>rfl|9,_=>rfl|10,_=>rfl|11,_=>rfl|12,_=>rfl|13,_=>rfl|14,_=>rfl|15,_=>rfl|16,_=>rfl|17,_=>rfl|18,_=>rfl
 | n+19,h=>omega
abbrev sH:Array Value:=#[.int .i64 0,.int .i64 0,.int .i64 0,.int .i64 0,.int .i64 0,.int .i64 0,.int .i64 0,.int .i64 0,.int .i64 0,.int .i64 0,.int .i64 0,.int .i64 0,.int .i64 0,.int .i64 0,.int .i64 0,.int .i64 0,.int .i64 0,.int .i64 0,.int .i64 0]
theorem Bg:(Tryz.prog.info? 233).map (·.size)=some 19:=by kernel_rfl
theorem xg (w:World):Calls Tryz.prog 198 #[] w fun e w'=>∃O:Array Value,e=.returned (.agg O)/\O.size=19/\(∀i,i<19->O[i]?=some (.int .i64 ((Rf.order.getD i 0:Nat):Int)))/\O.all (·.oneCell')=true/\Below w.heap.size w w':=by
 go_enter Tryz.func198,Tryz.ntmps198
 go_wp2_with (first|(refine wpList_build rfl 233 _ rfl (by kernel_rfl) ?_)|(refine wpList_store_row rfl 233 _ _ rfl w.heap.size Ih rfl (by kernel_rfl) 233 sH (ak w _) Bg rfl (by kernel_rfl) ?_))
 exact aal (v:=.agg Ih) (results_cell_row rfl _ _ w.heap.size 233 Ih (0,0) _ rfl (setRow_heap _ w.heap.size _ _ 233 _ (ak w _)) Tryz.underlying233 rfl Bg) rfl
  ⟨Ih,rfl,rfl,Lx,by kernel_rfl,below_setRow ((aak _ _).alloc (aad _) _) (aad _) _⟩
theorem Ii (n:Nat)(hn:n<=320)(Z:List Value)(hZ:Z=List.replicate n (.int .i64 0))(u:World): (Instr.makeSlice 24 (.int .i64 0) (.int .i64 (n:Int))).run Tryz.prog u=.ok (.slice (some ⟨u.heap.size,0,none⟩) 0 n) (u.alloc (.cells Z.toArray 3)):=by
 obtain⟨i0,hi,hz0,hz1,hz2⟩:=aaX Tryz.info3;have h:=run_make (P:=Tryz.prog) u 24 3 i0 (.int .i64 0) Tryz.underlying24 hi hz0 .i64 .i64 0 (n:Int) (by omega) (by omega) (by rw[hz2];omega) (by omega);have e2:(madeCells #[Value.int .i64 0] n)=Z.toArray:=by rw[hZ,<-ab7]
 simpa[hz1,Value.cells,e2]using h
end
end Go.Proofs.YtmfijackgekioaaGreatDoor
