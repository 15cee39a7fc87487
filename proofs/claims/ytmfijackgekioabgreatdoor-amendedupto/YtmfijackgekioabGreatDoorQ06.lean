import Derived.Test.YtmfijackgekioabGreatDoorQ05
set_option maxHeartbeats 4000000
set_option maxRecDepth 100000
namespace Go.Proofs.YtmfijackgekioabGreatDoor
open Go.RowKit
theorem M8 (n d:Nat)(s:ByteArray)(R:Nat)(limit:Int)(st:Rf.St)(ov:Value)(w:World)(h:Pg w s R limit st ov)(hout:Hid (st.out.length<=11000000000))(hn:n<=258)(hd:1<=d)(hd2:d<=65536): Calls Tryz.prog 100 #[.int .i64 n,.int .i64 d,.pointer (some ⟨R+2,0,none⟩),.pointer (some ⟨R+5,0,none⟩)] w fun e w' =>
   (d<=st.out.length/\Rf.room limit st n=(true,st)/\e=.returned (.tuple #[])/\(∃xQ,Pg w' s R limit { st with out:=Rf.zw d n st.out } xQ)/\jP R w w') \/
   (d<=st.out.length/\Rf.room limit st n=(false,{ st with full:=true })/\e=dies 7/\Below R w w')\/(st.out.length<d/\e=dies 6/\Below R w w'):=by
 obtain⟨i0,hi,hz0,hz1,hz2⟩:=abu Tryz.infoB;obtain⟨c1,c2,c3,c5,fz⟩:=h.cells;have HO0:=hout.out;have ho2:(st.out.length:Int)<=11000000000:=by omega
 have H:=h;obtain⟨oa,oc,rfl⟩:=aS h.ho;by_cases hlt:st.out.length<d
 ·have hlt':(st.out.length:Int)<(d:Int):=by omega
  go_enter Tryz.func100,Tryz.ntmps100
  go_wp2;exact⟨rfl,.inr (.inr ⟨hlt,rfl,aav _ _⟩)⟩
 ·have hlt':¬(st.out.length:Int)<(d:Int):=by omega
  go_enter Tryz.func100,Tryz.ntmps100
  go_wp2_with fail;refine (Ct n s R limit st _ _ h (by omega)).mono ?_;rintro e w1 (⟨hr,rfl,hol,m,rfl⟩|⟨hr,rfl,m,rfl⟩)
  ·have HR:Hid (Rf.room limit st n=(true,st)):=hr;have PD:Hid (((st.out.length+n:Nat):Int)<=max limit 0):=hol;have h2:=h.drewN m;have F2:=(jP.refl R w).drewN m;clear hr hol h H c1 c2 c3 c5 fz;generalize w.drewN m=w0 at *;go_wp2
   go_loopw [17] (fun v wr=>∃(k:Nat) (o:List UInt8),k<=n/\v=.int .i64 k/\(∃xQ,Pg wr s R limit { st with out:=o } xQ)/\jP R w wr/\Hid (Rf.zw d (n-k) o=Rf.zw d n st.out)/\Hid (d<=o.length/\o.length=st.out.length+k)) (fun v _=>n-(intOf v).toNat)
   case atStart=>exact⟨0,st.out,aaq _,rfl,⟨_,h2⟩,F2,rfl,by show _/\_;omega⟩
   case round =>
    clear h2 F2;obtain⟨k,o,hk,rfl,⟨ov5,r5⟩,f5,HC,Ev⟩:=hrel;by_cases hkn:k<n
    ·obtain⟨g,ol,rfl,hgb⟩:=r5.ho.form (by have:=Ev.out;show 0<o.length;omega);obtain⟨c,hc⟩:∃c:UInt8,c=o.getD (o.length-d) 0:=⟨_,rfl⟩
     have hcell:wr.cell? ⟨g,o.length-d,none⟩=some (.int .u8 c.toNat):=(r5.ho.cellAt (o.length-d) (by have:=Ev.out;show _<o.length*1;omega)).trans (by rw[hc];have:=Ev.out;simp[List.getD,List.getElem?_eq_getElem (show o.length-d<o.length by omega)]);have U9:Hid (Rf.zw d (n-(k+1)) (o++[c])=Rf.zw d n st.out):=by show _=_;rw[<-HC.out,show n-k=(n-(k+1))+1 by omega,Rf.zw,hc]
     have HB:Hid (o.length+1<=maxLen/\(o.length+1)*1<=140737488355328):=by have:=Ev.out;show _/\_;unfold maxLen;omega
     have HO6:Hid (d<=(o++[c]).length/\(o++[c]).length=st.out.length+(k+1)):=by have:=Ev.out;show _/\_;simp;omega
     have Zz:Hid (((o.length+1:Nat):Int)<=max limit 0):=by have:=Ev.out;have:=PD.out;show _<=_;omega
     have j1:(0:Int)<=(o.length:Int)-(d:Int):=by have:=Ev.out;omega
     have j2:(o.length:Int)-(d:Int)<(o.length:Int):=by omega
     have j3:(o.length:Int)<=4611686018427387904:=by have:=Ev.out;omega
     have ZA:IntKind.i64.wrap ((o.length:Int)-(d:Int))=((o.length-d:Nat):Int):=by rw[aao _ (by have:=Ev.out;omega)];have:=Ev.out;omega
     have j4:((o.length-d:Nat):Int)<(o.length:Int):=by have:=Ev.out;omega
     have hl5:=r5.lt;have hg5:=(r5.ho.lt g rfl).2;obtain⟨d1,d2,d3,d5,gz⟩:=r5.cells;have b1:R+1<wr.heap.size:=by omega
     have b2:R+2<wr.heap.size:=by omega
     clear hc HC Ev;go_wp2;have hS:wr.drew.cell? ⟨R+2,0,none⟩=some (.pointer (some ⟨R+1,0,none⟩))/\wr.drew.cell? ⟨R+1,0,none⟩=some (.slice (some ⟨g,0,none⟩) o.length ol):=⟨d2,d1⟩
     refine ax (fun w'=>w'.cell? ⟨R+2,0,none⟩=some (.pointer (some ⟨R+1,0,none⟩))/\w'.cell? ⟨R+1,0,none⟩=some (.slice (some ⟨g,0,none⟩) o.length ol)) 18 ?_;refine aB 0 (v:=?_) ?_ hS ?_;rotate_left
     ·intro w hSw;(try dsimp only at hSw);go_simp;try with_reducible rfl
     try simp only[Act.put]
     refine aB 1 (v:=?_) ?_ hS ?_;rotate_left
     ·intro w hSw;(try dsimp only at hSw);go_simp;try with_reducible rfl
     try simp only[Act.put]
     refine aB 2 (v:=?_) ?_ hS ?_;rotate_left
     ·intro w hSw;(try dsimp only at hSw);go_simp;try with_reducible rfl
     try simp only[Act.put]
     refine aB 3 (v:=?_) ?_ hS ?_;rotate_left
     ·intro w hSw;(try dsimp only at hSw);go_simp;try with_reducible rfl
     try simp only[Act.put]
     refine aB 4 (v:=?_) ?_ hS ?_;rotate_left
     ·intro w hSw;(try dsimp only at hSw);go_simp;try with_reducible rfl
     try simp only[Act.put]
     refine aB 5 (v:=?_) ?_ hS ?_;rotate_left
     ·intro w hSw;(try dsimp only at hSw);go_simp;try with_reducible rfl
     try simp only[Act.put]
     refine aB 6 (v:=?_) ?_ hS ?_;rotate_left
     ·intro w hSw;(try dsimp only at hSw);go_simp;try with_reducible rfl
     try simp only[Act.put]
     refine aB 7 (v:=?_) ?_ hS ?_;rotate_left
     ·intro w hSw;(try dsimp only at hSw);go_simp;try with_reducible rfl
     try simp only[Act.put]
     refine aB 8 (v:=?_) ?_ hS ?_;rotate_left
     ·intro w hSw;(try dsimp only at hSw);go_simp;try with_reducible rfl
     try simp only[Act.put]
     refine aB 9 (v:=?_) ?_ hS ?_;rotate_left
     ·intro w hSw;(try dsimp only at hSw);go_simp;try with_reducible rfl
     try simp only[Act.put]
     refine aB 10 (v:=?_) ?_ hS ?_;rotate_left
     ·intro w hSw;(try dsimp only at hSw);go_simp;try with_reducible rfl
     try simp only[Act.put]
     refine aB 11 (v:=?_) ?_ hS ?_;rotate_left
     ·intro w hSw;(try dsimp only at hSw);go_simp;try with_reducible rfl
     try simp only[Act.put]
     refine aB 12 (v:=?_) ?_ hS ?_;rotate_left
     ·intro w hSw;(try dsimp only at hSw);go_simp;try with_reducible rfl
     try simp only[Act.put]
     refine aB 13 (v:=?_) ?_ hS ?_;rotate_left
     ·intro w hSw;(try dsimp only at hSw);go_simp;try with_reducible rfl
     try simp only[Act.put]
     refine ag 14 fun K hK=>?_;go_simp;refine hK _ _ (fun _=>hS) ?_;clear hK K;refine ag 15 fun K hK=>?_;go_simp
     have hS2:(wr.drew.alloc (.cells #[.int .u8 c.toNat] 5)).cell? ⟨R+2,0,none⟩=some (.pointer (some ⟨R+1,0,none⟩))/\(wr.drew.alloc (.cells #[.int .u8 c.toNat] 5)).cell? ⟨R+1,0,none⟩=some (.slice (some ⟨g,0,none⟩) o.length ol) :=
      ⟨(World.cell?_alloc_lt _ _ _ b2).trans hS.1,(World.cell?_alloc_lt _ _ _ b1).trans hS.2⟩
     refine hK _ _ (fun _=>hS2) ?_;clear hK K;refine ag 16 fun K hK=>?_;refine step_append_lies _ (by rfl) _ _ _ (by rfl) (R+6) 5 i0 _ 1 1 Tryz.underlying36 hi hz0 hz1 hz2 rfl (by omega) (.slice (some ⟨g,0,none⟩) o.length ol) o.length (o.map cm) (by rfl) ((r5.ho.alloc _).drew) ⟨wr.heap.size,0,none⟩ 1 1 [.int .u8 c.toNat] (by rfl) (by rfl) (World.news_of_block (cs:=#[.int .u8 c.toNat]) (t:=5) (fr:=(0,0)) (heap_alloc_new wr _)) (by simp[Value.oneCell']) (by omega) HB.out.1 HB.out.2 (by simp;omega) (wr.heap.size+1) (by simp) ?_;intro gg cp w6 hown' hgrow hat Zy;obtain⟨q1,q2,q3⟩:=r5.grown (.cells #[.int .u8 c.toNat] 5) ⟨hgrow.os,hgrow.tape,hgrow.output,hgrow.size,hgrow.block⟩;refine hK _ _ (fun _=>⟨q3,q1⟩) ?_;clear hK K
     try simp only[Act.put]
     refine ag 17 fun K hK=>?_;go_simp;refine hK _ _ (fun _=>⟨q3,q1⟩) ?_;clear hK K;refine ag 18 fun K hK=>?_;go_simp;refine hK _ _ (fun h=>absurd rfl h) ?_;clear hK K;refine am ?_;have R7:=r5.push (.cells #[.int .u8 c.toNat] 5) c Zz.out hown' ⟨hgrow.os,hgrow.tape,hgrow.output,hgrow.size,hgrow.block⟩;clear hown' hgrow r5 hcell ZA q1 q2 q3 d1 d2 d3 d5 gz hS hS2;go_wp2
     go_roundw
     case rel=>exact⟨k+1,o++[c],by omega,by go_num,⟨_,R7.1⟩,f5.trans R7.2,U9,HO6⟩
     case measure=>simp[intOf];omega
    ·have hkk:k=n:=by omega
     subst hkk;have HE:Hid (o=Rf.zw d k st.out):=by show _=_;rw[<-HC.out,Nat.sub_self];rfl
     go_wp2
     go_end0
     exact .inl ⟨by omega,HR.out,rfl,⟨_,by rw[<-HE.out];exact r5⟩,f5⟩
  ·go_wp2;exact⟨rfl,.inr (.inl ⟨by omega,hr,rfl,aaD (aav _ _) _⟩)⟩
def code (st:Rf.St):Int:=if st.full=true then 7 else 6
def Ends (s:ByteArray)(R:Nat)(limit:Int)(w:World)(F:Rf.St)(e:Ending)(w':World):Prop :=
 (F.bad=false/\F.full=false/\e=.returned (.tuple #[])/\(∃xQ,Pg w' s R limit F xQ)/\jP R w w')\/((F.bad||F.full)=true/\e=dies (code F)/\Below R w w')
theorem mM {F:Rf.St}(h:F.full=false):code F=6:=by unfold code;rw[h];rfl
theorem ft {s:ByteArray}{R:Nat}{limit:Int}{w w':World}{F:Rf.St}(h1:F.bad=true)(h2:F.full=false)(h:Below R w w'):Ends s R limit w F (dies 6) w':=.inr ⟨by rw[h1];rfl,by rw[mM h2],h⟩
abbrev dJ (R:Nat):Array Value:=#[rj R,Cr R,tk R]
abbrev JD (R:Nat):Value:=.agg (dJ R)
theorem Ra (s:ByteArray)(q k:Nat)(hk:k<=8):Rf.bv (lw s) (8*q) k=(((s.data.toList.getD q 0).toNat%2^k:Nat):Int):=by
 induction k with
 | zero=>simp[Rf.bv,Nat.mod_one]
 | succ k ih =>
  have e:(lw s).getD (8*q+k) 0=(((s.data.toList.getD q 0).toNat/2^k%2:Nat):Int):=by
   have h:=oI s.data.toList (8*q+k);rw[show (8*q+k)/8=q by omega,show (8*q+k)%8=k by omega]at h;exact h
  rw[Rf.bv,ih (by omega),e,Nat.mod_pow_succ];simp only[Int.natCast_add,Int.natCast_mul,Int.natCast_pow];rw[Int.mul_comm];rfl
theorem Ew (s:ByteArray)(q:Nat):Rf.bv (lw s) (8*q) 8=((s.data.toList.getD q 0).toNat:Int):=by
 rw[Ra s q 8 (by omega),abE];have:=(s.data.toList.getD q 0).toNat_lt;omega
theorem Cu (c:UInt8):UInt8.ofNat ((c.toNat:Int)).toNat=c:=by simp
theorem Ex (s:ByteArray):∀(n q:Nat) (st:Rf.St),st.pos=8*q->st.bad=false->q+n<=s.size -> Rf.iK (lw s) n st={ st with pos:=8*(q+n),out:=st.out++(s.data.toList.drop q).take n }
 | 0,q,st,hp,_,_=>by
  rw[Rf.iK];cases st
  simp_all
 | n+1,q,st,hp,hb,h=>by
  have e:Rf.take (lw s) st 8=(((s.data.toList.getD q 0).toNat:Int),{ st with pos:=8*(q+1) }):=by
   rw[Rf.take,aai (by rw[aw];omega),hp,Ew];simp only[show 8*q+8=8*(q+1) by omega]
  rw[Rf.iK,aai (by rw[hb];decide),e];simp only[Cu];have ih:=Ex s n (q+1) { st with pos:=8*(q+1),out:=st.out++[s.data.toList.getD q 0] } rfl hb (by omega);rw[ih];have hl:q<s.data.toList.length:=by simp;omega
  have e2:(s.data.toList.drop q).take (n+1)=s.data.toList.getD q 0::(s.data.toList.drop (q+1)).take n:=by
   rw[List.drop_eq_getElem_cons hl,List.take_succ_cons];simp[List.getD,List.getElem?_eq_getElem hl]
  simp only[e2,aaw,List.singleton_append,show q+1+n=q+(n+1) by omega]
theorem M9 (L:List Int):∀(n:Nat) (st:Rf.St),st.bad=true->Rf.iK L n st=st
 | 0,_,_=>rfl
 | n+1,st,h=>by rw[Rf.iK,aaj h]
theorem vZ (s:ByteArray):∀(n q:Nat) (st:Rf.St),st.pos=8*q->q<=s.size->s.size<q+n->(Rf.iK (lw s) n st).bad=true/\(Rf.iK (lw s) n st).full=st.full
 | 0,q,st,_,h1,h2=>by omega
 | n+1,q,st,hp,h1,h2=>by
  rw[Rf.iK];split
  ·rename_i h;exact⟨h,rfl⟩
  ·by_cases hq:q<s.size
   ·have e:Rf.take (lw s) st 8=(((s.data.toList.getD q 0).toNat:Int),{ st with pos:=8*(q+1) }):=by
     rw[Rf.take,aai (by rw[aw];omega),hp,Ew];simp only[show 8*q+8=8*(q+1) by omega]
    rw[e];exact vZ s n (q+1) _ rfl (by omega) (by omega)
   ·have e:Rf.take (lw s) st 8=(0,{ st with bad:=true }):=by rw[Rf.take,aaj (by rw[aw];omega)]
    rw[e];simp only;rw[M9 _ _ _ rfl];exact⟨rfl,rfl⟩
theorem Cv (n:Nat)(h:n<65536):bits .xor .i64 (n:Int) 65535=((65535-n:Nat):Int):=by
 have hx:n^^^65535=65535-n:=by
  apply Nat.eq_of_testBit_eq;intro i;rw[Nat.testBit_xor,show (65535:Nat)=2^16-1 from rfl,Nat.testBit_two_pow_sub_one,show 2^16-1-n=2^16-(n+1) by omega,Nat.testBit_two_pow_sub_succ (by omega)];by_cases hi:i<16
  ·simp[hi]
  ·rw[Nat.testBit_lt_two_pow (x:=n) (i:=i) (aaQ h (by show 2^16<=_;exact abs (by omega) (by omega)))];simp[hi]
 have key:(BitVec.ofInt 64 (n:Int)^^^BitVec.ofInt 64 65535).toNat=65535-n:=by
  rw[BitVec.toNat_xor,acd,acd];have t1:((n:Int)%((2^64:Nat):Int)).toNat=n:=by omega
  have t2:((65535:Int)%((2^64:Nat):Int)).toNat=65535:=by omega
  rw[t1,t2,hx]
 show IntKind.i64.wrap ((BitVec.ofInt 64 (n:Int)^^^BitVec.ofInt 64 65535).toNat:Nat)=_;rw[key,acX];omega
theorem zN (L:List Int)(limit:Int)(st:Rf.St):Rf.plain L limit st = if (if (Rf.take L { st with pos:=(st.pos+7)/8*8 } 16).1+(Rf.take L (Rf.take L { st with pos:=(st.pos+7)/8*8 } 16).2 16).1=65535 then (Rf.take L (Rf.take L { st with pos:=(st.pos+7)/8*8 } 16).2 16).2 else { (Rf.take L (Rf.take L { st with pos:=(st.pos+7)/8*8 } 16).2 16).2 with bad:=true }).bad=true then (if (Rf.take L { st with pos:=(st.pos+7)/8*8 } 16).1+(Rf.take L (Rf.take L { st with pos:=(st.pos+7)/8*8 } 16).2 16).1=65535 then (Rf.take L (Rf.take L { st with pos:=(st.pos+7)/8*8 } 16).2 16).2 else { (Rf.take L (Rf.take L { st with pos:=(st.pos+7)/8*8 } 16).2 16).2 with bad:=true }) else (if (Rf.room limit (if (Rf.take L { st with pos:=(st.pos+7)/8*8 } 16).1+(Rf.take L (Rf.take L { st with pos:=(st.pos+7)/8*8 } 16).2 16).1=65535 then (Rf.take L (Rf.take L { st with pos:=(st.pos+7)/8*8 } 16).2 16).2 else { (Rf.take L (Rf.take L { st with pos:=(st.pos+7)/8*8 } 16).2 16).2 with bad:=true }) (Rf.take L { st with pos:=(st.pos+7)/8*8 } 16).1.toNat).1=true then Rf.iK L (Rf.take L { st with pos:=(st.pos+7)/8*8 } 16).1.toNat (Rf.room limit (if (Rf.take L { st with pos:=(st.pos+7)/8*8 } 16).1+(Rf.take L (Rf.take L { st with pos:=(st.pos+7)/8*8 } 16).2 16).1=65535 then (Rf.take L (Rf.take L { st with pos:=(st.pos+7)/8*8 } 16).2 16).2 else { (Rf.take L (Rf.take L { st with pos:=(st.pos+7)/8*8 } 16).2 16).2 with bad:=true }) (Rf.take L { st with pos:=(st.pos+7)/8*8 } 16).1.toNat).2 else (Rf.room limit (if (Rf.take L { st with pos:=(st.pos+7)/8*8 } 16).1+(Rf.take L (Rf.take L { st with pos:=(st.pos+7)/8*8 } 16).2 16).1=65535 then (Rf.take L (Rf.take L { st with pos:=(st.pos+7)/8*8 } 16).2 16).2 else { (Rf.take L (Rf.take L { st with pos:=(st.pos+7)/8*8 } 16).2 16).2 with bad:=true }) (Rf.take L { st with pos:=(st.pos+7)/8*8 } 16).1.toNat).2):=rfl
theorem FZ (L:List Int)(limit:Int)(st st2 dI:Rf.St)(a b:Int)(h1:Rf.take L { st with pos:=(st.pos+7)/8*8 } 16=(a,st2))(h2:Rf.take L st2 16=(b,dI))(hb:dI.bad=false): Rf.plain L limit st=if a+b=65535 then (if (Rf.room limit dI a.toNat).1=true then Rf.iK L a.toNat (Rf.room limit dI a.toNat).2 else (Rf.room limit dI a.toNat).2) else { dI with bad:=true }:=by
 rw[zN,h1,h2];by_cases h:a+b=65535
 ·simp only[aaj h];rw[aai (by rw[hb];decide)]
 ·simp only[aai h,if_true]
theorem Cw (L:List Int)(limit:Int)(st:Rf.St)(hf:st.full=false)(h:(Rf.take L (Rf.take L { st with pos:=(st.pos+7)/8*8 } 16).2 16).2.bad=true):(Rf.plain L limit st).bad=true/\(Rf.plain L limit st).full=false:=by
 have f1:=(Rf.aZ L { st with pos:=(st.pos+7)/8*8 } 16).2.2;have f2:=(Rf.aZ L (Rf.take L { st with pos:=(st.pos+7)/8*8 } 16).2 16).2.2
 have e:((if (Rf.take L { st with pos:=(st.pos+7)/8*8 } 16).1+(Rf.take L (Rf.take L { st with pos:=(st.pos+7)/8*8 } 16).2 16).1=65535 then (Rf.take L (Rf.take L { st with pos:=(st.pos+7)/8*8 } 16).2 16).2 else { (Rf.take L (Rf.take L { st with pos:=(st.pos+7)/8*8 } 16).2 16).2 with bad:=true })).bad=true:=by
  split
  ·exact h
  ·rfl
 rw[zN,aaj e];refine⟨e,?_⟩;split
 ·rw[f2,f1];exact hf
 ·show (Rf.take L (Rf.take L { st with pos:=(st.pos+7)/8*8 } 16).2 16).2.full=false;rw[f2,f1];exact hf
theorem Rb (t:ByteArray)(k:Nat)(h:k<t.size)(w:World):(Instr.index 9 (.string t) (.int .i64 (k:Int))).run Tryz.prog w=.ok (.int .u8 ((t.data.toList.getD k 0).toNat:Int)) w:=by
 rw[run_index_string _ 9 t .i64 _ Tryz.underlying9,dif_pos (by omega)]
 have e2:t.data.toList.getD k 0=t[k]:=by
  have hl:k<t.data.toList.length:=by simpa using h
  rw[List.getD,aan hl];rfl
 rw[e2];simp
theorem Pg.alloc {w:World}{s:ByteArray}{R:Nat}{limit:Int}{st:Rf.St}{ov:Value}(h:Pg w s R limit st ov)(o:Obj):Pg (w.alloc o) s R limit st ov :=
 h.read ((Kp.refl (·=R) w).alloc o) (ak h.rd o) h.hp rfl h.nb h.nf
theorem jP.alloc {R:Nat}{a w:World}(h:jP R a w)(hR:R<=w.heap.size)(o:Obj):jP R a (w.alloc o):=h.trans (jP.jx hR ((Kp.refl (·=R) w).alloc o))
theorem JE (s:ByteArray)(R:Nat)(limit:Int)(st:Rf.St)(ov:Value)(w:World)(h:Pg w s R limit st ov)(hout:Hid (st.out.length<=10900000000)): Calls Tryz.prog 74 #[.pointer (some ⟨R,0,none⟩),JD R] w fun e w'=>Ends s R limit w (Rf.plain (lw s) limit st) e w':=by
 have hs:=h.hs;have hp:=h.hp;have hlt:=h.lt;have hnb:=h.nb;have hnf:=h.nf;obtain⟨F,hF⟩:∃F,F=Rf.plain (lw s) limit st:=⟨_,rfl⟩
 rw[<-hF];have HF:Hid (F=Rf.plain (lw s) limit st):=hF;have h1:=h.alloc (.cells (dJ R) 111);have F1:=(jP.refl R w).alloc (by omega) (.cells (dJ R) 111);have Na:Hid ((w.alloc (.cells (dJ R) 111)).heap[w.heap.size]?=some (.cells (dJ R) 111 (0,0))):=ah w _;clear hF
 go_enter Tryz.func74,Tryz.ntmps74
 go_wp2_with fail;refine (QP s R st.pos _ h1.rd (by omega)).mono ?_;rintro e w2 ⟨rfl,r2,k2⟩;have h2:Pg w2 s R limit { st with pos:=(st.pos+7)/8*8 } ov:=h1.read k2 r2 (by show (st.pos+7)/8*8<=_;omega) rfl hnb hnf;have F2:=F1.trans (jP.jx (by have:=h1.lt;omega) k2);have HB2:Hid (w2.heap[w.heap.size]?=some (.cells (dJ R) 111 (0,0))):=(k2.block _ (by simp) (by omega)).trans Na.out;clear k2 r2 h1 F1 Na h;go_wp2_with fail;refine (dQ 16 s R { st with pos:=(st.pos+7)/8*8 } _ h2.rd hs h2.hp hnb (by omega)).mono ?_;have g1:=Rf.take_range (cQ s) { st with pos:=(st.pos+7)/8*8 } 16;have o1:=Rf.aZ (lw s) { st with pos:=(st.pos+7)/8*8 } 16;have p1:=Rf.cO (lw s) { st with pos:=(st.pos+7)/8*8 } 16 (by rw[aw];exact h2.hp);have HM:=Cw (lw s) limit st hnf;have PE:=FZ (lw s) limit st;have hb2:=Rf.eH (lw s) { st with pos:=(st.pos+7)/8*8 } 16;generalize hA:Rf.take (lw s) { st with pos:=(st.pos+7)/8*8 } 16=A at *;obtain⟨a,st2⟩:=A;simp only at *;rintro e w3 (⟨q1,rfl,r3,k3⟩|⟨q1,rfl,k3⟩)
 case inr =>
  go_wp2
  have Va:(Rf.take (lw s) st2 16).2.bad=true:=by
   cases hc:(Rf.take (lw s) st2 16).2.bad
   ·have:=Rf.eH (lw s) st2 16 hc;rw[q1]at this;exact absurd this.2 (by decide)
   ·rfl
  have hm:=HM Va;exact⟨rfl,ft (by rw[HF.out];exact hm.1) (by rw[HF.out];exact hm.2) (F2.below.trans (k3.below (by have:=h2.lt;omega) (fun k _ h=>by omega)))⟩
 case inl =>
 have h3:Pg w3 s R limit st2 ov:=h2.read k3 r3 (by rw[aw]at p1;exact p1) o1.1 q1 (o1.2.2.trans hnf);have F3:=F2.trans (jP.jx (by have:=h2.lt;omega) k3);have Ug:=aaa HB2.out;have HB3:Hid (w3.heap[w.heap.size]?=some (.cells (dJ R) 111 (0,0))):=(k3.block _ Ug (by omega)).trans HB2.out;have hb3:=hb2 q1;have ho3:=o1.1;have hf3:=o1.2.2;clear k3 r3 h2 F2 HB2 o1 p1 hb2 Ug;go_wp2_with fail;refine (dQ 16 s R st2 _ h3.rd hs h3.hp q1 (by omega)).mono ?_;have g2:=Rf.take_range (cQ s) st2 16;have o2:=Rf.aZ (lw s) st2 16;have p2:=Rf.cO (lw s) st2 16 (by rw[aw];exact h3.hp);have hb4:=Rf.eH (lw s) st2 16;have HP3:=PE st2;generalize hB:Rf.take (lw s) st2 16=B at *;obtain⟨b,dI⟩:=B;simp only at *;rintro e w4 (⟨q2,rfl,r4,k4⟩|⟨q2,rfl,k4⟩)
 case inr =>
  go_wp2;have hm:=HM q2;exact⟨rfl,ft (by rw[HF.out];exact hm.1) (by rw[HF.out];exact hm.2) (F3.below.trans (k4.below (by have:=h3.lt;omega) (fun k _ h=>by omega)))⟩
 case inl =>
 have h4:Pg w4 s R limit dI ov:=h3.read k4 r4 (by rw[aw]at p2;exact p2) o2.1 q2 (o2.2.2.trans h3.nf);have F4:=F3.trans (jP.jx (by have:=h3.lt;omega) k4);have lt3:=aaa HB3.out;have MD:Hid (w4.heap[w.heap.size]?=some (.cells (dJ R) 111 (0,0))):=(k4.block _ lt3 (by omega)).trans HB3.out;have hpos:dI.pos=(st.pos+7)/8*8+32:=by have:=(hb4 q2).1;have:=hb3.1;omega
 have IU:dI.out=st.out:=o2.1.trans ho3;have Ey:=HP3 dI a b rfl rfl q2;obtain⟨c,rfl⟩:∃c:Nat,a=(c:Int):=⟨a.toNat,by omega⟩
 obtain⟨d,rfl⟩:∃d:Nat,b=(d:Int):=⟨b.toNat,by omega⟩
 have hc16:c<65536:=by have:=g1.2;omega
 have zO:d<65536:=by have:=g2.2;omega
 have hx:=Cv d zO;have Uh:Hid (Rf.plain (lw s) limit st=_):=Ey;have Nb:=h4.nf;have HO4:Hid (dI.out=st.out):=IU;obtain⟨c0,c1,c2,cz,xR⟩:=dR MD.out;clear Ey HP3 PE HM k4 r4 h3 F3 HB3 o2 p2 hb3 hb4 hA hB g1 g2 ho3 hf3 IU lt3;by_cases hcd:c+d=65535
 ·have e1:65535-d=c:=by omega
  rw[e1]at hx;rw[aaj (by omega)]at Uh;go_wp2_with fail;refine (Ct c s R limit dI ov _ h4 (by omega)).mono ?_;rintro e w5 (⟨hr,rfl,hol,m,rfl⟩|⟨hr,rfl,m,rfl⟩)
  case inr =>
   go_wp2;have HE:F={ dI with full:=true }:=by rw[HF.out,Uh.out];simp only[acQ];rw[hr];simp
   exact⟨rfl,.inr ⟨by rw[HE];simp,by rw[HE];rfl,F4.below.trans (aaD (aav _ _) _)⟩⟩
  case inl =>
  have YB:Hid (F=Rf.iK (lw s) c dI):=by show _=_;rw[HF.out,Uh.out];simp only[acQ];rw[hr];simp
  have PD:Hid (((dI.out.length+c:Nat):Int)<=max limit 0):=hol;have h5:=h4.drewN m;have F5:=F4.drewN m;have Vb:Hid ((w4.drewN m).heap[w.heap.size]?=some (.cells (dJ R) 111 (0,0))):=MD.out;clear hr hol Uh h4 F4 MD c0 c1 c2 cz xR hx;generalize w4.drewN m=w6 at *;obtain⟨c0,c1,c2,cz,xR⟩:=dR Vb.out;obtain⟨q,hq⟩:∃q:Nat,dI.pos=8*q:=⟨dI.pos/8,by omega⟩
  have hrd:=h5.rd;rw[hq]at hrd;have hqs:q<=s.size:=by have:=h5.hp;omega
  by_cases hqc:q+c<=s.size
  ·go_wp2_with fail;refine (FM s R q c _ hrd hs (by omega) hqc).mono ?_;rintro e w7 ⟨rfl,r7,k7⟩;have h7:Pg w7 s R limit { dI with pos:=8*(q+c) } ov:=h5.read k7 r7 (by show 8*(q+c)<=_;omega) rfl q2 Nb;have F7:=F5.trans (jP.jx (by have:=h5.lt;omega) k7);have Vc:Hid (w7.heap[w.heap.size]?=some (.cells (dJ R) 111 (0,0))):=(k7.block _ xR (by omega)).trans Vb.out;obtain⟨T,hT⟩:∃T:ByteArray,T=s.extract q (q+c):=⟨_,rfl⟩
   have hTs:T.size=c:=by rw[hT];simp;omega
   have Rc:T.data.toList=(s.data.toList.drop q).take c:=by
    rw[hT,acs,acF];simp
   rw[<-hT];have HE:Hid (F={ dI with pos:=8*(q+c),out:=dI.out++T.data.toList }):=by show _=_;rw[YB.out,Ex s c q dI hq q2 hqc,Rc]
   clear hT Rc YB h5 F5 Vb k7 r7 hrd c0 c1 c2 cz xR hnb hnf hpos;go_wp2
   go_loopw [27] (fun v wr=>∃k:Nat,k<=c/\v=.int .i64 k/\(∃xQ,Pg wr s R limit { dI with pos:=8*(q+c),out:=dI.out++T.data.toList.take k } xQ)/\jP R w wr/\Hid (wr.heap[w.heap.size]?=some (.cells (dJ R) 111 (0,0)))) (fun v _=>c-(intOf v).toNat)
   case atStart=>exact⟨0,aaq _,rfl,⟨ov,by simpa using h7⟩,F7,Vc⟩
   case round =>
    clear h7 F7 Vc;obtain⟨k,hk,rfl,⟨ov8,h8⟩,F8,Re⟩:=hrel;obtain⟨c0,c1,c2,cz,xR⟩:=dR Re.out;by_cases hkc:k<c
    ·have hix:=Rb T k (by omega);have HLK:Hid ((T.data.toList.take k).length=k):=by show _=_;rw[aa7];simp;omega
     have YC:Hid (T.data.toList.take (k+1)=T.data.toList.take k++[T.data.toList.getD k 0]):=by
      have hl:k<T.data.toList.length:=by simp;omega
      show _=_;rw[aaT hl];simp[List.getD,List.getElem?_eq_getElem hl]
     have ZB:Hid ((dI.out++T.data.toList.take k).length<=11000000000):=by show _<=_;rw[aac,HLK.out,HO4.out];have:=hout.out;omega
     have Zz:Hid (Rf.room limit { dI with pos:=8*(q+c),out:=dI.out++T.data.toList.take k } 1=(true,{ dI with pos:=8*(q+c),out:=dI.out++T.data.toList.take k })):=zM (by show ¬max limit 0<(((dI.out++T.data.toList.take k).length:Nat):Int)+((1:Nat):Int);rw[aac,HLK.out];have:=PD.out;omega);obtain⟨y,hy⟩:∃y:UInt8,y=T.data.toList.getD k 0:=⟨_,rfl⟩
     rw[<-hy]at hix;have HY:Hid (y=T.data.toList.getD k 0):=hy;clear hy;go_wp2;have hS:wr.drew.cell? ⟨w.heap.size,1,none⟩=some (Cr R):=c1;refine ax (fun w'=>w'.cell? ⟨w.heap.size,1,none⟩=some (Cr R)) 6 ?_;refine aB 0 (v:=?_) ?_ hS ?_;rotate_left
     ·intro w hSw;(try dsimp only at hSw);go_simp;try with_reducible rfl
     try simp only[Act.put]
     refine aB 1 (v:=?_) ?_ hS ?_;rotate_left
     ·intro w hSw;(try dsimp only at hSw);go_simp;try with_reducible rfl
     try simp only[Act.put]
     refine aB 2 (v:=?_) ?_ hS ?_;rotate_left
     ·intro w hSw;(try dsimp only at hSw);go_simp;try with_reducible rfl
     try simp only[Act.put]
     refine aB 3 (v:=?_) ?_ hS ?_;rotate_left
     ·intro w hSw;(try dsimp only at hSw);go_simp;try with_reducible rfl
     try simp only[Act.put]
     refine ag 4 fun K hK=>?_;go_simp;refine hK _ _ (fun _=>hS) ?_;clear hK K;refine ag 5 fun K hK=>?_;go_simp;refine (PB y s R limit _ ov8 _ (h8.drewN 1) ZB).mono ?_;rintro e w9 (⟨q9,rfl,⟨ov9,h9⟩,F9⟩|⟨q9,rfl,F9⟩)
     case inr =>
      rw[Zz.out]at q9;cases q9
     case inl =>
     have HB9:Hid (w9.heap[w.heap.size]?=some (.cells (dJ R) 111 (0,0))):=(F9.other _ xR (by omega) (by omega) (fun c fr=>by show wr.heap[w.heap.size]?≠_;rw[Re.out];simp)).trans Re.out;refine hK _ _ (fun _=>(dR HB9.out).2.1) ?_;clear hK K;refine am ?_;clear q9 h8 Re c0 c1 c2 cz xR hS hix;go_wp2
     go_roundw
     case rel =>
      refine⟨k+1,by omega,by go_num,⟨ov9,?_⟩,F8.trans (((jP.refl R wr).drewN 1).trans F9),HB9⟩;rw[YC.out,<-HY.out,<-aaw];exact h9
     case measure=>simp[intOf];omega
    ·have ZC:k=c:=by omega
     subst ZC;go_wp2
     go_end0
     refine .inl ⟨by rw[HE.out];exact q2,by rw[HE.out];exact Nb,rfl,⟨ov8,?_⟩,F8⟩;rw[HE.out];have e:T.data.toList.take k=T.data.toList:=abf (by simp;omega);rw[e]at h8;exact h8
  ·go_wp2_with fail;refine (Jl s R q c _ hrd hs hqs (by omega) (by omega)).mono ?_;rintro e w7 ⟨rfl,rfl⟩;go_wp2;have hm:=vZ s c q dI hq hqs (by omega);exact⟨rfl,ft (by rw[YB.out];exact hm.1) (by rw[YB.out,hm.2];exact Nb) F5.below⟩
 ·have hne:¬(c:Int)=((65535-d:Nat):Int):=by omega
  rw[aai (by omega)]at Uh;go_wp2;have HE:F={ dI with bad:=true }:=by rw[HF.out,Uh.out]
  exact⟨rfl,ft (by rw[HE]) (by rw[HE];exact Nb) F4.below⟩
end Go.Proofs.YtmfijackgekioabGreatDoor
