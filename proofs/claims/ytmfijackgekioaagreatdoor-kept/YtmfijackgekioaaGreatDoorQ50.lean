import Derived.Test.YtmfijackgekioaaGreatDoorQ48
import Derived.Test.YtmfijackgekioaaGreatDoorQ49
set_option maxHeartbeats 1000000
set_option maxRecDepth 100000
namespace Go.Proofs.YtmfijackgekioaaGreatDoor
open Go.RowKit Go.Maps
def kL:List Int:=[0,0,0,0,0,2,2,3,3,3,3,4,4,6,6]
def dL:List Int:=[1,2,4,8,16,8,16,1,2,4,8,8,16,8,16]
def DG (i:Nat):Int:=kL.getD i 0
def Tq (i:Nat):Int:=dL.getD i 0
def abH (k:Int):Int:=if k=0 then 1 else if k=2 then 3 else if k=3 then 1 else if k=4 then 2 else 4
theorem Be:∀i,i<15->Pm.chan (DG i) (Tq i)=abH (DG i)/\Pm.chan (DG i) (Tq i)≠0/\(DG i=0\/DG i=2\/DG i=3\/DG i=4\/DG i=6):=by decide
theorem Qi (L:List Int){i:Nat}(h:i<L.length):(vals L).toArray[i]?=some (.int .i64 (L.getD i 0)):=by
 rw[List.getElem?_toArray,List.getElem?_map,List.getD_eq_getElem?_getD,List.getElem?_eq_getElem h];rfl
theorem Tr (c:Int)(w:World)(h1:-9223372036854775808<=c)(h2:c<=9223372036854775807): Calls Tryz.prog 47 #[.int .i64 c] w fun e w'=>∃i:Nat,i<15/\bQ c 15=(i:Int)/\e=.returned (.tuple #[.int .i64 (DG i),.int .i64 (Tq i)])/\Below w.heap.size w w':=by
 obtain⟨i,hi⟩:∃i:Nat,bQ c 15=(i:Int):=⟨(bQ c 15).toNat,by have:=bg c (n:=15) (by omega);omega⟩
 have hi2:i<15:=by have:=bg c (n:=15) (by omega);omega
 have hpk:=fun v=>ob c 15 v h1 h2 (by omega) (by omega);rw[hi]at hpk;obtain⟨k0,q0,q1⟩:=bJ w (.cells ((vals kL).toArray) 3) (.cells ((vals dL).toArray) 3)
 have a0:((w.alloc (.cells ((vals kL).toArray) 3)).alloc (.cells ((vals dL).toArray) 3)).cell? ⟨w.heap.size,i,none⟩=some (.int .i64 (DG i)):=by
  exact (cell_of_row _ _ _ _ _ _ q0).trans (Qi kL hi2)
 have a1:((w.alloc (.cells ((vals kL).toArray) 3)).alloc (.cells ((vals dL).toArray) 3)).cell? ⟨w.heap.size+1,i,none⟩=some (.int .i64 (Tq i)):=by
  exact (cell_of_row _ _ _ _ _ _ q1).trans (Qi dL hi2)
 have hib:(i:Int)<15:=by omega
 have HK:Hid (_/\_/\_):=⟨k0,hi,hi2⟩
 have ek:(vals kL).toArray=#[.int .i64 0,.int .i64 0,.int .i64 0,.int .i64 0,.int .i64 0,.int .i64 2,.int .i64 2,.int .i64 3,.int .i64 3,.int .i64 3,.int .i64 3,.int .i64 4,.int .i64 4,.int .i64 6,.int .i64 6]:=rfl;have ed:(vals dL).toArray=#[.int .i64 1,.int .i64 2,.int .i64 4,.int .i64 8,.int .i64 16,.int .i64 8,.int .i64 16,.int .i64 1,.int .i64 2,.int .i64 4,.int .i64 8,.int .i64 8,.int .i64 16,.int .i64 8,.int .i64 16]:=rfl;rw[ek,ed]at a0 a1 HK;clear k0 q0 q1 hi ek ed h1 h2
 go_enter Tryz.func47,Tryz.ntmps47
 go_wp2_with fail;refine (hpk _).mono ?_;rintro e w' ⟨rfl,rfl⟩;obtain⟨KD,Qj⟩:∃KD,DG i=KD:=⟨_,rfl⟩
 obtain⟨DP,Ts⟩:∃DP,Tq i=DP:=⟨_,rfl⟩
 have HKD:Hid (_/\_):=⟨Qj,Ts⟩
 rw[Qj]at a0;rw[Ts]at a1;clear Qj Ts;revert HK;revert a1;revert a0;generalize World.alloc _ _=v0;intro a0 a1 HK;go_wp2_with fail;have hS:v0.drew.cell? ⟨w.heap.size,i,none⟩=some (.int .i64 KD)/\v0.drew.cell? ⟨w.heap.size+1,i,none⟩=some (.int .i64 DP):=⟨a0,a1⟩
 refine ax (by kernel_rfl) (fun u=>u.cell? ⟨w.heap.size,i,none⟩=some (.int .i64 KD)/\u.cell? ⟨w.heap.size+1,i,none⟩=some (.int .i64 DP)) 99 ?_;refine ap [0,1,2,3,4,5,6,7,8,9] ?_
 iterate 10 (refine ay (v:=?_) (T:=?_) ?ht rfl rfl (by kernel_rfl) (fun _ _ _ h=>h) ?hy hS ?_;(case hy=>intro w hSw;(try dsimp only at hSw); go_simp;try with_reducible rfl);case ht=>go_simp;try with_reducible rfl)
 refine ai ?_;refine ak (by kernel_rfl) ?_ _;go_wp2;exact bodyPost_ret (v:=.tuple #[.int .i64 KD,.int .i64 DP]) (by simp[results,Tryz.results47,go_sem]) rfl ⟨i,HK.out.2.2,HK.out.2.1,by rw[HKD.out.1,HKD.out.2],HK.out.1.drew⟩
theorem Ia (i:Nat)(hi:i<15)(w:World):Calls Tryz.prog 49 #[.int .i64 (DG i)] w fun e w'=>e=.returned (.int .i64 (Pm.chan (DG i) (Tq i)))/\Below w.heap.size w w':=by
 obtain⟨h1,_,h2⟩:=Be i hi;have kb:=ae w (.cells #[.int .i64 1,.int .i64 0,.int .i64 3,.int .i64 1,.int .i64 2,.int .i64 0,.int .i64 4] 3);rw[h1];have HK:Hid (_):=kb;generalize DG i=KD at *;clear kb h1 hi;rcases h2 with rfl|rfl|rfl|rfl|rfl
 all_goals
  go_enter Tryz.func49,Tryz.ntmps49
  go_wp2
  go_ret
  exact⟨rfl,HK.out⟩
theorem Tryz.infoSetting:(Tryz.prog.info? 32).map (·.size)=some 3:=by kernel_rfl
theorem L0 (a b c:Int)(w:World)(ha:-9223372036854775808<=a/\a<=9223372036854775807)(hb:-9223372036854775808<=b/\b<=9223372036854775807)(hc:-9223372036854775808<=c/\c<=9223372036854775807): Calls Tryz.prog 20 #[.int .i64 a,.int .i64 b,.int .i64 c] w fun e w'=>e=.returned (.agg #[.int .i64 (bQ a 3),.int .i64 (bQ b 6),.int .i64 (1+bQ c 300)])/\eK (bQ a 3) (bQ b 6) (1+bQ c 300)=true/\Below w.heap.size w w':=by
 have h1:=fun v=>ob a 3 v ha.1 ha.2 (by omega) (by omega);have h2:=fun v=>ob b 6 v hb.1 hb.2 (by omega) (by omega);have h3:=fun v=>ob c 300 v hc.1 hc.2 (by omega) (by omega);have r1:=bg a (n:=3) (by omega);have r2:=bg b (n:=6) (by omega);have r3:=bg c (n:=300) (by omega);have HS:Hid (eK (bQ a 3) (bQ b 6) (1+bQ c 300)=true):=by show _=_;simp only[eK,Bool.and_eq_true,decide_eq_true_eq];omega
 generalize bQ a 3=A at *;generalize bQ b 6=B at *;generalize bQ c 300=C at *;have k0:=ae w (.cells #[.int .i64 A,.int .i64 B,.int .i64 (1+C)] 32);have q0:=ah w (.cells #[.int .i64 A,.int .i64 B,.int .i64 (1+C)] 32);have HK:Hid (_/\_):=⟨k0,q0⟩
 clear k0 q0 ha hb hc
 go_enter Tryz.func20,Tryz.ntmps20
 go_wp2_with fail;refine (h1 _).mono ?_;rintro e w' ⟨rfl,rfl⟩;go_wp2_with fail;refine (h2 _).mono ?_;rintro e w' ⟨rfl,rfl⟩;go_wp2_with fail;refine (h3 _).mono ?_;rintro e w' ⟨rfl,rfl⟩;go_wp2;exact bodyPost_ret (v:=.agg #[.int .i64 A,.int .i64 B,.int .i64 (1+C)]) (results_cell_row rfl _ _ w.heap.size 32 _ (0,0) _ rfl HK.out.2 Tryz.underlying32 rfl Tryz.infoSetting) rfl ⟨rfl,HS.out,HK.out.1⟩
structure iP (w wr:World) (R0 M:Nat) (h:Hd) (pv sv:Value) (aD S:List Int):Prop where
 m:wr.heap[M]?=some (.cells (aW h pv sv) 30 (0,0))
 r:wr.heap[R0]?=some (.cells bj 30 (0,0))
 p:wr.ownsRow (M+1) 3 1 pv aD.length (vals aD)
 s:wr.ownsRow (M+1) 3 1 sv S.length (vals S)
 ne:∀g,pv.ownBlock=some g->sv.ownBlock≠some g
 k:Below w.heap.size w wr
 lo:w.heap.size<=R0/\R0<M
theorem iP.drew {w wr:World}{R0 M:Nat}{h:Hd}{pv sv:Value}{aD S:List Int}(p:iP w wr R0 M h pv sv aD S):iP w wr.drew R0 M h pv sv aD S:=⟨p.m,p.r,aI p.p (fun _ _=>rfl),aI p.s (fun _ _=>rfl),p.ne,p.k.drew,p.lo⟩
theorem iP.below {w wr u:World}{R0 M:Nat}{h:Hd}{pv sv:Value}{aD S:List Int}(p:iP w wr R0 M h pv sv aD S)(k:Below wr.heap.size wr u):iP w u R0 M h pv sv aD S :=
 ⟨(k.block _ (lt_of_block p.m)).trans p.m,(k.block _ (lt_of_block p.r)).trans p.r,aI p.p (fun g hg=>k.block g (p.p.lt g hg).2),aI p.s (fun g hg=>k.block g (p.s.lt g hg).2),p.ne,p.k.trans (k.mono p.k.size),p.lo⟩
theorem gZ {w:World}{B n:Nat}{v:Value}{xs:List Value}(h:w.ownsRow B 3 1 v n xs):∃ao cp,v=.slice ao n cp:=by
 rcases h.2 with⟨rfl,h0⟩|⟨g,cap,cur,rfl,_⟩
 ·exact⟨none,0,by rw[h0]⟩
 ·exact⟨_,_,rfl⟩
theorem Tt {w:World}{M:Nat}{h:Hd}{pv sv:Value}(q:w.heap[M]?=some (.cells (aW h pv sv) 30 (0,0)))(v:Value):(w.setCell ⟨M,5,none⟩ v).heap[M]?=some (.cells (aW h v sv) 30 (0,0)):=(heap_setCell_same w M 5 _ _ v q).trans rfl
theorem Tv {w:World}{M:Nat}{h:Hd}{pv sv:Value}(q:w.heap[M]?=some (.cells (aW h pv sv) 30 (0,0)))(v:Value):(w.setCell ⟨M,6,none⟩ v).heap[M]?=some (.cells (aW h pv v) 30 (0,0)):=(heap_setCell_same w M 6 _ _ v q).trans rfl
theorem iP.Qk {w wr:World}{R0 M:Nat}{h:Hd}{pv sv:Value}{aD S:List Int}(p:iP w wr R0 M h pv sv aD S)(x:Int)(hl:aD.length<=1000000): ∃v' u,(Builtin.append_ #[24,24] 24 #[pv,.slice (some ⟨wr.heap.size,0,none⟩) 1 1]).run Tryz.prog (wr.alloc (.cells #[.int .i64 x] 3))=.ok v' u/\iP w (u.setCell ⟨M,5,none⟩ v') R0 M h v' sv (aD++[x]) S /\ u.cell? ⟨M,5,none⟩=some pv/\u.frozen? ⟨M,5,none⟩=false/\(∃ao cp,v'=.slice ao (aD.length+1) cp)/\u.heap[M]?=some (.cells (aW h pv sv) 30 (0,0)):=by
 obtain⟨i0,hi,hz0,hz1,hz2⟩:=info_parts Tryz.info3;have ka:=ae wr (.cells #[.int .i64 x] 3);have q:=ah wr (.cells #[.int .i64 x] 3);have p1:=p.below ka;have lM:=lt_of_block p.m;have za:(wr.alloc (.cells #[.int .i64 x] 3)).heap.size=wr.heap.size+1:=by simp
 obtain⟨v',u,hr,ho',hg',_,hor⟩:=run_append_own_at (P:=Tryz.prog) (wr.alloc (.cells #[.int .i64 x] 3)) (M+1) 24 24 3 i0 _ 1 8 Tryz.underlying24 hi hz0 hz1 hz2 rfl (by decide) pv aD.length (vals aD) p1.p ⟨wr.heap.size,0,none⟩ 1 1 [.int .i64 x] rfl (fun j u hj=>by
   rw[eU,Nat.zero_add,aR q];simpa using hj) (fun u hu=>by
   simp only[List.mem_cons,List.not_mem_nil,or_false]at hu
   rw[hu];rfl) (by unfold maxLen;omega) (by omega) (by omega)
 have hMv:v'.ownBlock≠some M:=fun e=>by have:=(ho'.lt M e).1;omega
 have YR:pv.ownBlock≠some M:=fun e=>by have:=(p.p.lt M e).1;omega
 have hsM:sv.ownBlock≠some M:=fun e=>by have:=(p.s.lt M e).1;omega
 have hpR:pv.ownBlock≠some R0:=fun e=>by have:=(p.p.lt R0 e).1;have:=p.lo;omega
 have um:u.heap[M]?=some (.cells (aW h pv sv) 30 (0,0)):=(hg'.block M (by omega) (fun e=>YR e.symm)).trans p1.m;have hlo:=p.lo;have hps:u.ownsRow (M+1) 3 1 sv S.length (vals S):=aI p1.s (fun g hg=>hg'.block g (p1.s.lt g hg).2 (fun e=>p.ne g e.symm hg))
 have hbel:Below w.heap.size w u:=by
  have kk:Kp (fun k=>pv.ownBlock=some k) (wr.alloc (.cells #[.int .i64 x] 3)) u:=Kp.grown (Kp.refl _ _) hg' (fun k hk=>.inl hk);exact p1.k.trans (kk.below (by have:=p1.k.size;omega) (fun k _ e=>by have:=(p1.p.lt k e).1;omega))
 refine⟨v',u,hr,⟨Tt um v',?_,aI ?_ (fun g hg=>Below.heap_setCell _ ⟨M,5,none⟩ _ g (fun e=>hMv (by rw[hg];exact congrArg some e))),aI hps (fun g hg=>Below.heap_setCell _ ⟨M,5,none⟩ _ g (fun e=>hsM (by rw[hg];exact congrArg some e))),fun g hg hs=>?_,hbel.setCell (p:=⟨M,5,none⟩) (by show w.heap.size<=M;omega) _,hlo⟩,cell_of_row _ _ _ _ _ _ um,frozen_of_row u M 5 _ _ um,gZ ho',um⟩
 ·exact (Below.heap_setCell _ ⟨M,5,none⟩ _ R0 (by show R0≠M;omega)).trans ((hg'.block R0 (by omega) (fun e=>hpR e.symm)).trans p1.r)
 ·rw[List.length_append];have e:vals (aD++[x])=vals aD++[.int .i64 x]:=by simp[vals]
  rw[e];exact ho'
 ·rcases hor with e|e
  ·rw[e]at hg;exact p.ne g hg hs
  ·rw[e]at hg;have h1:=Option.some.inj hg;have h2:=(p1.s.lt g hs).2;omega
theorem iP.Fa {w wr:World}{R0 M:Nat}{h:Hd}{pv sv:Value}{aD S:List Int}(p:iP w wr R0 M h pv sv aD S)(x:Int)(hl:S.length<=1000000): ∃v' u,(Builtin.append_ #[24,24] 24 #[sv,.slice (some ⟨wr.heap.size,0,none⟩) 1 1]).run Tryz.prog (wr.alloc (.cells #[.int .i64 x] 3))=.ok v' u/\iP w (u.setCell ⟨M,6,none⟩ v') R0 M h pv v' aD (S++[x]) /\ u.cell? ⟨M,6,none⟩=some sv/\u.frozen? ⟨M,6,none⟩=false/\(∃ao cp,v'=.slice ao (S.length+1) cp)/\u.heap[M]?=some (.cells (aW h pv sv) 30 (0,0)):=by
 obtain⟨i0,hi,hz0,hz1,hz2⟩:=info_parts Tryz.info3;have ka:=ae wr (.cells #[.int .i64 x] 3);have q:=ah wr (.cells #[.int .i64 x] 3);have p1:=p.below ka;have lM:=lt_of_block p.m;have za:(wr.alloc (.cells #[.int .i64 x] 3)).heap.size=wr.heap.size+1:=by simp
 obtain⟨v',u,hr,ho',hg',_,hor⟩:=run_append_own_at (P:=Tryz.prog) (wr.alloc (.cells #[.int .i64 x] 3)) (M+1) 24 24 3 i0 _ 1 8 Tryz.underlying24 hi hz0 hz1 hz2 rfl (by decide) sv S.length (vals S) p1.s ⟨wr.heap.size,0,none⟩ 1 1 [.int .i64 x] rfl (fun j u hj=>by
   rw[eU,Nat.zero_add,aR q];simpa using hj) (fun u hu=>by
   simp only[List.mem_cons,List.not_mem_nil,or_false]at hu
   rw[hu];rfl) (by unfold maxLen;omega) (by omega) (by omega)
 have hMv:v'.ownBlock≠some M:=fun e=>by have:=(ho'.lt M e).1;omega
 have YR:pv.ownBlock≠some M:=fun e=>by have:=(p.p.lt M e).1;omega
 have hsM:sv.ownBlock≠some M:=fun e=>by have:=(p.s.lt M e).1;omega
 have hsR:sv.ownBlock≠some R0:=fun e=>by have:=(p.s.lt R0 e).1;have:=p.lo;omega
 have um:u.heap[M]?=some (.cells (aW h pv sv) 30 (0,0)):=(hg'.block M (by omega) (fun e=>hsM e.symm)).trans p1.m;have hlo:=p.lo;have hpp:u.ownsRow (M+1) 3 1 pv aD.length (vals aD):=aI p1.p (fun g hg=>hg'.block g (p1.p.lt g hg).2 (fun e=>p.ne g hg e.symm))
 have hbel:Below w.heap.size w u:=by
  have kk:Kp (fun k=>sv.ownBlock=some k) (wr.alloc (.cells #[.int .i64 x] 3)) u:=Kp.grown (Kp.refl _ _) hg' (fun k hk=>.inl hk);exact p1.k.trans (kk.below (by have:=p1.k.size;omega) (fun k _ e=>by have:=(p1.s.lt k e).1;omega))
 refine⟨v',u,hr,⟨Tv um v',?_,aI hpp (fun g hg=>Below.heap_setCell _ ⟨M,6,none⟩ _ g (fun e=>YR (by rw[hg];exact congrArg some e))),aI ?_ (fun g hg=>Below.heap_setCell _ ⟨M,6,none⟩ _ g (fun e=>hMv (by rw[hg];exact congrArg some e))),fun g hg hs=>?_,hbel.setCell (p:=⟨M,6,none⟩) (by show w.heap.size<=M;omega) _,hlo⟩,cell_of_row _ _ _ _ _ _ um,frozen_of_row u M 6 _ _ um,gZ ho',um⟩
 ·exact (Below.heap_setCell _ ⟨M,6,none⟩ _ R0 (by show R0≠M;omega)).trans ((hg'.block R0 (by omega) (fun e=>hsR e.symm)).trans p1.r)
 ·rw[List.length_append];have e:vals (S++[x])=vals S++[.int .i64 x]:=by simp[vals]
  rw[e];exact ho'
 ·rcases hor with e|e
  ·rw[e]at hs;exact p.ne g hg hs
  ·rw[e]at hs;have h1:=Option.some.inj hs;have h2:=(p1.p.lt g hg).2;omega
theorem DH {w:World}{ra:Option Addr}{raw:List Int}(h:Ints w ra raw)(hr:∀y∈raw,-9223372036854775808<=y/\y<=9223372036854775807)(i:Nat)(h0:0<raw.length):∃b off x,ra=some ⟨b,off,none⟩/\w.cell? ⟨b,off+i%raw.length,none⟩=some (.int .i64 x)/\(-9223372036854775808<=x/\x<=9223372036854775807):=by
 obtain⟨b,off,e1,e2⟩:=h (i%raw.length) (Nat.mod_lt _ h0);exact⟨b,off,_,e1,e2,hr _ (List.getElem_mem _)⟩
theorem uT (h:Hd)(hf:lV h)(hw:h.wd<=20)(hh:h.ht<=20):ct h<=22540:=by
 obtain⟨wd,ht,kd,dp,ps⟩:=h;have w1:=hf.wd.1;have t1:=hf.ht.1;have hb:=Pm.jh kd dp hf.ch;dsimp only at *;obtain⟨W,rfl⟩:=Int.eq_ofNat_of_zero_le (a:=wd) (by omega);obtain⟨H,rfl⟩:=Int.eq_ofNat_of_zero_le (a:=ht) (by omega);have hd:1<=dp/\dp<=16:=Pm.cm _ _ hf.ch;have hc:=Pm.cE kd dp;obtain⟨D,rfl⟩:=Int.eq_ofNat_of_zero_le (a:=dp) (by omega);obtain⟨n,hn⟩:=Int.eq_ofNat_of_zero_le (a:=Pm.chan kd (D:Int)) (by omega);have e:Pm.chan kd (D:Int)*(D:Int)=((n*D:Nat):Int):=by rw[hn];push_cast;rfl
 unfold ct;dsimp only;rw[e]at hb ⊢;have hb':n*D<=64:=by omega
 have key:∀p:Pm.Ps,p.C<=20->p.R<=20->Pm.cM ⟨W,H,n,D⟩ p<=20*161:=fun p h1 h2=>by
  unfold Pm.cM Pm.rowLen;have:p.C*(n*D)<=20*64:=Nat.mul_le_mul h1 hb';refine Nat.mul_le_mul h2 ?_;show 1+(p.C*(n*D)+7)/8<=161;omega
 have hr:=Pm.nN ⟨W,H,n,D⟩ ps;have hr':Pm.raw (W:Int) (H:Int) ((n*D:Nat):Int) ps=_:=hr;rw[hr'];cases ps with
 | false =>
  rw[if_neg (by decide)];have:=key (Pm.j6 ⟨W,H,n,D⟩) (by show W<=20;omega) (by show H<=20;omega);omega
 | true =>
  rw[if_pos rfl]
  have hk:∀k,k<=7->Pm.cj ⟨W,H,n,D⟩ k<=k*3220:=by
   intro k
   induction k with
   | zero=>intro _;exact Nat.zero_le _
   | succ k ih =>
    intro hk;have h1:=ih (by omega);have h2:=Pm.j8 ⟨W,H,n,D⟩ k (by omega);have h3:=key (Pm.bY ⟨W,H,n,D⟩ k) (by have:=kn (Pm.oQ k) (Pm.j5 k) W (Pm.ww k);show (W+_)/_<=20;omega) (by have:=kn (Pm.o6 k) (Pm.mo k) H (Pm.wx k);show (H+_)/_<=20;omega);rw[h2]
    have h4:(if 0<(Pm.bY ⟨W,H,n,D⟩ k).C/\0<(Pm.bY ⟨W,H,n,D⟩ k).R then Pm.cM ⟨W,H,n,D⟩ (Pm.bY ⟨W,H,n,D⟩ k) else 0)<=3220:=by
     split
     ·exact h3
     ·exact Nat.zero_le _
    rw[Nat.succ_mul];exact Nat.add_le_add h1 h4
  have h7:=hk 7 (by omega);generalize Pm.cj ⟨W,H,n,D⟩ 7=x at *;omega
theorem xb (h:Hd)(hf:lV h)(hw:h.wd<=20)(hh:h.ht<=20):ct h<=4194304:=by
 have:=uT h hf hw hh;omega
theorem Fb (y:Int):-9223372036854775808<=IntKind.i64.wrap y/\IntKind.i64.wrap y<=9223372036854775807:=by rw[IntKind.wrap_i64];omega
theorem kE (l:List Int)(x e:Int)(h:Pm.ee l e=true)(hx:0<=x/\x<e):Pm.ee (l++[x]) e=true:=by
 unfold Pm.ee at *;rw[List.all_append,h];simp[hx.1,hx.2]
theorem xd {w:World}{B n cap:Nat}{oa:Option Addr}{zs:List Int}(h:w.ownsRow B 3 1 (.slice oa n cap) n (vals zs)):Ints w oa zs/\(∀a,oa=some a->zs≠[]->a.block<w.heap.size)/\(zs≠[]->∃g,oa=some ⟨g,0,none⟩/\B<=g/\g<w.heap.size/\n<=cap):=by
 rcases h.2 with⟨e,h0⟩|⟨g,c,cur,e,hb,hg,h1,h2,h3,ht⟩
 ·injection e with e1 e2 e3;subst e1
  have hz:zs=[]:=by
   have:=h.1;rw[List.length_map,Nat.mul_one]at this;exact List.eq_nil_of_length_eq_zero (by omega)
  subst hz;exact⟨fun j hj=>absurd hj (Nat.not_lt_zero _),fun a ha=>(by cases ha),fun hn=>absurd rfl hn⟩
 ·injection e with e1 e2 e3;subst e1 e3;refine⟨fun j hj=>⟨g,0,rfl,?_⟩,fun a ha _=>?_,fun _=>⟨g,rfl,hb,lt_of_block hg,h1⟩⟩
  ·rw[Nat.zero_add];refine (cell_of_row _ _ _ _ _ _ hg).trans ?_;have hl:=h.1;rw[List.length_map,Nat.mul_one]at hl;have e4:cur[j]?=(cur.toList.take (n*1))[j]?:=by rw[List.getElem?_take_of_lt (by omega),Array.getElem?_toList]
   rw[e4,ht,List.getElem?_map,List.getElem?_eq_getElem hj];rfl
  ·have:a=⟨g,0,none⟩:=(Option.some.inj ha).symm;rw[this];exact lt_of_block hg
def L5 (w:World)(ps:Bool)(e:Ending)(w':World):Prop:=∃(h:Hd) (aD S:List Int) (pa:Option Addr) (pc G cap:Nat),e=.returned (.agg (aW h (.slice pa aD.length pc) (.slice (some ⟨G,0,none⟩) S.length cap)))/\dD h aD S/\h.ps=ps/\(h.wd<=20/\h.ht<=20) /\
 Ints w' pa aD/\(∀a,pa=some a->aD≠[]->a.block<w'.heap.size)/\Ints w' (some ⟨G,0,none⟩) S/\G<w'.heap.size/\S.length<=cap/\(aD.length<=1000/\S.length<=2000)/\Below w.heap.size w w'
theorem Fc {w wr:World}{R0 M:Nat}{h:Hd}{pv sv:Value}{aD S:List Int}(p:iP w wr R0 M h pv sv aD S)(hf:dD h aD S)(hw:h.wd<=20)(hh:h.ht<=20)(hlen:aD.length<=1000/\S.length<=2000): L5 w h.ps (.returned (.agg (aW h pv sv))) (lH wr R0 (.int .i64 h.wd) (.int .i64 h.ht) (.int .i64 h.kd) (.int .i64 h.dp) (.bool h.ps) pv sv)/\(lH wr R0 (.int .i64 h.wd) (.int .i64 h.ht) (.int .i64 h.kd) (.int .i64 h.dp) (.bool h.ps) pv sv).heap[R0]?=some (.cells (aW h pv sv) 30 (0,0)):=by
 obtain⟨pa,pc,rfl⟩:=gZ p.p;obtain⟨sa,sc,rfl⟩:=gZ p.s;have hlo:=p.lo;have lR:=lt_of_block p.r
 have abK:S≠[]:=fun e=>by
  have h1:=hf.fits.len;rw[e]at h1
  have h2:0<(gG h).W*(gG h).H*(gG h).n:=by
   have a1:=hf.hd.wd;have a2:=hf.hd.ht;have a3:=hf.hd.ch;have a4:=Pm.cE h.kd h.dp;refine Nat.mul_pos (Nat.mul_pos ?_ ?_) ?_
   ·show 0<h.wd.toNat;omega
   ·show 0<h.ht.toNat;omega
   ·show 0<(Pm.chan h.kd h.dp).toNat;omega
  rw[<-h1]at h2;exact absurd h2 (Nat.lt_irrefl _)
 have rx:=aI (w':=lH wr R0 (.int .i64 h.wd) (.int .i64 h.ht) (.int .i64 h.kd) (.int .i64 h.dp) (.bool h.ps) (.slice pa aD.length pc) (.slice sa S.length sc)) p.p (fun g hg=>jk _ _ _ _ _ _ _ _ _ _ (by have:=(p.p.lt g hg).1;omega));have hsu:=aI (w':=lH wr R0 (.int .i64 h.wd) (.int .i64 h.ht) (.int .i64 h.kd) (.int .i64 h.dp) (.bool h.ps) (.slice pa aD.length pc) (.slice sa S.length sc)) p.s (fun g hg=>jk _ _ _ _ _ _ _ _ _ _ (by have:=(p.s.lt g hg).1;omega));obtain⟨i1,i2,_⟩:=xd rx;obtain⟨j1,j2,j3⟩:=xd hsu;obtain⟨G,rfl,g2,g3,g4⟩:=j3 abK;exact⟨⟨h,aD,S,pa,pc,G,sc,rfl,hf,rfl,⟨hw,hh⟩,i1,i2,j1,g3,g4,hlen,fN p.k _ (by omega) ..⟩,jj p.r ..⟩
abbrev fx (M:Nat)(h:Hd)(pv sv:Value)(u:World):Prop:=u.heap[M]?=some (.cells (aW h pv sv) 30 (0,0))
theorem Ql (d:Int)(h:1<=d/\d<=16):IntKind.i64.wrap (2^d.toNat)=Pm.two d:=by
 have hr:=Pm.gP d h;exact IntWalk.i64_in (Pm.two d) (by omega)
theorem L6 (kind width jR:Int)(ps:Bool)(ra:Option Addr)(rc:Nat)(raw:List Int)(w:World)(hk:-9223372036854775808<=kind/\kind<=9223372036854775807)(hw:-9223372036854775808<=width/\width<=9223372036854775807)(hh:-9223372036854775808<=jR/\jR<=9223372036854775807)(hraw:Ints w ra raw)(hra:∀a,ra=some a->raw≠[]->a.block<w.heap.size)(OA:∀y∈raw,-9223372036854775808<=y/\y<=9223372036854775807)(hrl:raw.length<=9223372036854775807): Calls Tryz.prog 18 #[.int .i64 kind,.int .i64 width,.int .i64 jR,.bool ps,.slice ra raw.length rc] w fun e w'=>L5 w ps e w':=by
 have hkd:=Tr kind (w.alloc (.cells bj 30)) hk.1 hk.2;have hpw:=fun v=>ob width 20 v hw.1 hw.2 (by omega) (by omega);have hph:=fun v=>ob jR 20 v hh.1 hh.2 (by omega) (by omega);have rw1:=bg width (n:=20) (by omega);have rh1:=bg jR (n:=20) (by omega);have hpn:=fun (m:Int) (v:World) (h1:0<m) (h2:m<=1000000)=>ob width m v hw.1 hw.2 h1 (by omega);have HPN:Hid (_):=hpn;have rn1:=fun (m:Int) (h1:0<m)=>bg width (n:=m) h1;have HRN:Hid (_):=rn1;have k0:=ae w (.cells bj 30);have q0:=ah w (.cells bj 30);have z0:(w.alloc (.cells bj 30)).heap.size=w.heap.size+1:=by simp
 have HR:Hid (_/\_/\_):=⟨hraw,hra,OA⟩
 have H0:Hid (_/\_):=⟨k0,q0⟩
 obtain⟨L,hL⟩:∃L,L=raw.length:=⟨_,rfl⟩
 have HL:Hid (L=raw.length):=hL;rw[<-hL]at hrl ⊢;obtain⟨PW,hPW⟩:∃PW,PW=bQ width 20:=⟨_,rfl⟩
 obtain⟨PH,hPH⟩:∃PH,PH=bQ jR 20:=⟨_,rfl⟩
 rw[<-hPW]at hpw rw1;rw[<-hPH]at hph rh1;clear k0 q0 hraw hra OA hpn rn1 hL hPW hPH hk hw hh
 go_enter Tryz.func18,Tryz.ntmps18
 go_wp2_with fail;refine hkd.mono ?_;rintro e w1 ⟨i,hi,-,rfl,b1⟩;obtain⟨c1,c2,c3⟩:=Be i hi;obtain⟨KD,Qj⟩:∃KD,DG i=KD:=⟨_,rfl⟩
 obtain⟨DP,Ts⟩:∃DP,Tq i=DP:=⟨_,rfl⟩
 have hcn:=fun v=>Ia i hi v;rw[Qj,Ts]at hcn c1 c2;rw[Qj]at c3;rw[Qj,Ts];clear Qj Ts;have hdp:1<=DP/\DP<=16:=Pm.cm _ _ c2;have hr2:=Pm.gP DP hdp;have abL:=Pm.cE KD DP;have HH:Hid (lV ⟨1+PW,1+PH,KD,DP,ps⟩):=⟨by show 1<=1+PW/\1+PW<=5000;omega,by show 1<=1+PH/\1+PH<=5000;omega,c2⟩
 have zb:=b1.size;rw[z0]at zb;obtain⟨ch,hch⟩:∃ch:Nat,Pm.chan KD DP=(ch:Int):=⟨(Pm.chan KD DP).toNat,by omega⟩
 have YE:Hid (Pm.chan KD DP=(ch:Int)):=hch;rw[hch]at hcn abL;have ahz:1<=ch:=by rw[hch]at c2;omega
 obtain⟨top,htop⟩:∃top,Pm.two DP=top:=⟨_,rfl⟩
 have L7:Hid (Pm.two DP=top):=htop;rw[htop]at hr2
 have W1:Hid (iP w (w1.alloc (.cells (aW ⟨1+PW,1+PH,KD,DP,ps⟩ (.slice none 0 0) (.slice none 0 0)) 30)) w.heap.size w1.heap.size ⟨1+PW,1+PH,KD,DP,ps⟩ (.slice none 0 0) (.slice none 0 0) [] []):=by
  have ka:=ae w1 (.cells (aW ⟨1+PW,1+PH,KD,DP,ps⟩ (.slice none 0 0) (.slice none 0 0)) 30);refine⟨ah w1 _,(ka.block _ (by omega)).trans ((b1.block _ (by omega)).trans H0.out.2),⟨rfl,.inl ⟨rfl,rfl⟩⟩,⟨rfl,.inl ⟨rfl,rfl⟩⟩,fun g hg=>(by cases hg),(H0.out.1.trans (b1.mono (by omega))).trans (ka.mono (by omega)),⟨Nat.le_refl _,by omega⟩⟩
 clear htop hch c1 c2 c3 b1 hkd H0;go_wp2_with fail;refine (hpw _).mono ?_;rintro e w1a ⟨rfl,XT⟩;rw[XT];clear XT;go_wp2_with fail;refine (hph _).mono ?_;rintro e w1b ⟨rfl,XW⟩;rw[XW];clear XW;by_cases h3:KD=3
 ·subst h3
  have hb1:(1+PW)*(1+PH)*(ch:Int)<=1600/\0<=(1+PW)*(1+PH)*(ch:Int):=by
   have a1:(1+PW)*(1+PH)<=20*20:=Int.mul_le_mul (by omega) (by omega) (by omega) (by omega);have a0:0<=(1+PW)*(1+PH):=Int.mul_nonneg (by omega) (by omega);exact⟨by have:(1+PW)*(1+PH)*(ch:Int)<=400*4:=Int.mul_le_mul (by omega) (by omega) (by omega) (by omega);omega,Int.mul_nonneg a0 (by omega)⟩
  have hb2:(1+PW)*(1+PH)<=400/\0<=(1+PW)*(1+PH):=by
   have a1:(1+PW)*(1+PH)<=20*20:=Int.mul_le_mul (by omega) (by omega) (by omega) (by omega);exact⟨by omega,Int.mul_nonneg (by omega) (by omega)⟩
  have wm1:IntKind.i64.wrap ((1+PW)*(1+PH))=(1+PW)*(1+PH):=IntWalk.i64_in _ (by omega);have wm2:IntKind.i64.wrap ((1+PW)*(1+PH)*(ch:Int))=(1+PW)*(1+PH)*(ch:Int):=IntWalk.i64_in _ (by omega)
  have aeB:top<=256:=by
   have h8:DP=1\/DP=2\/DP=4\/DP=8:=by
    have:=HH.out.ch;unfold Pm.chan at this;dsimp only at this
    repeat' split at this
    all_goals omega
   rw[<-L7.out];rcases h8 with rfl|rfl|rfl|rfl<;>decide
  have hpn:=fun v=>HPN.out top v (by omega) (by omega);have hnr:=HRN.out top (by omega);obtain⟨N,hN⟩:∃N:Nat,1+bQ width top=(N:Int):=⟨(1+bQ width top).toNat,by omega⟩
  have hNb:1<=N/\(N:Int)<=top:=by omega
  obtain⟨PN,hPN⟩:∃PN,PN=bQ width top:=⟨_,rfl⟩
  rw[<-hPN]at hpn hN;clear hnr hPN;have HP:Hid (_):=W1.out;clear W1;have hw2:=nu DP hdp;have hw3:=Ql DP hdp;rw[L7.out]at hw2 hw3;go_wp2_with fail;clear hw2 hw3;refine (hpn _).mono ?_;rintro e w1c ⟨rfl,XX⟩;rw[XX];clear XX hpn;go_wp2
  go_loopw [16] (fun ix wr=>∃(j:Nat) (aD:List Int) (pv:Value),ix=.int .i64 j/\j<=3*N/\Hid (iP w wr w.heap.size w1.heap.size ⟨1+PW,1+PH,3,DP,ps⟩ pv (.slice none 0 0) aD []/\aD.length=j/\Pm.ee aD 256=true)) (fun ix _=>3*N-(intOf ix).toNat)
  case atStart=>exact⟨0,[],.slice none 0 0,rfl,Nat.zero_le _,HP.out,rfl,rfl⟩
  case round =>
   obtain⟨j,aD,pv,rfl,hj,HS⟩:=hrel;by_cases hlt:j<3*N
   ·have Gx:(j:Int)<3*(1+PN):=by omega
    have hval:∀V:Int,(-9223372036854775808<=V/\V<=9223372036854775807)->∀v:World,Calls Tryz.prog 48 #[.int .i64 V,.int .i64 256] v fun e w'=>e=.returned (.int .i64 (bQ V 256))/\w'=v:=fun V hV v=>ob V 256 v hV.1 hV.2 (by omega) (by omega);have Qm:Hid (_):=hval;have P1:Hid (iP w wr w.heap.size w1.heap.size ⟨1+PW,1+PH,3,DP,ps⟩ pv (.slice none 0 0) aD []):=HS.out.1;have pT:Hid (Pm.ee aD 256=true/\aD.length=j):=⟨HS.out.2.2,HS.out.2.1⟩
    have hjb:j<=800:=by omega
    obtain⟨pa,pc,hpv⟩:=gZ P1.out.p;rw[pT.out.2]at hpv;clear hval HS;subst hpv;by_cases hL0:0<L
    ·have L8:(L:Int)>0:=by omega
     obtain⟨bb,off,x,rfl,hc,hx⟩:=DH (HR.out.1.below P1.out.k HR.out.2.1) HR.out.2.2 j (by rw[<-HL.out];exact hL0);rw[<-HL.out]at hc;obtain⟨q,hq⟩:∃q,q=j%L:=⟨_,rfl⟩
     have hqt:(j:Int).tmod (L:Int)=(q:Int):=by rw[hq,Int.tmod_eq_emod_of_nonneg (by omega)];push_cast;rfl
     have hqL:q<L:=by rw[hq];exact Nat.mod_lt _ hL0
     have XY:(q:Int)<(L:Int):=by omega
     have hLn:L≠0:=by omega
     have hL1:(L:Int)≠0:=by omega
     have hL2:(L:Int)≠-1:=by omega
     rw[<-hq]at hc;clear hq;have nB:=Qm.out x hx;obtain⟨X,hX⟩:∃X,X=bQ x 256:=⟨_,rfl⟩
     have Bf:=bg x (n:=256) (by omega);rw[<-hX]at nB Bf;clear hX;go_wp2_with fail;obtain⟨v',u,hr,P4,d5,f5,⟨Uk,cp',hv'⟩,um⟩:=P1.out.drew.Qk X (by rw[pT.out.2];omega);rw[pT.out.2]at hv';obtain⟨j1,hj1⟩:∃j1,j1=j+1:=⟨_,rfl⟩
     rw[<-hj1]at hv';have iA:fx w1.heap.size ⟨1+PW,1+PH,3,DP,ps⟩ (.slice pa j pc) (.slice none 0 0) wr.drew:=P1.out.m;have ka:=ae wr.drew (.cells #[.int .i64 X] 3);have xX:fx w1.heap.size ⟨1+PW,1+PH,3,DP,ps⟩ (.slice pa j pc) (.slice none 0 0) (wr.drew.alloc (.cells #[.int .i64 X] 3)):=(ka.block _ (lt_of_block iA)).trans iA;have D6:Hid (_/\_):=⟨P4,hj1⟩
     have lM:=lt_of_block um;have uU:fx w1.heap.size ⟨1+PW,1+PH,3,DP,ps⟩ (.slice pa j pc) (.slice none 0 0) u:=um;clear P4 um ka hj1;refine ax (by kernel_rfl) (fx w1.heap.size ⟨1+PW,1+PH,3,DP,ps⟩ (.slice pa j pc) (.slice none 0 0)) 7 ?_;refine ap [0,1,2] ?_
     iterate 3 (refine ay (v:=?_) (T:=?_) ?ht rfl rfl (by kernel_rfl) (fun _ _ _ h=>h) ?hy iA ?_;(case hy=>intro w hSw;have vn := aJ hSw; go_simp;try with_reducible rfl);case ht=>go_simp;try with_reducible rfl)
     refine ai ?_;refine af (i:=3) (by kernel_rfl) rfl (fun K hK=>?_);go_simp;refine (nB _).mono ?_;rintro e v3 ⟨rfl,hv3⟩;rw[hv3];clear hv3 v3;refine hK _ _ (fun _=>iA) ?_;clear hK K;refine af (i:=4) (by kernel_rfl) rfl (fun K hK=>?_);go_simp;refine hK _ _ (fun _=>xX) ?_;clear hK K;refine af (i:=5) (by kernel_rfl) rfl (fun K hK=>?_);rw[if_pos (by kernel_rfl)];subst hv';refine Lib.wp_append_run _ _ _ _ _ rfl _ _ rfl rfl _ _ hr ?_;go_simp;refine hK _ _ (fun _=>uU) ?_;clear hK K;refine ap [6] ?_
     iterate 1 (refine ay (v:=?_) (T:=?_) ?ht rfl rfl (by kernel_rfl) (fun _ _ _ h=>h) ?hy uU ?_;(case hy=>intro w hSw;(try dsimp only at hSw); go_simp;try with_reducible rfl);case ht=>go_simp;try with_reducible rfl)
     refine ai ?_;refine af (i:=7) (by kernel_rfl) rfl (fun K hK=>?_);go_simp;refine hK _ _ (fun h=>absurd rfl h) ?_;clear hK K;refine ak (by kernel_rfl) ?_ _;clear uU;go_wp2
     go_roundw
     case rel=>exact⟨j+1,aD++[X],_,by go_num,by omega,D6.out.1,by rw[List.length_append,pT.out.2];rfl,kE aD X 256 pT.out.1 Bf⟩
     case measure=>simp only[intOf];omega
    ·have L8:¬(L:Int)>0:=by omega
     have nB:=Qm.out (7*(j:Int)) (by omega);obtain⟨X,hX⟩:∃X,X=bQ (7*(j:Int)) 256:=⟨_,rfl⟩
     have Bf:=bg (7*(j:Int)) (n:=256) (by omega);rw[<-hX]at nB Bf;clear hX;go_wp2_with fail;obtain⟨v',u,hr,P4,d5,f5,⟨Uk,cp',hv'⟩,um⟩:=P1.out.drew.Qk X (by rw[pT.out.2];omega);rw[pT.out.2]at hv';obtain⟨j1,hj1⟩:∃j1,j1=j+1:=⟨_,rfl⟩
     rw[<-hj1]at hv';have iA:fx w1.heap.size ⟨1+PW,1+PH,3,DP,ps⟩ (.slice pa j pc) (.slice none 0 0) wr.drew:=P1.out.m;have ka:=ae wr.drew (.cells #[.int .i64 X] 3);have xX:fx w1.heap.size ⟨1+PW,1+PH,3,DP,ps⟩ (.slice pa j pc) (.slice none 0 0) (wr.drew.alloc (.cells #[.int .i64 X] 3)):=(ka.block _ (lt_of_block iA)).trans iA;have D6:Hid (_/\_):=⟨P4,hj1⟩
     have lM:=lt_of_block um;have uU:fx w1.heap.size ⟨1+PW,1+PH,3,DP,ps⟩ (.slice pa j pc) (.slice none 0 0) u:=um;clear P4 um ka hj1;refine ax (by kernel_rfl) (fx w1.heap.size ⟨1+PW,1+PH,3,DP,ps⟩ (.slice pa j pc) (.slice none 0 0)) 7 ?_;refine ap [0,1,2] ?_
     iterate 3 (refine ay (v:=?_) (T:=?_) ?ht rfl rfl (by kernel_rfl) (fun _ _ _ h=>h) ?hy iA ?_;(case hy=>intro w hSw;have vn := aJ hSw; go_simp;try with_reducible rfl);case ht=>go_simp;try with_reducible rfl)
     refine ai ?_;refine af (i:=3) (by kernel_rfl) rfl (fun K hK=>?_);go_simp;refine (nB _).mono ?_;rintro e v3 ⟨rfl,hv3⟩;rw[hv3];clear hv3 v3;refine hK _ _ (fun _=>iA) ?_;clear hK K;refine af (i:=4) (by kernel_rfl) rfl (fun K hK=>?_);go_simp;refine hK _ _ (fun _=>xX) ?_;clear hK K;refine af (i:=5) (by kernel_rfl) rfl (fun K hK=>?_);rw[if_pos (by kernel_rfl)];subst hv';refine Lib.wp_append_run _ _ _ _ _ rfl _ _ rfl rfl _ _ hr ?_;go_simp;refine hK _ _ (fun _=>uU) ?_;clear hK K;refine ap [6] ?_
     iterate 1 (refine ay (v:=?_) (T:=?_) ?ht rfl rfl (by kernel_rfl) (fun _ _ _ h=>h) ?hy uU ?_;(case hy=>intro w hSw;(try dsimp only at hSw); go_simp;try with_reducible rfl);case ht=>go_simp;try with_reducible rfl)
     refine ai ?_;refine af (i:=7) (by kernel_rfl) rfl (fun K hK=>?_);go_simp;refine hK _ _ (fun h=>absurd rfl h) ?_;clear hK K;refine ak (by kernel_rfl) ?_ _;clear uU;go_wp2
     go_roundw
     case rel=>exact⟨j+1,aD++[X],_,by go_num,by omega,D6.out.1,by rw[List.length_append,pT.out.2];rfl,kE aD X 256 pT.out.1 Bf⟩
     case measure=>simp only[intOf];omega
   ·have Gx:¬(j:Int)<3*(1+PN):=by omega
    have Jc:j=3*N:=by omega
    have O8:Hid (_):=HS.out.1;have Bl:Hid (aD.length=3*N/\Pm.ee aD 256=true):=⟨by rw[HS.out.2.1,Jc],HS.out.2.2⟩
    have aeF:(1+PN)=(N:Int):=hN;clear HS HP;have HP:Hid (_):=O8.out;clear O8;go_wp2
    go_loopw [18] (fun ix wr=>∃(j:Nat) (S:List Int) (sv:Value),ix=.int .i64 j/\(j:Int)<=(1+PW)*(1+PH)*(ch:Int)/\Hid (iP w wr w.heap.size w1.heap.size ⟨1+PW,1+PH,3,DP,ps⟩ pv sv aD S/\S.length=j/\Pm.ee S (N:Int)=true)) (fun ix _=>((1+PW)*(1+PH)*(ch:Int)).toNat-(intOf ix).toNat)
    case atStart=>exact⟨0,[],.slice none 0 0,rfl,by show (0:Int)<=_;omega,HP,rfl,rfl⟩
    case round =>
     obtain⟨j,S,sv,rfl,hj,HS⟩:=hrel;have HM:fx w1.heap.size ⟨1+PW,1+PH,3,DP,ps⟩ pv sv wr:=HS.out.1.m;go_wp2_with fail;have hS0:fx w1.heap.size ⟨1+PW,1+PH,3,DP,ps⟩ pv sv wr.drew:=HM;refine ax (by kernel_rfl) (fx w1.heap.size ⟨1+PW,1+PH,3,DP,ps⟩ pv sv) 99 ?_;refine ap [0,1,2,3,4,5,6] ?_
     iterate 7 (refine ay (v:=?_) (T:=?_) ?ht rfl rfl (by kernel_rfl) (fun _ _ _ h=>h) ?hy hS0 ?_;(case hy=>intro w hSw;have vn := aJ hSw; go_simp;try with_reducible rfl);case ht=>go_simp;try with_reducible rfl)
     refine ai ?_;refine af (i:=7) (by kernel_rfl) rfl (fun K hK=>?_);go_simp;refine (hcn _).mono ?_;rintro e v1 ⟨rfl,b1⟩;have P1:Hid (iP w v1 w.heap.size w1.heap.size ⟨1+PW,1+PH,3,DP,ps⟩ pv sv aD S):=HS.out.1.drew.below b1;have hS1:fx w1.heap.size ⟨1+PW,1+PH,3,DP,ps⟩ pv sv v1:=P1.out.m;refine hK _ _ (fun _=>hS1) ?_;clear hK K b1 hS0 HM;refine ap [8,9] ?_
     iterate 2 (refine ay (v:=?_) (T:=?_) ?ht rfl rfl (by kernel_rfl) (fun _ _ _ h=>h) ?hy hS1 ?_;(case hy=>intro w hSw;(try dsimp only at hSw); go_simp;try with_reducible rfl);case ht=>go_simp;try with_reducible rfl)
     refine ai ?_;refine ak (by kernel_rfl) ?_ _;by_cases hlt:(j:Int)<(1+PW)*(1+PH)*(ch:Int)
     ·have hval:∀V:Int,(-9223372036854775808<=V/\V<=9223372036854775807)->∀v:World,Calls Tryz.prog 48 #[.int .i64 V,.int .i64 (N:Int)] v fun e w'=>e=.returned (.int .i64 (bQ V (N:Int)))/\w'=v:=fun V hV v=>ob V (N:Int) v hV.1 hV.2 (by omega) (by omega);have Qm:Hid (_):=hval;have Tw:=HS.out.2.1;have hal:=HS.out.2.2;have pT:Hid (Pm.ee S (N:Int)=true/\S.length=j):=⟨hal,Tw⟩
      have hjb:j<=2000:=by omega
      obtain⟨sa,sc,hsv⟩:=gZ P1.out.s;rw[Tw]at hsv;clear hval Tw hal HS;by_cases hL0:0<L
      ·have L8:(L:Int)>0:=by omega
       obtain⟨bb,off,x,rfl,hc,hx⟩:=DH (HR.out.1.below P1.out.k HR.out.2.1) HR.out.2.2 j (by rw[<-HL.out];exact hL0);rw[<-HL.out]at hc;obtain⟨q,hq⟩:∃q,q=j%L:=⟨_,rfl⟩
       have hqt:(j:Int).tmod (L:Int)=(q:Int):=by rw[hq,Int.tmod_eq_emod_of_nonneg (by omega)];push_cast;rfl
       obtain⟨q2,hq2⟩:∃q2,q2=j/L:=⟨_,rfl⟩
       have abM:(j:Int).tdiv (L:Int)=(q2:Int):=by rw[hq2,Int.tdiv_eq_ediv_of_nonneg (by omega)];push_cast;rfl
       have hLn:L≠0:=by omega
       have hqL:q<L:=by rw[hq];exact Nat.mod_lt _ hL0
       have XY:(q:Int)<(L:Int):=by omega
       have hL1:(L:Int)≠0:=by omega
       have hL2:(L:Int)≠-1:=by omega
       have abN:q2<=2000:=by rw[hq2];exact Nat.le_trans (Nat.div_le_self _ _) hjb
       have wq2:IntKind.i64.wrap (q2:Int)=(q2:Int):=IntWalk.i64_in _ (by omega);rw[<-hq]at hc;clear hq hq2;subst hsv;go_wp2_with fail;have hS2:v1.drew.cell? ⟨bb,off+q,none⟩=some (.int .i64 x):=hc;refine ax (by kernel_rfl) (fun u=>u.cell? ⟨bb,off+q,none⟩=some (.int .i64 x)) 99 ?_;refine ap [0,1,2,3,4,5,6,7,8,9,10,11,12] ?_
       iterate 13 (refine ay (v:=?_) (T:=?_) ?ht rfl rfl (by kernel_rfl) (fun _ _ _ h=>h) ?hy hS2 ?_;(case hy=>intro w hSw;(try dsimp only at hSw); go_simp;try with_reducible rfl);case ht=>go_simp;try with_reducible rfl)
       refine ai ?_;refine ak (by kernel_rfl) ?_ _;obtain⟨V,hV⟩:∃V,V=IntKind.i64.wrap (x+(q2:Int)):=⟨_,rfl⟩
       have hVr:-9223372036854775808<=V/\V<=9223372036854775807:=by rw[hV];exact Fb _
       rw[<-hV];clear hV;have nB:=Qm.out V hVr;obtain⟨X,hX⟩:∃X,X=bQ V (N:Int):=⟨_,rfl⟩
       have Bf:=bg V (n:=(N:Int)) (by omega);rw[<-hX]at nB Bf;clear hX;have PX:iP w v1.drew w.heap.size w1.heap.size ⟨1+PW,1+PH,3,DP,ps⟩ pv (.slice sa j sc) aD S:=P1.out.drew;generalize v1.drew=v2 at *;go_wp2_with fail;obtain⟨v',u,hr,P4,d5,f5,⟨Uk,cp',hv'⟩,um⟩:=PX.drew.Fa X (by rw[pT.out.2];omega);rw[pT.out.2]at hv';obtain⟨j1,hj1⟩:∃j1,j1=j+1:=⟨_,rfl⟩
       rw[<-hj1]at hv';have iA:fx w1.heap.size ⟨1+PW,1+PH,3,DP,ps⟩ pv (.slice sa j sc) v2.drew:=PX.m;have ka:=ae v2.drew (.cells #[.int .i64 X] 3);have xX:fx w1.heap.size ⟨1+PW,1+PH,3,DP,ps⟩ pv (.slice sa j sc) (v2.drew.alloc (.cells #[.int .i64 X] 3)):=(ka.block _ (lt_of_block iA)).trans iA;have D6:Hid (_/\_/\_):=⟨P4,hj1,um⟩
       have lM:=lt_of_block um;have uU:fx w1.heap.size ⟨1+PW,1+PH,3,DP,ps⟩ pv (.slice sa j sc) u:=um;clear P4 um PX ka hj1;refine ax (by kernel_rfl) (fx w1.heap.size ⟨1+PW,1+PH,3,DP,ps⟩ pv (.slice sa j sc)) 8 ?_;refine ap [0,1,2,3] ?_
       iterate 4 (refine ay (v:=?_) (T:=?_) ?ht rfl rfl (by kernel_rfl) (fun _ _ _ h=>h) ?hy iA ?_;(case hy=>intro w hSw;have vn := aJ hSw; go_simp;try with_reducible rfl);case ht=>go_simp;try with_reducible rfl)
       refine ai ?_;refine af (i:=4) (by kernel_rfl) rfl (fun K hK=>?_);go_simp;refine (nB _).mono ?_;rintro e v3 ⟨rfl,hv3⟩;rw[hv3];clear hv3 v3;refine hK _ _ (fun _=>iA) ?_;clear hK K;refine af (i:=5) (by kernel_rfl) rfl (fun K hK=>?_);go_simp;refine hK _ _ (fun _=>xX) ?_;clear hK K;refine af (i:=6) (by kernel_rfl) rfl (fun K hK=>?_);rw[if_pos (by kernel_rfl)];subst hv';refine Lib.wp_append_run _ _ _ _ _ rfl _ _ rfl rfl _ _ hr ?_;go_simp;refine hK _ _ (fun _=>uU) ?_;clear hK K;refine ap [7] ?_
       iterate 1 (refine ay (v:=?_) (T:=?_) ?ht rfl rfl (by kernel_rfl) (fun _ _ _ h=>h) ?hy uU ?_;(case hy=>intro w hSw;(try dsimp only at hSw); go_simp;try with_reducible rfl);case ht=>go_simp;try with_reducible rfl)
       refine ai ?_;refine af (i:=8) (by kernel_rfl) rfl (fun K hK=>?_);go_simp;refine hK _ _ (fun h=>absurd rfl h) ?_;clear hK K;refine ak (by kernel_rfl) ?_ _;clear uU;go_wp2
       go_roundw
       case rel=>exact⟨j+1,S++[X],_,by go_num,by omega,D6.out.1,by rw[List.length_append,pT.out.2];rfl,kE S X (N:Int) pT.out.1 Bf⟩
       case measure=>simp only[intOf];omega
      ·have abP:True:=trivial;subst hsv;have nB:=Qm.out 0 (by omega);obtain⟨X,hX⟩:∃X,X=bQ 0 (N:Int):=⟨_,rfl⟩
       have Bf:=bg 0 (n:=(N:Int)) (by omega);rw[<-hX]at nB Bf;clear hX;have PX:iP w v1 w.heap.size w1.heap.size ⟨1+PW,1+PH,3,DP,ps⟩ pv (.slice sa j sc) aD S:=P1.out;have L8:¬(L:Int)>0:=by omega
       go_wp2_with fail;obtain⟨v',u,hr,P4,d5,f5,⟨Uk,cp',hv'⟩,um⟩:=PX.drew.Fa X (by rw[pT.out.2];omega);rw[pT.out.2]at hv';obtain⟨j1,hj1⟩:∃j1,j1=j+1:=⟨_,rfl⟩
       rw[<-hj1]at hv';have iA:fx w1.heap.size ⟨1+PW,1+PH,3,DP,ps⟩ pv (.slice sa j sc) v1.drew:=PX.m;have ka:=ae v1.drew (.cells #[.int .i64 X] 3);have xX:fx w1.heap.size ⟨1+PW,1+PH,3,DP,ps⟩ pv (.slice sa j sc) (v1.drew.alloc (.cells #[.int .i64 X] 3)):=(ka.block _ (lt_of_block iA)).trans iA;have D6:Hid (_/\_/\_):=⟨P4,hj1,um⟩
       have lM:=lt_of_block um;have uU:fx w1.heap.size ⟨1+PW,1+PH,3,DP,ps⟩ pv (.slice sa j sc) u:=um;clear P4 um PX ka hj1;refine ax (by kernel_rfl) (fx w1.heap.size ⟨1+PW,1+PH,3,DP,ps⟩ pv (.slice sa j sc)) 8 ?_;refine ap [0,1,2,3] ?_
       iterate 4 (refine ay (v:=?_) (T:=?_) ?ht rfl rfl (by kernel_rfl) (fun _ _ _ h=>h) ?hy iA ?_;(case hy=>intro w hSw;have vn := aJ hSw; go_simp;try with_reducible rfl);case ht=>go_simp;try with_reducible rfl)
       refine ai ?_;refine af (i:=4) (by kernel_rfl) rfl (fun K hK=>?_);go_simp;refine (nB _).mono ?_;rintro e v3 ⟨rfl,hv3⟩;rw[hv3];clear hv3 v3;refine hK _ _ (fun _=>iA) ?_;clear hK K;refine af (i:=5) (by kernel_rfl) rfl (fun K hK=>?_);go_simp;refine hK _ _ (fun _=>xX) ?_;clear hK K;refine af (i:=6) (by kernel_rfl) rfl (fun K hK=>?_);rw[if_pos (by kernel_rfl)];subst hv';refine Lib.wp_append_run _ _ _ _ _ rfl _ _ rfl rfl _ _ hr ?_;go_simp;refine hK _ _ (fun _=>uU) ?_;clear hK K;refine ap [7] ?_
       iterate 1 (refine ay (v:=?_) (T:=?_) ?ht rfl rfl (by kernel_rfl) (fun _ _ _ h=>h) ?hy uU ?_;(case hy=>intro w hSw;(try dsimp only at hSw); go_simp;try with_reducible rfl);case ht=>go_simp;try with_reducible rfl)
       refine ai ?_;refine af (i:=8) (by kernel_rfl) rfl (fun K hK=>?_);go_simp;refine hK _ _ (fun h=>absurd rfl h) ?_;clear hK K;refine ak (by kernel_rfl) ?_ _;clear uU;go_wp2
       go_roundw
       case rel=>exact⟨j+1,S++[X],_,by go_num,by omega,D6.out.1,by rw[List.length_append,pT.out.2];rfl,kE S X (N:Int) pT.out.1 Bf⟩
       case measure=>simp only[intOf];omega
     ·have Jc:(j:Int)=(1+PW)*(1+PH)*(ch:Int):=by omega
      obtain⟨sa,sc,rfl⟩:=gZ P1.out.s;obtain⟨pa,pc,rfl⟩:=gZ P1.out.p;obtain⟨m0,m1,m2,m3,m4,m5,m6⟩:=aJ P1.out.m;obtain⟨y0,y1,y2,y3,y4,y5,y6,yf,yl⟩:=gC P1.out.r
      have JQ:Hid (dD ⟨1+PW,1+PH,3,DP,ps⟩ aD S):=by
       refine⟨HH.out,xb _ HH.out (by show 1+PW<=20;omega) (by show 1+PH<=20;omega),?_,?_⟩
       ·unfold Pm.pM;dsimp only;rw[if_pos rfl,Bl.out.2,Bool.and_true,L7.out];simp only[Bool.and_eq_true,decide_eq_true_eq];have:=Bl.out.1;omega
       ·unfold Pm.ug;dsimp only;rw[YE.out,HS.out.2.1,decide_eq_true Jc,Bool.true_and];rw[if_pos rfl];have e:((aD.length:Nat):Int)/3=(N:Int):=by have:=Bl.out.1;omega
        rw[e];exact HS.out.2.2
      have hout:=Fc P1.out JQ.out (by show 1+PW<=20;omega) (by show 1+PH<=20;omega) ⟨by have:=Bl.out.1;omega,by rw[HS.out.2.1];omega⟩;have HO:Hid (_):=hout;clear hout JQ HS;go_wp2;exact bodyPost_ret (results_cell_row rfl _ _ w.heap.size 30 _ (0,0) _ rfl HO.out.2 Tryz.underlying30 rfl Tryz.infoImage) rfl HO.out.1
 ·have h3b:(KD==3)=false:=beq_eq_false_iff_ne.2 h3
  have hb1:(1+PW)*(1+PH)*(ch:Int)<=1600/\0<=(1+PW)*(1+PH)*(ch:Int):=by
   have a1:(1+PW)*(1+PH)<=20*20:=Int.mul_le_mul (by omega) (by omega) (by omega) (by omega);have a0:0<=(1+PW)*(1+PH):=Int.mul_nonneg (by omega) (by omega);exact⟨by have:(1+PW)*(1+PH)*(ch:Int)<=400*4:=Int.mul_le_mul (by omega) (by omega) (by omega) (by omega);omega,Int.mul_nonneg a0 (by omega)⟩
  have hb2:(1+PW)*(1+PH)<=400/\0<=(1+PW)*(1+PH):=by
   have a1:(1+PW)*(1+PH)<=20*20:=Int.mul_le_mul (by omega) (by omega) (by omega) (by omega);exact⟨by omega,Int.mul_nonneg (by omega) (by omega)⟩
  have wm1:IntKind.i64.wrap ((1+PW)*(1+PH))=(1+PW)*(1+PH):=IntWalk.i64_in _ (by omega);have wm2:IntKind.i64.wrap ((1+PW)*(1+PH)*(ch:Int))=(1+PW)*(1+PH)*(ch:Int):=IntWalk.i64_in _ (by omega);have HP:Hid (_):=W1.out;clear W1;have hw2:=nu DP hdp;have hw3:=Ql DP hdp;rw[L7.out]at hw2 hw3;go_wp2;clear hw2 hw3
  go_loopw [18] (fun ix wr=>∃(j:Nat) (S:List Int) (sv:Value),ix=.int .i64 j/\(j:Int)<=(1+PW)*(1+PH)*(ch:Int)/\Hid (iP w wr w.heap.size w1.heap.size ⟨1+PW,1+PH,KD,DP,ps⟩ (.slice none 0 0) sv [] S/\S.length=j/\Pm.ee S top=true)) (fun ix _=>((1+PW)*(1+PH)*(ch:Int)).toNat-(intOf ix).toNat)
  case atStart=>exact⟨0,[],.slice none 0 0,rfl,by show (0:Int)<=_;omega,HP,rfl,rfl⟩
  case round =>
   obtain⟨j,S,sv,rfl,hj,HS⟩:=hrel;have HM:fx w1.heap.size ⟨1+PW,1+PH,KD,DP,ps⟩ (.slice none 0 0) sv wr:=HS.out.1.m;go_wp2_with fail;have hS0:fx w1.heap.size ⟨1+PW,1+PH,KD,DP,ps⟩ (.slice none 0 0) sv wr.drew:=HM;refine ax (by kernel_rfl) (fx w1.heap.size ⟨1+PW,1+PH,KD,DP,ps⟩ (.slice none 0 0) sv) 99 ?_;refine ap [0,1,2,3,4,5,6] ?_
   iterate 7 (refine ay (v:=?_) (T:=?_) ?ht rfl rfl (by kernel_rfl) (fun _ _ _ h=>h) ?hy hS0 ?_;(case hy=>intro w hSw;have vn := aJ hSw; go_simp;try with_reducible rfl);case ht=>go_simp;try with_reducible rfl)
   refine ai ?_;refine af (i:=7) (by kernel_rfl) rfl (fun K hK=>?_);go_simp;refine (hcn _).mono ?_;rintro e v1 ⟨rfl,b1⟩;have P1:Hid (iP w v1 w.heap.size w1.heap.size ⟨1+PW,1+PH,KD,DP,ps⟩ (.slice none 0 0) sv [] S):=HS.out.1.drew.below b1;have hS1:fx w1.heap.size ⟨1+PW,1+PH,KD,DP,ps⟩ (.slice none 0 0) sv v1:=P1.out.m;refine hK _ _ (fun _=>hS1) ?_;clear hK K b1 hS0 HM;refine ap [8,9] ?_
   iterate 2 (refine ay (v:=?_) (T:=?_) ?ht rfl rfl (by kernel_rfl) (fun _ _ _ h=>h) ?hy hS1 ?_;(case hy=>intro w hSw;(try dsimp only at hSw); go_simp;try with_reducible rfl);case ht=>go_simp;try with_reducible rfl)
   refine ai ?_;refine ak (by kernel_rfl) ?_ _;by_cases hlt:(j:Int)<(1+PW)*(1+PH)*(ch:Int)
   ·have hval:∀V:Int,(-9223372036854775808<=V/\V<=9223372036854775807)->∀v:World,Calls Tryz.prog 48 #[.int .i64 V,.int .i64 top] v fun e w'=>e=.returned (.int .i64 (bQ V top))/\w'=v:=fun V hV v=>ob V top v hV.1 hV.2 (by omega) (by omega);have Qm:Hid (_):=hval;have Tw:=HS.out.2.1;have hal:=HS.out.2.2;have pT:Hid (Pm.ee S top=true/\S.length=j):=⟨hal,Tw⟩
    have hjb:j<=2000:=by omega
    obtain⟨sa,sc,hsv⟩:=gZ P1.out.s;rw[Tw]at hsv;clear hval Tw hal HS;by_cases hL0:0<L
    ·have L8:(L:Int)>0:=by omega
     obtain⟨bb,off,x,rfl,hc,hx⟩:=DH (HR.out.1.below P1.out.k HR.out.2.1) HR.out.2.2 j (by rw[<-HL.out];exact hL0);rw[<-HL.out]at hc;obtain⟨q,hq⟩:∃q,q=j%L:=⟨_,rfl⟩
     have hqt:(j:Int).tmod (L:Int)=(q:Int):=by rw[hq,Int.tmod_eq_emod_of_nonneg (by omega)];push_cast;rfl
     obtain⟨q2,hq2⟩:∃q2,q2=j/L:=⟨_,rfl⟩
     have abM:(j:Int).tdiv (L:Int)=(q2:Int):=by rw[hq2,Int.tdiv_eq_ediv_of_nonneg (by omega)];push_cast;rfl
     have hLn:L≠0:=by omega
     have hqL:q<L:=by rw[hq];exact Nat.mod_lt _ hL0
     have XY:(q:Int)<(L:Int):=by omega
     have hL1:(L:Int)≠0:=by omega
     have hL2:(L:Int)≠-1:=by omega
     have abN:q2<=2000:=by rw[hq2];exact Nat.le_trans (Nat.div_le_self _ _) hjb
     have wq2:IntKind.i64.wrap (q2:Int)=(q2:Int):=IntWalk.i64_in _ (by omega);rw[<-hq]at hc;clear hq hq2;subst hsv;go_wp2_with fail;have hS2:v1.drew.cell? ⟨bb,off+q,none⟩=some (.int .i64 x):=hc;refine ax (by kernel_rfl) (fun u=>u.cell? ⟨bb,off+q,none⟩=some (.int .i64 x)) 99 ?_;refine ap [0,1,2,3,4,5,6,7,8,9,10,11,12] ?_
     iterate 13 (refine ay (v:=?_) (T:=?_) ?ht rfl rfl (by kernel_rfl) (fun _ _ _ h=>h) ?hy hS2 ?_;(case hy=>intro w hSw;(try dsimp only at hSw); go_simp;try with_reducible rfl);case ht=>go_simp;try with_reducible rfl)
     refine ai ?_;refine ak (by kernel_rfl) ?_ _;obtain⟨V,hV⟩:∃V,V=IntKind.i64.wrap (x+(q2:Int)):=⟨_,rfl⟩
     have hVr:-9223372036854775808<=V/\V<=9223372036854775807:=by rw[hV];exact Fb _
     rw[<-hV];clear hV;have nB:=Qm.out V hVr;obtain⟨X,hX⟩:∃X,X=bQ V top:=⟨_,rfl⟩
     have Bf:=bg V (n:=top) (by omega);rw[<-hX]at nB Bf;clear hX;have PX:iP w v1.drew w.heap.size w1.heap.size ⟨1+PW,1+PH,KD,DP,ps⟩ (.slice none 0 0) (.slice sa j sc) [] S:=P1.out.drew;generalize v1.drew=v2 at *;go_wp2_with fail;obtain⟨v',u,hr,P4,d5,f5,⟨Uk,cp',hv'⟩,um⟩:=PX.drew.Fa X (by rw[pT.out.2];omega);rw[pT.out.2]at hv';obtain⟨j1,hj1⟩:∃j1,j1=j+1:=⟨_,rfl⟩
     rw[<-hj1]at hv';have iA:fx w1.heap.size ⟨1+PW,1+PH,KD,DP,ps⟩ (.slice none 0 0) (.slice sa j sc) v2.drew:=PX.m;have ka:=ae v2.drew (.cells #[.int .i64 X] 3);have xX:fx w1.heap.size ⟨1+PW,1+PH,KD,DP,ps⟩ (.slice none 0 0) (.slice sa j sc) (v2.drew.alloc (.cells #[.int .i64 X] 3)):=(ka.block _ (lt_of_block iA)).trans iA;have D6:Hid (_/\_/\_):=⟨P4,hj1,um⟩
     have lM:=lt_of_block um;have uU:fx w1.heap.size ⟨1+PW,1+PH,KD,DP,ps⟩ (.slice none 0 0) (.slice sa j sc) u:=um;clear P4 um PX ka hj1;refine ax (by kernel_rfl) (fx w1.heap.size ⟨1+PW,1+PH,KD,DP,ps⟩ (.slice none 0 0) (.slice sa j sc)) 8 ?_;refine ap [0,1,2,3] ?_
     iterate 4 (refine ay (v:=?_) (T:=?_) ?ht rfl rfl (by kernel_rfl) (fun _ _ _ h=>h) ?hy iA ?_;(case hy=>intro w hSw;have vn := aJ hSw; go_simp;try with_reducible rfl);case ht=>go_simp;try with_reducible rfl)
     refine ai ?_;refine af (i:=4) (by kernel_rfl) rfl (fun K hK=>?_);go_simp;refine (nB _).mono ?_;rintro e v3 ⟨rfl,hv3⟩;rw[hv3];clear hv3 v3;refine hK _ _ (fun _=>iA) ?_;clear hK K;refine af (i:=5) (by kernel_rfl) rfl (fun K hK=>?_);go_simp;refine hK _ _ (fun _=>xX) ?_;clear hK K;refine af (i:=6) (by kernel_rfl) rfl (fun K hK=>?_);rw[if_pos (by kernel_rfl)];subst hv';refine Lib.wp_append_run _ _ _ _ _ rfl _ _ rfl rfl _ _ hr ?_;go_simp;refine hK _ _ (fun _=>uU) ?_;clear hK K;refine ap [7] ?_
     iterate 1 (refine ay (v:=?_) (T:=?_) ?ht rfl rfl (by kernel_rfl) (fun _ _ _ h=>h) ?hy uU ?_;(case hy=>intro w hSw;(try dsimp only at hSw); go_simp;try with_reducible rfl);case ht=>go_simp;try with_reducible rfl)
     refine ai ?_;refine af (i:=8) (by kernel_rfl) rfl (fun K hK=>?_);go_simp;refine hK _ _ (fun h=>absurd rfl h) ?_;clear hK K;refine ak (by kernel_rfl) ?_ _;clear uU;go_wp2
     go_roundw
     case rel=>exact⟨j+1,S++[X],_,by go_num,by omega,D6.out.1,by rw[List.length_append,pT.out.2];rfl,kE S X top pT.out.1 Bf⟩
     case measure=>simp only[intOf];omega
    ·have abP:True:=trivial;subst hsv;have nB:=Qm.out 0 (by omega);obtain⟨X,hX⟩:∃X,X=bQ 0 top:=⟨_,rfl⟩
     have Bf:=bg 0 (n:=top) (by omega);rw[<-hX]at nB Bf;clear hX;have PX:iP w v1 w.heap.size w1.heap.size ⟨1+PW,1+PH,KD,DP,ps⟩ (.slice none 0 0) (.slice sa j sc) [] S:=P1.out;have L8:¬(L:Int)>0:=by omega
     go_wp2_with fail;obtain⟨v',u,hr,P4,d5,f5,⟨Uk,cp',hv'⟩,um⟩:=PX.drew.Fa X (by rw[pT.out.2];omega);rw[pT.out.2]at hv';obtain⟨j1,hj1⟩:∃j1,j1=j+1:=⟨_,rfl⟩
     rw[<-hj1]at hv';have iA:fx w1.heap.size ⟨1+PW,1+PH,KD,DP,ps⟩ (.slice none 0 0) (.slice sa j sc) v1.drew:=PX.m;have ka:=ae v1.drew (.cells #[.int .i64 X] 3);have xX:fx w1.heap.size ⟨1+PW,1+PH,KD,DP,ps⟩ (.slice none 0 0) (.slice sa j sc) (v1.drew.alloc (.cells #[.int .i64 X] 3)):=(ka.block _ (lt_of_block iA)).trans iA;have D6:Hid (_/\_/\_):=⟨P4,hj1,um⟩
     have lM:=lt_of_block um;have uU:fx w1.heap.size ⟨1+PW,1+PH,KD,DP,ps⟩ (.slice none 0 0) (.slice sa j sc) u:=um;clear P4 um PX ka hj1;refine ax (by kernel_rfl) (fx w1.heap.size ⟨1+PW,1+PH,KD,DP,ps⟩ (.slice none 0 0) (.slice sa j sc)) 8 ?_;refine ap [0,1,2,3] ?_
     iterate 4 (refine ay (v:=?_) (T:=?_) ?ht rfl rfl (by kernel_rfl) (fun _ _ _ h=>h) ?hy iA ?_;(case hy=>intro w hSw;have vn := aJ hSw; go_simp;try with_reducible rfl);case ht=>go_simp;try with_reducible rfl)
     refine ai ?_;refine af (i:=4) (by kernel_rfl) rfl (fun K hK=>?_);go_simp;refine (nB _).mono ?_;rintro e v3 ⟨rfl,hv3⟩;rw[hv3];clear hv3 v3;refine hK _ _ (fun _=>iA) ?_;clear hK K;refine af (i:=5) (by kernel_rfl) rfl (fun K hK=>?_);go_simp;refine hK _ _ (fun _=>xX) ?_;clear hK K;refine af (i:=6) (by kernel_rfl) rfl (fun K hK=>?_);rw[if_pos (by kernel_rfl)];subst hv';refine Lib.wp_append_run _ _ _ _ _ rfl _ _ rfl rfl _ _ hr ?_;go_simp;refine hK _ _ (fun _=>uU) ?_;clear hK K;refine ap [7] ?_
     iterate 1 (refine ay (v:=?_) (T:=?_) ?ht rfl rfl (by kernel_rfl) (fun _ _ _ h=>h) ?hy uU ?_;(case hy=>intro w hSw;(try dsimp only at hSw); go_simp;try with_reducible rfl);case ht=>go_simp;try with_reducible rfl)
     refine ai ?_;refine af (i:=8) (by kernel_rfl) rfl (fun K hK=>?_);go_simp;refine hK _ _ (fun h=>absurd rfl h) ?_;clear hK K;refine ak (by kernel_rfl) ?_ _;clear uU;go_wp2
     go_roundw
     case rel=>exact⟨j+1,S++[X],_,by go_num,by omega,D6.out.1,by rw[List.length_append,pT.out.2];rfl,kE S X top pT.out.1 Bf⟩
     case measure=>simp only[intOf];omega
   ·have Jc:(j:Int)=(1+PW)*(1+PH)*(ch:Int):=by omega
    obtain⟨sa,sc,rfl⟩:=gZ P1.out.s;obtain⟨m0,m1,m2,m3,m4,m5,m6⟩:=aJ P1.out.m;obtain⟨y0,y1,y2,y3,y4,y5,y6,yf,yl⟩:=gC P1.out.r
    have JQ:Hid (dD ⟨1+PW,1+PH,KD,DP,ps⟩ [] S):=by
     refine⟨HH.out,xb _ HH.out (by show 1+PW<=20;omega) (by show 1+PH<=20;omega),?_,?_⟩
     ·unfold Pm.pM;dsimp only;rw[if_neg h3];rfl
     ·unfold Pm.ug;dsimp only;rw[YE.out,HS.out.2.1,decide_eq_true Jc,Bool.true_and];rw[if_neg h3,L7.out];exact HS.out.2.2
    have hout:=Fc P1.out JQ.out (by show 1+PW<=20;omega) (by show 1+PH<=20;omega) ⟨Nat.zero_le _,by rw[HS.out.2.1];omega⟩;have HO:Hid (_):=hout;clear hout JQ HS;go_wp2;exact bodyPost_ret (results_cell_row rfl _ _ w.heap.size 30 _ (0,0) _ rfl HO.out.2 Tryz.underlying30 rfl Tryz.infoImage) rfl HO.out.1
theorem Ib {T X:ByteArray}{lv:Nat}(h:jG T X lv)(hT:T.size<=4500000):cX X (T.size:Int)=0/\i7 X (T.size:Int)=T:=by
 obtain⟨P,Wb,ks,rfl,h1,h2,h3,_⟩:=h;obtain⟨a,b,_⟩:=LW h1 h2 hT (by omega);exact⟨a,b⟩
theorem OM {h:Hd}{aD S:List Int}{T X b:ByteArray}{ds:List ByteArray}{lv fl ck:Nat}(hf:dD h aD S)(hT:(T.size:Int)=ct h)(hw:Pm.Written (gG h) S (ag T) fl h.ps)(hp:jG T X lv)(hc:Hy X X.size ck ds)(hck:ck<=1048576)(hb:b.data.toList=rJ h aD ds)(limit:Int)(hl:ct h<=limit):dR b limit=.ok ⟨h,aD,S⟩:=by
 have hr:=hf.raw;have hTs:T.size<=4500000:=by omega
 obtain⟨c1,c2⟩:=Ib hp hTs;rw[hT]at c1 c2;exact Lw hf hw hT c1 c2 (by rw[hc.cat,sG]) hb (fun d hd=>by have:=(hc.few d hd).2;omega) (Hz hc (hp.size hTs).2) limit hl
theorem Ic {h:Hd}{aD:List Int}{X b:ByteArray}{ds:List ByteArray}{ck:Nat}(hc:Hy X X.size ck ds)(hpl:aD.length<=1000000)(hb:b.data.toList=rJ h aD ds):b.size<=57+aD.length+13*X.size:=by
 have e:=cH b;rw[hb]at e;unfold rJ eu at e;have h1:∀(L M:List Ch),(dh (L++M)).length=(dh L).length+(dh M).length:=fun L M=>by rw[AY,List.length_append]
 have h2:∀(c:Ch) (L:List Ch),(dh (c::L)).length=(oh c).length+(dh L).length:=fun c L=>by show (oh c++dh L).length=_;rw[List.length_append]
 rw[List.length_append,h2,h1,h1,LV]at e;have h3:=yH hc
 have h4:(dh [⟨ba n9,⟨#[]⟩⟩]).length=12:=by
  rw[h2,lU ⟨rfl,rfl,by show 0<=_;omega⟩];rfl
 have h5:(dh (if h.kd=3 then [(⟨ba dP,dA aD⟩:Ch)] else [])).length<=12+aD.length:=by
  split
  ·have hs:=lY aD;rw[h2,lU ⟨rfl,rfl,by show (dA aD).size<=_;omega⟩];show 12+(dA aD).size+0<=_;omega
  ·exact Nat.zero_le _
 have h6:SQ.length=8:=rfl;have h7:(dh (ds.map fun d=>(⟨ba cV,d⟩:Ch))).length<=13*X.size:=h3;omega
theorem Bg {T X:ByteArray}{lv:Nat}(h:jG T X lv)(hT:T.size<=22540):X.size<=22560:=by
 obtain⟨P,Wb,ks,rfl,h1,_,h3,_⟩:=h;rw[oX];have h4:=h1.1;rw[cH]at h4;omega
theorem fw.ints {w:World}{B:Nat}{v:Value}{l:List Int}(h:fw w B v l):∃ao cp,v=.slice ao l.length cp/\Ints w ao l/\(∀a,ao=some a->l≠[]->a.block<w.heap.size):=by
 rcases h with⟨rfl,rfl⟩|⟨G,_,rfl,hG⟩
 ·exact⟨none,0,rfl,fun j hj=>absurd hj (Nat.not_lt_zero _),fun a ha=>(by cases ha)⟩
 ·exact⟨_,_,rfl,hG.ints,fun a ha _=>(by have e:=Option.some.inj ha;rw[<-e];exact lt_of_block hG)⟩
abbrev OO (x:Int):Prop:=-9223372036854775808<=x/\x<=9223372036854775807
theorem XZ (kind width jR:Int)(ps:Bool)(ra:Option Addr)(rc:Nat)(raw:List Int)(level filter chunk:Int)(w:World)(hk:OO kind)(hw:OO width)(hh:OO jR)(hlv:OO level)(hfl:OO filter)(hck:OO chunk)(hraw:Ints w ra raw)(hra:∀a,ra=some a->raw≠[]->a.block<w.heap.size)(OA:∀y∈raw,OO y)(hrl:raw.length<=9223372036854775807)(tt:TypeId)(fr:Nat×Nat)(jl:w.heap[0]?=some (.cells cA tt fr)): Calls Tryz.prog 5 #[.int .i64 kind,.int .i64 width,.int .i64 jR,.bool ps,.slice ra raw.length rc,.int .i64 level,.int .i64 filter,.int .i64 chunk] w fun e w'=>e=.returned (.bool true)/\Below w.heap.size w w':=by
 have hkn:=Se w;have hpi:=fun u (hu:Below w.heap.size w u)=>L6 kind width jR ps ra rc raw u hk hw hh (hraw.below hu hra) (fun a e e2=>Nat.lt_of_lt_of_le (hra a e e2) hu.size) OA hrl;have hse:=fun u=>L0 level filter chunk u hlv hfl hck;have hr3:=bg chunk (n:=300) (by omega);have HPI:Hid (_):=hpi;have VJ:Hid (_):=jl;obtain⟨L,hL⟩:∃L,L=raw.length:=⟨_,rfl⟩
 rw[<-hL]at HPI ⊢;obtain⟨A,hA⟩:∃A,A=bQ level 3:=⟨_,rfl⟩
 obtain⟨Fl,hFl⟩:∃Fl,Fl=bQ filter 6:=⟨_,rfl⟩
 obtain⟨C,hC⟩:∃C,C=1+bQ chunk 300:=⟨_,rfl⟩
 rw[<-hA,<-hFl,<-hC]at hse;have hCb:C<=300:=by omega
 clear hraw hra OA hrl hpi jl hL hA hFl hC hk hw hh hlv hfl hck hr3
 go_enter Tryz.func5,Tryz.ntmps5
 go_wp2_with fail;refine hkn.mono ?_;rintro e w1 ⟨rfl,b1⟩;have hpi:=HPI.out w1 b1;have HB1:Hid (_):=b1;clear b1 hkn HPI;go_wp2_with fail;refine hpi.mono ?_;rintro e w2 ⟨h,aD,S,pa,pc,G,cap,rfl,hpf,hps,hsm,i1,i2,i3,hG,hcap,hlen,b2⟩;have B2:Below w.heap.size w w2:=HB1.out.trans (b2.mono HB1.out.size);have ka:=ae w2 (.cells (aW h (.slice pa aD.length pc) (.slice (some ⟨G,0,none⟩) S.length cap)) 30);have q:=ah w2 (.cells (aW h (.slice pa aD.length pc) (.slice (some ⟨G,0,none⟩) S.length cap)) 30);have B3:=B2.trans (ka.mono B2.size);have Gw:C9 w2 pa aD (some ⟨G,0,none⟩) S tt fr:=⟨(B2.block _ (lt_of_block VJ.out)).trans VJ.out,i1,i2,by unfold maxLen;omega,i3,fun a ha _=>(by have e:=Option.some.inj ha;rw[<-e];exact hG),by unfold maxLen;omega⟩
 have hl3:=Gw.later ka;have Tx:=Sm h.wd h.ht h.kd h.dp h.ps pa pc aD (some ⟨G,0,none⟩) cap S _ tt fr hl3;rw[(uN h aD S).2 hpf]at Tx;have xg:=uT h hpf.hd hsm.1 hsm.2;have z3:(w2.alloc (.cells (aW h (.slice pa aD.length pc) (.slice (some ⟨G,0,none⟩) S.length cap)) 30)).heap.size=w2.heap.size+1:=by simp
 obtain⟨x0,x1,x2,x3,x4,x5,x6⟩:=aJ q;have HH:Hid (_/\_/\_/\_/\_/\_/\_):=⟨hl3,q,B3,hpf,hcap,xg,hlen⟩
 clear Gw hl3 q B2 B3 hpf hps hsm i1 i2 i3 b2 hpi ka hcap xg hlen;go_wp2_with fail;refine Tx.mono ?_;rintro e w4 ⟨rfl,b4⟩;obtain⟨hl3,q,B3,hpf,hcap,xg,hlen⟩:=HH.out;have zz3:=b4.size;rw[z3]at zz3;have q4:=(b4.block w2.heap.size (by omega)).trans q;have hl4:=hl3.later b4;have B4:=B3.trans (b4.mono B3.size);have Qe:Hid (_/\_/\_):=⟨hl4,q4,B4⟩
 clear hl3 q B3 hpf hcap xg hlen b4 q4 hl4 B4 Tx x0 x1 x2 x3 x4 x5 x6;go_wp2_with fail;have hS:w4.drew.heap[w2.heap.size]?=some (.cells (aW h (.slice pa aD.length pc) (.slice (some ⟨G,0,none⟩) S.length cap)) 30 (0,0)):=Qe.out.2.1;refine ax (by kernel_rfl) (fun u=>u.heap[w2.heap.size]?=some (.cells (aW h (.slice pa aD.length pc) (.slice (some ⟨G,0,none⟩) S.length cap)) 30 (0,0))) 99 ?_;refine ap [0,1,2,3] ?_
 iterate 4 (refine ay (v:=?_) (T:=?_) ?ht rfl rfl (by kernel_rfl) (fun _ _ _ h=>h) ?hy hS ?_;(case hy=>intro w hSw;have vn := aJ hSw; go_simp;try with_reducible rfl);case ht=>go_simp;try with_reducible rfl)
 refine ai ?_;refine af (i:=4) (by kernel_rfl) rfl (fun K hK=>?_);go_simp;refine (hse _).mono ?_;rintro e w5 ⟨rfl,hset,b5⟩;have yx:Below w4.heap.size w4 w5:=((Below.refl _ w4).drew).trans b5;have zz5:=yx.size;have q5:=(yx.block _ (by omega)).trans Qe.out.2.1;have B5:=Qe.out.2.2.trans (yx.mono Qe.out.2.2.size);have hl5:=Qe.out.1.later yx;have hen:=OL h A Fl C aD S pa pc G cap w5 tt fr hl5 (by omega) HH.out.2.2.2.2.1;have HH5:Hid (_/\_/\_/\_):=⟨hl5,q5,B5,hset⟩
 refine hK _ _ (fun _=>q5) ?_;clear hK K b5 yx hl5 q5 B5 hset hse hS;refine af (i:=5) (by kernel_rfl) rfl (fun K hK=>?_);go_simp;refine hen.mono ?_;rintro e w6 ⟨hcase,b6⟩;obtain⟨hl5,q5,B5,hset⟩:=HH5.out;obtain⟨_,_,_,hpf,hcap,xg,hlen⟩:=HH.out;rcases hcase with⟨hne,_⟩|⟨_,hsf,_⟩|⟨_,_,T,X,ds,b,rfl,t1,t2,t3,t4,t5⟩
 ·exact absurd ((uN h aD S).2 hpf) hne
 ·rw[hset]at hsf;cases hsf
 ·have hC0:1<=C:=by
   simp only[eK,Bool.and_eq_true,decide_eq_true_eq]at hset;omega
  have zz6:=b6.size;have q6:=(b6.block w2.heap.size (by omega)).trans q5;have B6:=B5.trans (b6.mono B5.size);have Uq:=hl5.later b6;have hdec:=OM hpf t1 t2 t3 t4 (by omega) t5 4194304 (by omega);have hXs:=Bg t3 (by omega);have hbs:=Ic t4 (by omega) t5;have hde:=fun u (hu:Below w6.heap.size w6 u)=>Ol b 4194304 u (by omega) tt fr (Uq.later hu).tab;have NT:Hid (_):=hde;have rY:Hid (_/\_/\_/\_):=⟨Uq,q6,B6,hdec⟩
  refine hK _ _ (fun _=>q6) ?_;clear hK K hen b6 hl5 q5 B5 hset hpf hcap xg hlen t1 t2 t3 t4 t5 Uq q6 B6 hdec hXs hbs hde HH5;have hTr:w6.heap[w2.heap.size]?=some (.cells (aW h (.slice pa aD.length pc) (.slice (some ⟨G,0,none⟩) S.length cap)) 30 (0,0)):=rY.out.2.1;refine ap [6,7,8,9,10] ?_
  iterate 5 (refine ay (v:=?_) (T:=?_) ?ht rfl rfl (by kernel_rfl) (fun _ _ _ h=>h) ?hy hTr ?_;(case hy=>intro w hSw;(try dsimp only at hSw); go_simp;try with_reducible rfl);case ht=>go_simp;try with_reducible rfl)
  refine ai ?_;refine ak (by kernel_rfl) ?_ _;clear hTr;have hde:=NT.out w6 (Below.refl _ _);clear NT;go_wp2_with fail;refine hde.mono ?_;intro e w7 he;cases he with
  | no h1 b7=>rw[rY.out.2.2.2]at h1;cases h1
  | @ok _ R pv sv h1 lp ls _ b7 =>
   have eR:R=⟨h,aD,S⟩:=by rw[rY.out.2.2.2]at h1;injection h1 with h1;exact h1.symm
   subst eR;obtain⟨pa',pc',rfl,p1,p2⟩:=lp.ints;obtain⟨sa',YX,rfl,s1,s2⟩:=ls.ints;obtain⟨Uq,q6,B6,_⟩:=rY.out;have zz7:=b7.size;have q7:=(b7.block w2.heap.size (by omega)).trans q6;have B7:=B6.trans (b7.mono B6.size);have hl7:=Uq.later b7;have ka:=ae w7 (.cells (aW h (.slice pa' aD.length pc') (.slice sa' S.length YX)) 30);have qa:=ah w7 (.cells (aW h (.slice pa' aD.length pc') (.slice sa' S.length YX)) 30);have X8:=hl7.later ka;have q8:=(ka.block w2.heap.size (by omega)).trans q7;have B8:=B7.trans (ka.mono B7.size);have z8:(w7.alloc (.cells (aW h (.slice pa' aD.length pc') (.slice sa' S.length YX)) 30)).heap.size=w7.heap.size+1:=by simp
   have hsa:=XQ h.wd h.ht h.kd h.dp h.ps pa' pa sa' (some ⟨G,0,none⟩) pc' pc YX cap aD S _ (p1.below ka p2) X8.hp (s1.below ka s2) X8.hs (fun a e e2=>by have:=p2 a e e2;omega) X8.hpa (fun a e e2=>by have:=s2 a e e2;omega) X8.hsa (by have:=HH.out.2.2.2.2.2.2;omega) (by have:=HH.out.2.2.2.2.2.2;omega);obtain⟨y0,y1,y2,y3,y4,y5,y6⟩:=aJ q8;obtain⟨x0,x1,x2,x3,x4,x5,x6⟩:=aJ qa;have HF:Hid (_):=B8;clear Uq q6 B6 q7 B7 hl7 ka qa X8 q8 B8 b7 lp ls p1 p2 s1 s2 h1 hde rY;go_wp2_with fail;refine hsa.mono ?_;rintro e w9 ⟨rfl,b9⟩;have HG:Hid (_):=HF.out.trans (b9.mono HF.out.size);clear b9 hsa;go_wp2
   go_ret
   exact⟨rfl,HG.out⟩
end Go.Proofs.YtmfijackgekioaaGreatDoor
