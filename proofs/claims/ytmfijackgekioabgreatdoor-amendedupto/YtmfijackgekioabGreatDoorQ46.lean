import Derived.Test.YtmfijackgekioabGreatDoorQ45
set_option maxHeartbeats 1000000
set_option maxRecDepth 100000
namespace Go.Proofs.YtmfijackgekioabGreatDoor
open Go.RowKit Go.Maps
def kL:List Int:=[0,0,0,0,0,2,2,3,3,3,3,4,4,6,6]
def dL:List Int:=[1,2,4,8,16,8,16,1,2,4,8,8,16,8,16]
def Eh (i:Nat):Int:=kL.getD i 0
def TV (i:Nat):Int:=dL.getD i 0
def acf (k:Int):Int:=if k=0 then 1 else if k=2 then 3 else if k=3 then 1 else if k=4 then 2 else 4
theorem BH:∀i,i<15->Pm.chan (Eh i) (TV i)=acf (Eh i)/\Pm.chan (Eh i) (TV i)≠0/\(Eh i=0\/Eh i=2\/Eh i=3\/Eh i=4\/Eh i=6):=by decide
theorem QE (L:List Int){i:Nat}(h:i<L.length):(vals L).toArray[i]?=some (.int .i64 (L.getD i 0)):=by
 rw[List.getElem?_toArray,abC,aab,aan h];rfl
theorem TW (c:Int)(w:World)(h1:-9223372036854775808<=c)(h2:c<=9223372036854775807): Calls Tryz.prog 16 #[.int .i64 c] w fun e w'=>∃i:Nat,i<15/\cL c 15=(i:Int)/\e=.returned (.tuple #[.int .i64 (Eh i),.int .i64 (TV i)])/\Below w.heap.size w w':=by
 obtain⟨i,hi⟩:∃i:Nat,cL c 15=(i:Int):=⟨(cL c 15).toNat,by have:=bE c (n:=15) (by omega);omega⟩
 have hi2:i<15:=by have:=bE c (n:=15) (by omega);omega
 have hpk:=fun v=>oA c 15 v h1 h2 (by omega) (by omega);rw[hi]at hpk;obtain⟨k0,q0,q1⟩:=bH w (.cells ((vals kL).toArray) 3) (.cells ((vals dL).toArray) 3)
 have a0:((w.alloc (.cells ((vals kL).toArray) 3)).alloc (.cells ((vals dL).toArray) 3)).cell? ⟨w.heap.size,i,none⟩=some (.int .i64 (Eh i)):=by
  exact (aat _ _ _ _ _ _ q0).trans (QE kL hi2)
 have a1:((w.alloc (.cells ((vals kL).toArray) 3)).alloc (.cells ((vals dL).toArray) 3)).cell? ⟨w.heap.size+1,i,none⟩=some (.int .i64 (TV i)):=by
  exact (aat _ _ _ _ _ _ q1).trans (QE dL hi2)
 have hib:(i:Int)<15:=by omega
 have HK:Hid (_/\_/\_):=⟨k0,hi,hi2⟩
 have ek:(vals kL).toArray=#[.int .i64 0,.int .i64 0,.int .i64 0,.int .i64 0,.int .i64 0,.int .i64 2,.int .i64 2,.int .i64 3,.int .i64 3,.int .i64 3,.int .i64 3,.int .i64 4,.int .i64 4,.int .i64 6,.int .i64 6]:=rfl;have ed:(vals dL).toArray=#[.int .i64 1,.int .i64 2,.int .i64 4,.int .i64 8,.int .i64 16,.int .i64 8,.int .i64 16,.int .i64 1,.int .i64 2,.int .i64 4,.int .i64 8,.int .i64 8,.int .i64 16,.int .i64 8,.int .i64 16]:=rfl;rw[ek,ed]at a0 a1 HK;clear k0 q0 q1 hi ek ed h1 h2
 go_enter Tryz.func16,Tryz.ntmps16
 go_wp2_with fail;refine (hpk _).mono ?_;rintro e w' ⟨rfl,rfl⟩;obtain⟨KD,QF⟩:∃KD,Eh i=KD:=⟨_,rfl⟩
 obtain⟨DP,TY⟩:∃DP,TV i=DP:=⟨_,rfl⟩
 have HKD:Hid (_/\_):=⟨QF,TY⟩
 rw[QF]at a0;rw[TY]at a1;clear QF TY;revert HK;revert a1;revert a0;generalize World.alloc _ _=v0;intro a0 a1 HK;go_wp2_with fail;have hS:v0.drew.cell? ⟨w.heap.size,i,none⟩=some (.int .i64 KD)/\v0.drew.cell? ⟨w.heap.size+1,i,none⟩=some (.int .i64 DP):=⟨a0,a1⟩
 refine ax (fun u=>u.cell? ⟨w.heap.size,i,none⟩=some (.int .i64 KD)/\u.cell? ⟨w.heap.size+1,i,none⟩=some (.int .i64 DP)) 99 ?_;refine ap [0,1,2,3,4,5,6,7,8,9] ?_
 iterate 10 refine aT hS ?_
 refine aj ?_;refine am ?_;go_wp2;exact aaF (v:=.tuple #[.int .i64 KD,.int .i64 DP]) (by simp[results,Tryz.results16,go_sem]) rfl ⟨i,HK.out.2.2,HK.out.2.1,by rw[HKD.out.1,HKD.out.2],HK.out.1.drew⟩
theorem IG (i:Nat)(hi:i<15)(w:World):Calls Tryz.prog 15 #[.int .i64 (Eh i)] w fun e w'=>e=.returned (.int .i64 (Pm.chan (Eh i) (TV i)))/\Below w.heap.size w w':=by
 obtain⟨h1,_,h2⟩:=BH i hi;have kb:=ae w (.cells #[.int .i64 1,.int .i64 0,.int .i64 3,.int .i64 1,.int .i64 2,.int .i64 0,.int .i64 4] 3);rw[h1];have HK:Hid (_):=kb;generalize Eh i=KD at *;clear kb h1 hi;rcases h2 with rfl|rfl|rfl|rfl|rfl
 all_goals
  go_enter Tryz.func15,Tryz.ntmps15
  go_wp2
  go_ret
  exact⟨rfl,HK.out⟩
theorem Tryz.infoSetting:(Tryz.prog.info? 29).map (·.size)=some 3:=by kernel_rfl
theorem Yp (a b c:Int)(w:World)(ha:-9223372036854775808<=a/\a<=9223372036854775807)(hb:-9223372036854775808<=b/\b<=9223372036854775807)(hc:-9223372036854775808<=c/\c<=9223372036854775807): Calls Tryz.prog 9 #[.int .i64 a,.int .i64 b,.int .i64 c] w fun e w'=>e=.returned (.agg #[.int .i64 (cL a 3),.int .i64 (cL b 6),.int .i64 (1+cL c 300)])/\dW (cL a 3) (cL b 6) (1+cL c 300)=true/\Below w.heap.size w w':=by
 have h1:=fun v=>oA a 3 v ha.1 ha.2 (by omega) (by omega);have h2:=fun v=>oA b 6 v hb.1 hb.2 (by omega) (by omega);have h3:=fun v=>oA c 300 v hc.1 hc.2 (by omega) (by omega);have r1:=bE a (n:=3) (by omega);have r2:=bE b (n:=6) (by omega);have r3:=bE c (n:=300) (by omega);have HS:Hid (dW (cL a 3) (cL b 6) (1+cL c 300)=true):=by show _=_;simp only[dW,aaS,aaW];omega
 generalize cL a 3=A at *;generalize cL b 6=B at *;generalize cL c 300=C at *;have k0:=ae w (.cells #[.int .i64 A,.int .i64 B,.int .i64 (1+C)] 29);have q0:=ah w (.cells #[.int .i64 A,.int .i64 B,.int .i64 (1+C)] 29);have HK:Hid (_/\_):=⟨k0,q0⟩
 clear k0 q0 ha hb hc
 go_enter Tryz.func9,Tryz.ntmps9
 go_wp2_with fail;refine (h1 _).mono ?_;rintro e w' ⟨rfl,rfl⟩;go_wp2_with fail;refine (h2 _).mono ?_;rintro e w' ⟨rfl,rfl⟩;go_wp2_with fail;refine (h3 _).mono ?_;rintro e w' ⟨rfl,rfl⟩;go_wp2;exact aaF (v:=.agg #[.int .i64 A,.int .i64 B,.int .i64 (1+C)]) (results_cell_row rfl _ _ w.heap.size 29 _ (0,0) _ rfl HK.out.2 Tryz.underlying29 rfl Tryz.infoSetting) rfl ⟨rfl,HS.out,HK.out.1⟩
structure iY (w wr:World) (R0 M:Nat) (h:Hd) (pv sv:Value) (aq S:List Int):Prop where
 m:wr.heap[M]?=some (.cells (bq h pv sv) 24 (0,0))
 r:wr.heap[R0]?=some (.cells bk 24 (0,0))
 p:wr.ownsRow (M+1) 3 1 pv aq.length (vals aq)
 s:wr.ownsRow (M+1) 3 1 sv S.length (vals S)
 ne:∀g,pv.ownBlock=some g->sv.ownBlock≠some g
 k:Below w.heap.size w wr
 lo:w.heap.size<=R0/\R0<M
theorem iY.drew {w wr:World}{R0 M:Nat}{h:Hd}{pv sv:Value}{aq S:List Int}(p:iY w wr R0 M h pv sv aq S):iY w wr.drew R0 M h pv sv aq S:=⟨p.m,p.r,aJ p.p (fun _ _=>rfl),aJ p.s (fun _ _=>rfl),p.ne,p.k.drew,p.lo⟩
theorem iY.below {w wr u:World}{R0 M:Nat}{h:Hd}{pv sv:Value}{aq S:List Int}(p:iY w wr R0 M h pv sv aq S)(k:Below wr.heap.size wr u):iY w u R0 M h pv sv aq S :=
 ⟨(k.block _ (aaa p.m)).trans p.m,(k.block _ (aaa p.r)).trans p.r,aJ p.p (fun g hg=>k.block g (p.p.lt g hg).2),aJ p.s (fun g hg=>k.block g (p.s.lt g hg).2),p.ne,p.k.trans (k.mono p.k.size),p.lo⟩
theorem ij {w:World}{B n:Nat}{v:Value}{xs:List Value}(h:w.ownsRow B 3 1 v n xs):∃ao cp,v=.slice ao n cp:=by
 rcases h.2 with⟨rfl,h0⟩|⟨g,cap,cur,rfl,_⟩
 ·exact⟨none,0,by rw[h0]⟩
 ·exact⟨_,_,rfl⟩
theorem T8 {w:World}{M:Nat}{h:Hd}{pv sv:Value}(q:w.heap[M]?=some (.cells (bq h pv sv) 24 (0,0)))(v:Value):(w.setCell ⟨M,5,none⟩ v).heap[M]?=some (.cells (bq h v sv) 24 (0,0)):=(aau w M 5 _ _ v q).trans rfl
theorem Ua {w:World}{M:Nat}{h:Hd}{pv sv:Value}(q:w.heap[M]?=some (.cells (bq h pv sv) 24 (0,0)))(v:Value):(w.setCell ⟨M,6,none⟩ v).heap[M]?=some (.cells (bq h pv v) 24 (0,0)):=(aau w M 6 _ _ v q).trans rfl
theorem iY.QG {w wr:World}{R0 M:Nat}{h:Hd}{pv sv:Value}{aq S:List Int}(p:iY w wr R0 M h pv sv aq S)(x:Int)(hl:aq.length<=1000000): ∃v' u,(Builtin.append_ #[22,22] 22 #[pv,.slice (some ⟨wr.heap.size,0,none⟩) 1 1]).run Tryz.prog (wr.alloc (.cells #[.int .i64 x] 3))=.ok v' u/\iY w (u.setCell ⟨M,5,none⟩ v') R0 M h v' sv (aq++[x]) S /\ u.cell? ⟨M,5,none⟩=some pv/\u.frozen? ⟨M,5,none⟩=false/\(∃ao cp,v'=.slice ao (aq.length+1) cp)/\u.heap[M]?=some (.cells (bq h pv sv) 24 (0,0)):=by
 obtain⟨i0,hi,hz0,hz1,hz2⟩:=abu Tryz.info3;have ka:=ae wr (.cells #[.int .i64 x] 3);have q:=ah wr (.cells #[.int .i64 x] 3);have p1:=p.below ka;have lM:=aaa p.m;have za:(wr.alloc (.cells #[.int .i64 x] 3)).heap.size=wr.heap.size+1:=by simp
 obtain⟨v',u,hr,ho',hg',_,hor⟩:=run_append_own_at (P:=Tryz.prog) (wr.alloc (.cells #[.int .i64 x] 3)) (M+1) 22 22 3 i0 _ 1 8 Tryz.underlying22 hi hz0 hz1 hz2 rfl (by decide) pv aq.length (vals aq) p1.p ⟨wr.heap.size,0,none⟩ 1 1 [.int .i64 x] rfl (fun j u hj=>by
   rw[eJ,aaO,aR q];simpa using hj) (fun u hu=>by
   simp only[ab9,abw,or_false]at hu
   rw[hu];rfl) (by unfold maxLen;omega) (by omega) (by omega)
 have hMv:v'.ownBlock≠some M:=fun e=>by have:=(ho'.lt M e).1;omega
 have Zk:pv.ownBlock≠some M:=fun e=>by have:=(p.p.lt M e).1;omega
 have hsM:sv.ownBlock≠some M:=fun e=>by have:=(p.s.lt M e).1;omega
 have hpR:pv.ownBlock≠some R0:=fun e=>by have:=(p.p.lt R0 e).1;have:=p.lo;omega
 have um:u.heap[M]?=some (.cells (bq h pv sv) 24 (0,0)):=(hg'.block M (by omega) (fun e=>Zk e.symm)).trans p1.m;have hlo:=p.lo;have hps:u.ownsRow (M+1) 3 1 sv S.length (vals S):=aJ p1.s (fun g hg=>hg'.block g (p1.s.lt g hg).2 (fun e=>p.ne g e.symm hg))
 have hbel:Below w.heap.size w u:=by
  have kk:Kp (fun k=>pv.ownBlock=some k) (wr.alloc (.cells #[.int .i64 x] 3)) u:=Kp.grown (Kp.refl _ _) hg' (fun k hk=>.inl hk);exact p1.k.trans (kk.below (by have:=p1.k.size;omega) (fun k _ e=>by have:=(p1.p.lt k e).1;omega))
 refine⟨v',u,hr,⟨T8 um v',?_,aJ ?_ (fun g hg=>aak _ ⟨M,5,none⟩ _ g (fun e=>hMv (by rw[hg];exact abV some e))),aJ hps (fun g hg=>aak _ ⟨M,5,none⟩ _ g (fun e=>hsM (by rw[hg];exact abV some e))),fun g hg hs=>?_,hbel.setCell (p:=⟨M,5,none⟩) (by show w.heap.size<=M;omega) _,hlo⟩,aat _ _ _ _ _ _ um,aaI u M 5 _ _ um,ij ho',um⟩
 ·exact (aak _ ⟨M,5,none⟩ _ R0 (by show R0≠M;omega)).trans ((hg'.block R0 (by omega) (fun e=>hpR e.symm)).trans p1.r)
 ·rw[aac];have e:vals (aq++[x])=vals aq++[.int .i64 x]:=by simp[vals]
  rw[e];exact ho'
 ·rcases hor with e|e
  ·rw[e]at hg;exact p.ne g hg hs
  ·rw[e]at hg;have h1:=aaH hg;have h2:=(p1.s.lt g hs).2;omega
theorem iY.FG {w wr:World}{R0 M:Nat}{h:Hd}{pv sv:Value}{aq S:List Int}(p:iY w wr R0 M h pv sv aq S)(x:Int)(hl:S.length<=1000000): ∃v' u,(Builtin.append_ #[22,22] 22 #[sv,.slice (some ⟨wr.heap.size,0,none⟩) 1 1]).run Tryz.prog (wr.alloc (.cells #[.int .i64 x] 3))=.ok v' u/\iY w (u.setCell ⟨M,6,none⟩ v') R0 M h pv v' aq (S++[x]) /\ u.cell? ⟨M,6,none⟩=some sv/\u.frozen? ⟨M,6,none⟩=false/\(∃ao cp,v'=.slice ao (S.length+1) cp)/\u.heap[M]?=some (.cells (bq h pv sv) 24 (0,0)):=by
 obtain⟨i0,hi,hz0,hz1,hz2⟩:=abu Tryz.info3;have ka:=ae wr (.cells #[.int .i64 x] 3);have q:=ah wr (.cells #[.int .i64 x] 3);have p1:=p.below ka;have lM:=aaa p.m;have za:(wr.alloc (.cells #[.int .i64 x] 3)).heap.size=wr.heap.size+1:=by simp
 obtain⟨v',u,hr,ho',hg',_,hor⟩:=run_append_own_at (P:=Tryz.prog) (wr.alloc (.cells #[.int .i64 x] 3)) (M+1) 22 22 3 i0 _ 1 8 Tryz.underlying22 hi hz0 hz1 hz2 rfl (by decide) sv S.length (vals S) p1.s ⟨wr.heap.size,0,none⟩ 1 1 [.int .i64 x] rfl (fun j u hj=>by
   rw[eJ,aaO,aR q];simpa using hj) (fun u hu=>by
   simp only[ab9,abw,or_false]at hu
   rw[hu];rfl) (by unfold maxLen;omega) (by omega) (by omega)
 have hMv:v'.ownBlock≠some M:=fun e=>by have:=(ho'.lt M e).1;omega
 have Zk:pv.ownBlock≠some M:=fun e=>by have:=(p.p.lt M e).1;omega
 have hsM:sv.ownBlock≠some M:=fun e=>by have:=(p.s.lt M e).1;omega
 have hsR:sv.ownBlock≠some R0:=fun e=>by have:=(p.s.lt R0 e).1;have:=p.lo;omega
 have um:u.heap[M]?=some (.cells (bq h pv sv) 24 (0,0)):=(hg'.block M (by omega) (fun e=>hsM e.symm)).trans p1.m;have hlo:=p.lo;have hpp:u.ownsRow (M+1) 3 1 pv aq.length (vals aq):=aJ p1.p (fun g hg=>hg'.block g (p1.p.lt g hg).2 (fun e=>p.ne g hg e.symm))
 have hbel:Below w.heap.size w u:=by
  have kk:Kp (fun k=>sv.ownBlock=some k) (wr.alloc (.cells #[.int .i64 x] 3)) u:=Kp.grown (Kp.refl _ _) hg' (fun k hk=>.inl hk);exact p1.k.trans (kk.below (by have:=p1.k.size;omega) (fun k _ e=>by have:=(p1.s.lt k e).1;omega))
 refine⟨v',u,hr,⟨Ua um v',?_,aJ hpp (fun g hg=>aak _ ⟨M,6,none⟩ _ g (fun e=>Zk (by rw[hg];exact abV some e))),aJ ?_ (fun g hg=>aak _ ⟨M,6,none⟩ _ g (fun e=>hMv (by rw[hg];exact abV some e))),fun g hg hs=>?_,hbel.setCell (p:=⟨M,6,none⟩) (by show w.heap.size<=M;omega) _,hlo⟩,aat _ _ _ _ _ _ um,aaI u M 6 _ _ um,ij ho',um⟩
 ·exact (aak _ ⟨M,6,none⟩ _ R0 (by show R0≠M;omega)).trans ((hg'.block R0 (by omega) (fun e=>hsR e.symm)).trans p1.r)
 ·rw[aac];have e:vals (S++[x])=vals S++[.int .i64 x]:=by simp[vals]
  rw[e];exact ho'
 ·rcases hor with e|e
  ·rw[e]at hs;exact p.ne g hg hs
  ·rw[e]at hs;have h1:=aaH hs;have h2:=(p1.p.lt g hg).2;omega
theorem Ei {w:World}{ra:Option Addr}{raw:List Int}(h:Ints w ra raw)(hr:∀y∈raw,-9223372036854775808<=y/\y<=9223372036854775807)(i:Nat)(h0:0<raw.length):∃b off x,ra=some ⟨b,off,none⟩/\w.cell? ⟨b,off+i%raw.length,none⟩=some (.int .i64 x)/\(-9223372036854775808<=x/\x<=9223372036854775807):=by
 obtain⟨b,off,e1,e2⟩:=h (i%raw.length) (acL _ h0);exact⟨b,off,_,e1,e2,hr _ (abo _)⟩
theorem Ej (h:Hd)(hf:ma h)(hw:h.wd<=20)(hh:h.ht<=20):bY h<=22540:=by
 obtain⟨wd,ht,kd,dp,ps⟩:=h;have w1:=hf.wd.1;have t1:=hf.ht.1;have hb:=Pm.jo kd dp hf.ch;dsimp only at *;obtain⟨W,rfl⟩:=abz (a:=wd) (by omega);obtain⟨H,rfl⟩:=abz (a:=ht) (by omega);have hd:1<=dp/\dp<=16:=Pm.cF _ _ hf.ch;have hc:=Pm.cS kd dp;obtain⟨D,rfl⟩:=abz (a:=dp) (by omega);obtain⟨n,hn⟩:=abz (a:=Pm.chan kd (D:Int)) (by omega);have e:Pm.chan kd (D:Int)*(D:Int)=((n*D:Nat):Int):=by rw[hn];push_cast;rfl
 unfold bY;dsimp only;rw[e]at hb ⊢;have hb':n*D<=64:=by omega
 have key:∀p:Pm.Ps,p.C<=20->p.R<=20->Pm.c8 ⟨W,H,n,D⟩ p<=20*161:=fun p h1 h2=>by
  unfold Pm.c8 Pm.rowLen;have:p.C*(n*D)<=20*64:=abh h1 hb';refine abh h2 ?_;show 1+(p.C*(n*D)+7)/8<=161;omega
 have hr:=Pm.nU ⟨W,H,n,D⟩ ps;have hr':Pm.raw (W:Int) (H:Int) ((n*D:Nat):Int) ps=_:=hr;rw[hr'];cases ps with
 | false =>
  rw[aai (by decide)];have:=key (Pm.kj ⟨W,H,n,D⟩) (by show W<=20;omega) (by show H<=20;omega);omega
 | true =>
  rw[aaj rfl]
  have hk:∀k,k<=7->Pm.cC ⟨W,H,n,D⟩ k<=k*3220:=by
   intro k
   induction k with
   | zero=>intro _;exact aaq _
   | succ k ih =>
    intro hk;have h1:=ih (by omega);have h2:=Pm.ko ⟨W,H,n,D⟩ k (by omega);have h3:=key (Pm.cx ⟨W,H,n,D⟩ k) (by have:=kF (Pm.ox k) (Pm.j5 k) W (Pm.wX k);show (W+_)/_<=20;omega) (by have:=kF (Pm.oY k) (Pm.mC k) H (Pm.wY k);show (H+_)/_<=20;omega);rw[h2]
    have h4:(if 0<(Pm.cx ⟨W,H,n,D⟩ k).C/\0<(Pm.cx ⟨W,H,n,D⟩ k).R then Pm.c8 ⟨W,H,n,D⟩ (Pm.cx ⟨W,H,n,D⟩ k) else 0)<=3220:=by
     split
     ·exact h3
     ·exact aaq _
    rw[acr];exact Nat.add_le_add h1 h4
  have h7:=hk 7 (by omega);generalize Pm.cC ⟨W,H,n,D⟩ 7=x at *;omega
theorem xH (h:Hd)(hf:ma h)(hw:h.wd<=20)(hh:h.ht<=20):bY h<=4194304:=by
 have:=Ej h hf hw hh;omega
theorem FH (y:Int):-9223372036854775808<=IntKind.i64.wrap y/\IntKind.i64.wrap y<=9223372036854775807:=by rw[acX];omega
theorem kO (l:List Int)(x e:Int)(h:Pm.eu l e=true)(hx:0<=x/\x<e):Pm.eu (l++[x]) e=true:=by
 unfold Pm.eu at *;rw[List.all_append,h];simp[hx.1,hx.2]
theorem ob {w:World}{B n cap:Nat}{oa:Option Addr}{zs:List Int}(h:w.ownsRow B 3 1 (.slice oa n cap) n (vals zs)):Ints w oa zs/\(∀a,oa=some a->zs≠[]->a.block<w.heap.size)/\(zs≠[]->∃g,oa=some ⟨g,0,none⟩/\B<=g/\g<w.heap.size/\n<=cap):=by
 rcases h.2 with⟨e,h0⟩|⟨g,c,cur,e,hb,hg,h1,h2,h3,ht⟩
 ·injection e with e1 e2 e3;subst e1
  have hz:zs=[]:=by
   have:=h.1;rw[abO,Nat.mul_one]at this;exact aaG (by omega)
  subst hz;exact⟨fun j hj=>absurd hj (Nat.not_lt_zero _),fun a ha=>(by cases ha),fun hn=>absurd rfl hn⟩
 ·injection e with e1 e2 e3;subst e1 e3;refine⟨fun j hj=>⟨g,0,rfl,?_⟩,fun a ha _=>?_,fun _=>⟨g,rfl,hb,aaa hg,h1⟩⟩
  ·rw[aaO];refine (aat _ _ _ _ _ _ hg).trans ?_;have hl:=h.1;rw[abO,Nat.mul_one]at hl;have e4:cur[j]?=(cur.toList.take (n*1))[j]?:=by rw[List.getElem?_take_of_lt (by omega),acS]
   rw[e4,ht,abC,aan hj];rfl
  ·have:a=⟨g,0,none⟩:=(aaH ha).symm;rw[this];exact aaa hg
def My (w:World)(ps:Bool)(e:Ending)(w':World):Prop:=∃(h:Hd) (aq S:List Int) (pa:Option Addr) (pc G cap:Nat),e=.returned (.agg (bq h (.slice pa aq.length pc) (.slice (some ⟨G,0,none⟩) S.length cap)))/\du h aq S/\h.ps=ps/\(h.wd<=20/\h.ht<=20) /\
 Ints w' pa aq/\(∀a,pa=some a->aq≠[]->a.block<w'.heap.size)/\Ints w' (some ⟨G,0,none⟩) S/\G<w'.heap.size/\S.length<=cap/\(aq.length<=1000/\S.length<=2000)/\Below w.heap.size w w'
theorem FI {w wr:World}{R0 M:Nat}{h:Hd}{pv sv:Value}{aq S:List Int}(p:iY w wr R0 M h pv sv aq S)(hf:du h aq S)(hw:h.wd<=20)(hh:h.ht<=20)(hlen:aq.length<=1000/\S.length<=2000): My w h.ps (.returned (.agg (bq h pv sv))) (l6 wr R0 (.int .i64 h.wd) (.int .i64 h.ht) (.int .i64 h.kd) (.int .i64 h.dp) (.bool h.ps) pv sv)/\(l6 wr R0 (.int .i64 h.wd) (.int .i64 h.ht) (.int .i64 h.kd) (.int .i64 h.dp) (.bool h.ps) pv sv).heap[R0]?=some (.cells (bq h pv sv) 24 (0,0)):=by
 obtain⟨pa,pc,rfl⟩:=ij p.p;obtain⟨sa,sc,rfl⟩:=ij p.s;have hlo:=p.lo;have lR:=aaa p.r
 have aci:S≠[]:=fun e=>by
  have h1:=hf.fits.len;rw[e]at h1
  have h2:0<(gK h).W*(gK h).H*(gK h).n:=by
   have a1:=hf.hd.wd;have a2:=hf.hd.ht;have a3:=hf.hd.ch;have a4:=Pm.cS h.kd h.dp;refine Nat.mul_pos (Nat.mul_pos ?_ ?_) ?_
   ·show 0<h.wd.toNat;omega
   ·show 0<h.ht.toNat;omega
   ·show 0<(Pm.chan h.kd h.dp).toNat;omega
  rw[<-h1]at h2;exact absurd h2 (Nat.lt_irrefl _)
 have rL:=aJ (w':=l6 wr R0 (.int .i64 h.wd) (.int .i64 h.ht) (.int .i64 h.kd) (.int .i64 h.dp) (.bool h.ps) (.slice pa aq.length pc) (.slice sa S.length sc)) p.p (fun g hg=>jt _ _ _ _ _ _ _ _ _ _ (by have:=(p.p.lt g hg).1;omega));have hsu:=aJ (w':=l6 wr R0 (.int .i64 h.wd) (.int .i64 h.ht) (.int .i64 h.kd) (.int .i64 h.dp) (.bool h.ps) (.slice pa aq.length pc) (.slice sa S.length sc)) p.s (fun g hg=>jt _ _ _ _ _ _ _ _ _ _ (by have:=(p.s.lt g hg).1;omega));obtain⟨i1,i2,_⟩:=ob rL;obtain⟨j1,j2,j3⟩:=ob hsu;obtain⟨G,rfl,g2,g3,g4⟩:=j3 aci;exact⟨⟨h,aq,S,pa,pc,G,sc,rfl,hf,rfl,⟨hw,hh⟩,i1,i2,j1,g3,g4,hlen,fV p.k _ (by omega) ..⟩,js p.r ..⟩
abbrev fE (M:Nat)(h:Hd)(pv sv:Value)(u:World):Prop:=u.heap[M]?=some (.cells (bq h pv sv) 24 (0,0))
theorem QH (d:Int)(h:1<=d/\d<=16):IntKind.i64.wrap (2^d.toNat)=Pm.two d:=by
 have hr:=Pm.gU d h;exact aao (Pm.two d) (by omega)
theorem Yq (kind width rg:Int)(ps:Bool)(ra:Option Addr)(rc:Nat)(raw:List Int)(w:World)(hk:-9223372036854775808<=kind/\kind<=9223372036854775807)(hw:-9223372036854775808<=width/\width<=9223372036854775807)(hh:-9223372036854775808<=rg/\rg<=9223372036854775807)(hraw:Ints w ra raw)(hra:∀a,ra=some a->raw≠[]->a.block<w.heap.size)(UN:∀y∈raw,-9223372036854775808<=y/\y<=9223372036854775807)(hrl:raw.length<=9223372036854775807): Calls Tryz.prog 7 #[.int .i64 kind,.int .i64 width,.int .i64 rg,.bool ps,.slice ra raw.length rc] w fun e w'=>My w ps e w':=by
 have hkd:=TW kind (w.alloc (.cells bk 24)) hk.1 hk.2;have hpw:=fun v=>oA width 20 v hw.1 hw.2 (by omega) (by omega);have hph:=fun v=>oA rg 20 v hh.1 hh.2 (by omega) (by omega);have rw1:=bE width (n:=20) (by omega);have rh1:=bE rg (n:=20) (by omega);have hpn:=fun (m:Int) (v:World) (h1:0<m) (h2:m<=1000000)=>oA width m v hw.1 hw.2 h1 (by omega);have HPN:Hid (_):=hpn;have rn1:=fun (m:Int) (h1:0<m)=>bE width (n:=m) h1;have HRN:Hid (_):=rn1;have k0:=ae w (.cells bk 24);have q0:=ah w (.cells bk 24);have z0:(w.alloc (.cells bk 24)).heap.size=w.heap.size+1:=by simp
 have HR:Hid (_/\_/\_):=⟨hraw,hra,UN⟩
 have H0:Hid (_/\_):=⟨k0,q0⟩
 obtain⟨L,hL⟩:∃L,L=raw.length:=⟨_,rfl⟩
 have HL:Hid (L=raw.length):=hL;rw[<-hL]at hrl ⊢;obtain⟨PW,hPW⟩:∃PW,PW=cL width 20:=⟨_,rfl⟩
 obtain⟨PH,hPH⟩:∃PH,PH=cL rg 20:=⟨_,rfl⟩
 rw[<-hPW]at hpw rw1;rw[<-hPH]at hph rh1;clear k0 q0 hraw hra UN hpn rn1 hL hPW hPH hk hw hh
 go_enter Tryz.func7,Tryz.ntmps7
 go_wp2_with fail;refine hkd.mono ?_;rintro e w1 ⟨i,hi,-,rfl,b1⟩;obtain⟨c1,c2,c3⟩:=BH i hi;obtain⟨KD,QF⟩:∃KD,Eh i=KD:=⟨_,rfl⟩
 obtain⟨DP,TY⟩:∃DP,TV i=DP:=⟨_,rfl⟩
 have hcn:=fun v=>IG i hi v;rw[QF,TY]at hcn c1 c2;rw[QF]at c3;rw[QF,TY];clear QF TY;have hdp:1<=DP/\DP<=16:=Pm.cF _ _ c2;have hr2:=Pm.gU DP hdp;have acj:=Pm.cS KD DP;have HH:Hid (ma ⟨1+PW,1+PH,KD,DP,ps⟩):=⟨by show 1<=1+PW/\1+PW<=5000;omega,by show 1<=1+PH/\1+PH<=5000;omega,c2⟩
 have zb:=b1.size;rw[z0]at zb;obtain⟨ch,hch⟩:∃ch:Nat,Pm.chan KD DP=(ch:Int):=⟨(Pm.chan KD DP).toNat,by omega⟩
 have Y2:Hid (Pm.chan KD DP=(ch:Int)):=hch;rw[hch]at hcn acj;have ahM:1<=ch:=by rw[hch]at c2;omega
 obtain⟨top,htop⟩:∃top,Pm.two DP=top:=⟨_,rfl⟩
 have Mz:Hid (Pm.two DP=top):=htop;rw[htop]at hr2
 have W1:Hid (iY w (w1.alloc (.cells (bq ⟨1+PW,1+PH,KD,DP,ps⟩ (.slice none 0 0) (.slice none 0 0)) 24)) w.heap.size w1.heap.size ⟨1+PW,1+PH,KD,DP,ps⟩ (.slice none 0 0) (.slice none 0 0) [] []):=by
  have ka:=ae w1 (.cells (bq ⟨1+PW,1+PH,KD,DP,ps⟩ (.slice none 0 0) (.slice none 0 0)) 24);refine⟨ah w1 _,(ka.block _ (by omega)).trans ((b1.block _ (by omega)).trans H0.out.2),⟨rfl,.inl ⟨rfl,rfl⟩⟩,⟨rfl,.inl ⟨rfl,rfl⟩⟩,fun g hg=>(by cases hg),(H0.out.1.trans (b1.mono (by omega))).trans (ka.mono (by omega)),⟨aah _,by omega⟩⟩
 clear htop hch c1 c2 c3 b1 hkd H0;go_wp2_with fail;refine (hpw _).mono ?_;rintro e w1a ⟨rfl,Yr⟩;rw[Yr];clear Yr;go_wp2_with fail;refine (hph _).mono ?_;rintro e w1b ⟨rfl,Ys⟩;rw[Ys];clear Ys;by_cases h3:KD=3
 ·subst h3
  have hb1:(1+PW)*(1+PH)*(ch:Int)<=1600/\0<=(1+PW)*(1+PH)*(ch:Int):=by
   have a1:(1+PW)*(1+PH)<=20*20:=acC (by omega) (by omega) (by omega) (by omega);have a0:0<=(1+PW)*(1+PH):=acv (by omega) (by omega);exact⟨by have:(1+PW)*(1+PH)*(ch:Int)<=400*4:=acC (by omega) (by omega) (by omega) (by omega);omega,acv a0 (by omega)⟩
  have hb2:(1+PW)*(1+PH)<=400/\0<=(1+PW)*(1+PH):=by
   have a1:(1+PW)*(1+PH)<=20*20:=acC (by omega) (by omega) (by omega) (by omega);exact⟨by omega,acv (by omega) (by omega)⟩
  have wm1:IntKind.i64.wrap ((1+PW)*(1+PH))=(1+PW)*(1+PH):=aao _ (by omega);have wm2:IntKind.i64.wrap ((1+PW)*(1+PH)*(ch:Int))=(1+PW)*(1+PH)*(ch:Int):=aao _ (by omega)
  have ae3:top<=256:=by
   have h8:DP=1\/DP=2\/DP=4\/DP=8:=by
    have:=HH.out.ch;unfold Pm.chan at this;dsimp only at this
    repeat' split at this
    all_goals omega
   rw[<-Mz.out];rcases h8 with rfl|rfl|rfl|rfl<;>decide
  have hpn:=fun v=>HPN.out top v (by omega) (by omega);have hnr:=HRN.out top (by omega);obtain⟨N,hN⟩:∃N:Nat,1+cL width top=(N:Int):=⟨(1+cL width top).toNat,by omega⟩
  have hNb:1<=N/\(N:Int)<=top:=by omega
  obtain⟨PN,hPN⟩:∃PN,PN=cL width top:=⟨_,rfl⟩
  rw[<-hPN]at hpn hN;clear hnr hPN;have HP:Hid (_):=W1.out;clear W1;have hw2:=nE DP hdp;have hw3:=QH DP hdp;rw[Mz.out]at hw2 hw3;go_wp2_with fail;clear hw2 hw3;refine (hpn _).mono ?_;rintro e w1c ⟨rfl,Yt⟩;rw[Yt];clear Yt hpn;go_wp2
  go_loopw [16] (fun ix wr=>∃(j:Nat) (aq:List Int) (pv:Value),ix=.int .i64 j/\j<=3*N/\Hid (iY w wr w.heap.size w1.heap.size ⟨1+PW,1+PH,3,DP,ps⟩ pv (.slice none 0 0) aq []/\aq.length=j/\Pm.eu aq 256=true)) (fun ix _=>3*N-(intOf ix).toNat)
  case atStart=>exact⟨0,[],.slice none 0 0,rfl,aaq _,HP.out,rfl,rfl⟩
  case round =>
   obtain⟨j,aq,pv,rfl,hj,HS⟩:=hrel;by_cases hlt:j<3*N
   ·have G9:(j:Int)<3*(1+PN):=by omega
    have hval:∀V:Int,(-9223372036854775808<=V/\V<=9223372036854775807)->∀v:World,Calls Tryz.prog 11 #[.int .i64 V,.int .i64 256] v fun e w'=>e=.returned (.int .i64 (cL V 256))/\w'=v:=fun V hV v=>oA V 256 v hV.1 hV.2 (by omega) (by omega);have QI:Hid (_):=hval;have P1:Hid (iY w wr w.heap.size w1.heap.size ⟨1+PW,1+PH,3,DP,ps⟩ pv (.slice none 0 0) aq []):=HS.out.1;have p7:Hid (Pm.eu aq 256=true/\aq.length=j):=⟨HS.out.2.2,HS.out.2.1⟩
    have hjb:j<=800:=by omega
    obtain⟨pa,pc,hpv⟩:=ij P1.out.p;rw[p7.out.2]at hpv;clear hval HS;subst hpv;by_cases hL0:0<L
    ·have MA:(L:Int)>0:=by omega
     obtain⟨bb,off,x,rfl,hc,hx⟩:=Ei (HR.out.1.below P1.out.k HR.out.2.1) HR.out.2.2 j (by rw[<-HL.out];exact hL0);rw[<-HL.out]at hc;obtain⟨q,hq⟩:∃q,q=j%L:=⟨_,rfl⟩
     have hqt:(j:Int).tmod (L:Int)=(q:Int):=by rw[hq,acD (by omega)];push_cast;rfl
     have hqL:q<L:=by rw[hq];exact acL _ hL0
     have Yu:(q:Int)<(L:Int):=by omega
     have hLn:L≠0:=by omega
     have hL1:(L:Int)≠0:=by omega
     have hL2:(L:Int)≠-1:=by omega
     rw[<-hq]at hc;clear hq;have nJ:=QI.out x hx;obtain⟨X,hX⟩:∃X,X=cL x 256:=⟨_,rfl⟩
     have BI:=bE x (n:=256) (by omega);rw[<-hX]at nJ BI;clear hX;go_wp2_with fail;obtain⟨v',u,hr,P4,d5,f5,⟨UM,cp',hv'⟩,um⟩:=P1.out.drew.QG X (by rw[p7.out.2];omega);rw[p7.out.2]at hv';obtain⟨j1,hj1⟩:∃j1,j1=j+1:=⟨_,rfl⟩
     rw[<-hj1]at hv';have iG:fE w1.heap.size ⟨1+PW,1+PH,3,DP,ps⟩ (.slice pa j pc) (.slice none 0 0) wr.drew:=P1.out.m;have ka:=ae wr.drew (.cells #[.int .i64 X] 3);have yy:fE w1.heap.size ⟨1+PW,1+PH,3,DP,ps⟩ (.slice pa j pc) (.slice none 0 0) (wr.drew.alloc (.cells #[.int .i64 X] 3)):=(ka.block _ (aaa iG)).trans iG;have Ey:Hid (_/\_):=⟨P4,hj1⟩
     have lM:=aaa um;have vj:fE w1.heap.size ⟨1+PW,1+PH,3,DP,ps⟩ (.slice pa j pc) (.slice none 0 0) u:=um;clear P4 um ka hj1;refine ax (fE w1.heap.size ⟨1+PW,1+PH,3,DP,ps⟩ (.slice pa j pc) (.slice none 0 0)) 7 ?_;refine ap [0,1,2] ?_
     iterate 3 (refine bU (v:=?_) (T:=?_) ?ht ?hy iG ?_;(case hy=>intro w hSw;have xr := aP hSw; go_simp;try with_reducible rfl);case ht=>go_simp;try with_reducible rfl)
     refine aj ?_;refine ag 3 fun K hK=>?_;go_simp;refine (nJ _).mono ?_;rintro e v3 ⟨rfl,hv3⟩;rw[hv3];clear hv3 v3;refine hK _ _ (fun _=>iG) ?_;clear hK K;refine ag 4 fun K hK=>?_;go_simp;refine hK _ _ (fun _=>yy) ?_;clear hK K;refine ag 5 fun K hK=>?_;rw[aaj (by kernel_rfl)];subst hv';refine acR _ _ _ _ _ rfl _ _ rfl rfl _ _ hr ?_;go_simp;refine hK _ _ (fun _=>vj) ?_;clear hK K;refine ap [6] ?_
     iterate 1 refine aT vj ?_
     refine aj ?_;refine ag 7 fun K hK=>?_;go_simp;refine hK _ _ (fun h=>absurd rfl h) ?_;clear hK K;refine am ?_;clear vj;go_wp2
     go_roundw
     case rel=>exact⟨j+1,aq++[X],_,by go_num,by omega,Ey.out.1,by rw[aac,p7.out.2];rfl,kO aq X 256 p7.out.1 BI⟩
     case measure=>simp only[intOf];omega
    ·have MA:¬(L:Int)>0:=by omega
     have nJ:=QI.out (7*(j:Int)) (by omega);obtain⟨X,hX⟩:∃X,X=cL (7*(j:Int)) 256:=⟨_,rfl⟩
     have BI:=bE (7*(j:Int)) (n:=256) (by omega);rw[<-hX]at nJ BI;clear hX;go_wp2_with fail;obtain⟨v',u,hr,P4,d5,f5,⟨UM,cp',hv'⟩,um⟩:=P1.out.drew.QG X (by rw[p7.out.2];omega);rw[p7.out.2]at hv';obtain⟨j1,hj1⟩:∃j1,j1=j+1:=⟨_,rfl⟩
     rw[<-hj1]at hv';have iG:fE w1.heap.size ⟨1+PW,1+PH,3,DP,ps⟩ (.slice pa j pc) (.slice none 0 0) wr.drew:=P1.out.m;have ka:=ae wr.drew (.cells #[.int .i64 X] 3);have yy:fE w1.heap.size ⟨1+PW,1+PH,3,DP,ps⟩ (.slice pa j pc) (.slice none 0 0) (wr.drew.alloc (.cells #[.int .i64 X] 3)):=(ka.block _ (aaa iG)).trans iG;have Ey:Hid (_/\_):=⟨P4,hj1⟩
     have lM:=aaa um;have vj:fE w1.heap.size ⟨1+PW,1+PH,3,DP,ps⟩ (.slice pa j pc) (.slice none 0 0) u:=um;clear P4 um ka hj1;refine ax (fE w1.heap.size ⟨1+PW,1+PH,3,DP,ps⟩ (.slice pa j pc) (.slice none 0 0)) 7 ?_;refine ap [0,1,2] ?_
     iterate 3 (refine bU (v:=?_) (T:=?_) ?ht ?hy iG ?_;(case hy=>intro w hSw;have xr := aP hSw; go_simp;try with_reducible rfl);case ht=>go_simp;try with_reducible rfl)
     refine aj ?_;refine ag 3 fun K hK=>?_;go_simp;refine (nJ _).mono ?_;rintro e v3 ⟨rfl,hv3⟩;rw[hv3];clear hv3 v3;refine hK _ _ (fun _=>iG) ?_;clear hK K;refine ag 4 fun K hK=>?_;go_simp;refine hK _ _ (fun _=>yy) ?_;clear hK K;refine ag 5 fun K hK=>?_;rw[aaj (by kernel_rfl)];subst hv';refine acR _ _ _ _ _ rfl _ _ rfl rfl _ _ hr ?_;go_simp;refine hK _ _ (fun _=>vj) ?_;clear hK K;refine ap [6] ?_
     iterate 1 refine aT vj ?_
     refine aj ?_;refine ag 7 fun K hK=>?_;go_simp;refine hK _ _ (fun h=>absurd rfl h) ?_;clear hK K;refine am ?_;clear vj;go_wp2
     go_roundw
     case rel=>exact⟨j+1,aq++[X],_,by go_num,by omega,Ey.out.1,by rw[aac,p7.out.2];rfl,kO aq X 256 p7.out.1 BI⟩
     case measure=>simp only[intOf];omega
   ·have G9:¬(j:Int)<3*(1+PN):=by omega
    have JH:j=3*N:=by omega
    have PE:Hid (_):=HS.out.1;have BQ:Hid (aq.length=3*N/\Pm.eu aq 256=true):=⟨by rw[HS.out.2.1,JH],HS.out.2.2⟩
    have ae7:(1+PN)=(N:Int):=hN;clear HS HP;have HP:Hid (_):=PE.out;clear PE;go_wp2
    go_loopw [18] (fun ix wr=>∃(j:Nat) (S:List Int) (sv:Value),ix=.int .i64 j/\(j:Int)<=(1+PW)*(1+PH)*(ch:Int)/\Hid (iY w wr w.heap.size w1.heap.size ⟨1+PW,1+PH,3,DP,ps⟩ pv sv aq S/\S.length=j/\Pm.eu S (N:Int)=true)) (fun ix _=>((1+PW)*(1+PH)*(ch:Int)).toNat-(intOf ix).toNat)
    case atStart=>exact⟨0,[],.slice none 0 0,rfl,by show (0:Int)<=_;omega,HP,rfl,rfl⟩
    case round =>
     obtain⟨j,S,sv,rfl,hj,HS⟩:=hrel;have HM:fE w1.heap.size ⟨1+PW,1+PH,3,DP,ps⟩ pv sv wr:=HS.out.1.m;go_wp2_with fail;have hS0:fE w1.heap.size ⟨1+PW,1+PH,3,DP,ps⟩ pv sv wr.drew:=HM;refine ax (fE w1.heap.size ⟨1+PW,1+PH,3,DP,ps⟩ pv sv) 99 ?_;refine ap [0,1,2,3,4,5,6] ?_
     iterate 7 (refine bU (v:=?_) (T:=?_) ?ht ?hy hS0 ?_;(case hy=>intro w hSw;have xr := aP hSw; go_simp;try with_reducible rfl);case ht=>go_simp;try with_reducible rfl)
     refine aj ?_;refine ag 7 fun K hK=>?_;go_simp;refine (hcn _).mono ?_;rintro e v1 ⟨rfl,b1⟩;have P1:Hid (iY w v1 w.heap.size w1.heap.size ⟨1+PW,1+PH,3,DP,ps⟩ pv sv aq S):=HS.out.1.drew.below b1;have hS1:fE w1.heap.size ⟨1+PW,1+PH,3,DP,ps⟩ pv sv v1:=P1.out.m;refine hK _ _ (fun _=>hS1) ?_;clear hK K b1 hS0 HM;refine ap [8,9] ?_
     iterate 2 refine aT hS1 ?_
     refine aj ?_;refine am ?_;by_cases hlt:(j:Int)<(1+PW)*(1+PH)*(ch:Int)
     ·have hval:∀V:Int,(-9223372036854775808<=V/\V<=9223372036854775807)->∀v:World,Calls Tryz.prog 11 #[.int .i64 V,.int .i64 (N:Int)] v fun e w'=>e=.returned (.int .i64 (cL V (N:Int)))/\w'=v:=fun V hV v=>oA V (N:Int) v hV.1 hV.2 (by omega) (by omega);have QI:Hid (_):=hval;have Ub:=HS.out.2.1;have hal:=HS.out.2.2;have p7:Hid (Pm.eu S (N:Int)=true/\S.length=j):=⟨hal,Ub⟩
      have hjb:j<=2000:=by omega
      obtain⟨sa,sc,hsv⟩:=ij P1.out.s;rw[Ub]at hsv;clear hval Ub hal HS;by_cases hL0:0<L
      ·have MA:(L:Int)>0:=by omega
       obtain⟨bb,off,x,rfl,hc,hx⟩:=Ei (HR.out.1.below P1.out.k HR.out.2.1) HR.out.2.2 j (by rw[<-HL.out];exact hL0);rw[<-HL.out]at hc;obtain⟨q,hq⟩:∃q,q=j%L:=⟨_,rfl⟩
       have hqt:(j:Int).tmod (L:Int)=(q:Int):=by rw[hq,acD (by omega)];push_cast;rfl
       obtain⟨q2,hq2⟩:∃q2,q2=j/L:=⟨_,rfl⟩
       have ack:(j:Int).tdiv (L:Int)=(q2:Int):=by rw[hq2,Int.tdiv_eq_ediv_of_nonneg (by omega)];push_cast;rfl
       have hLn:L≠0:=by omega
       have hqL:q<L:=by rw[hq];exact acL _ hL0
       have Yu:(q:Int)<(L:Int):=by omega
       have hL1:(L:Int)≠0:=by omega
       have hL2:(L:Int)≠-1:=by omega
       have acl:q2<=2000:=by rw[hq2];exact abe (Nat.div_le_self _ _) hjb
       have wq2:IntKind.i64.wrap (q2:Int)=(q2:Int):=aao _ (by omega);rw[<-hq]at hc;clear hq hq2;subst hsv;go_wp2_with fail;have hS2:v1.drew.cell? ⟨bb,off+q,none⟩=some (.int .i64 x):=hc;refine ax (fun u=>u.cell? ⟨bb,off+q,none⟩=some (.int .i64 x)) 99 ?_;refine ap [0,1,2,3,4,5,6,7,8,9,10,11,12] ?_
       iterate 13 refine aT hS2 ?_
       refine aj ?_;refine am ?_;obtain⟨V,hV⟩:∃V,V=IntKind.i64.wrap (x+(q2:Int)):=⟨_,rfl⟩
       have hVr:-9223372036854775808<=V/\V<=9223372036854775807:=by rw[hV];exact FH _
       rw[<-hV];clear hV;have nJ:=QI.out V hVr;obtain⟨X,hX⟩:∃X,X=cL V (N:Int):=⟨_,rfl⟩
       have BI:=bE V (n:=(N:Int)) (by omega);rw[<-hX]at nJ BI;clear hX;have PX:iY w v1.drew w.heap.size w1.heap.size ⟨1+PW,1+PH,3,DP,ps⟩ pv (.slice sa j sc) aq S:=P1.out.drew;generalize v1.drew=v2 at *;go_wp2_with fail;obtain⟨v',u,hr,P4,d5,f5,⟨UM,cp',hv'⟩,um⟩:=PX.drew.FG X (by rw[p7.out.2];omega);rw[p7.out.2]at hv';obtain⟨j1,hj1⟩:∃j1,j1=j+1:=⟨_,rfl⟩
       rw[<-hj1]at hv';have iG:fE w1.heap.size ⟨1+PW,1+PH,3,DP,ps⟩ pv (.slice sa j sc) v2.drew:=PX.m;have ka:=ae v2.drew (.cells #[.int .i64 X] 3);have yy:fE w1.heap.size ⟨1+PW,1+PH,3,DP,ps⟩ pv (.slice sa j sc) (v2.drew.alloc (.cells #[.int .i64 X] 3)):=(ka.block _ (aaa iG)).trans iG;have Ey:Hid (_/\_/\_):=⟨P4,hj1,um⟩
       have lM:=aaa um;have vj:fE w1.heap.size ⟨1+PW,1+PH,3,DP,ps⟩ pv (.slice sa j sc) u:=um;clear P4 um PX ka hj1;refine ax (fE w1.heap.size ⟨1+PW,1+PH,3,DP,ps⟩ pv (.slice sa j sc)) 8 ?_;refine ap [0,1,2,3] ?_
       iterate 4 (refine bU (v:=?_) (T:=?_) ?ht ?hy iG ?_;(case hy=>intro w hSw;have xr := aP hSw; go_simp;try with_reducible rfl);case ht=>go_simp;try with_reducible rfl)
       refine aj ?_;refine ag 4 fun K hK=>?_;go_simp;refine (nJ _).mono ?_;rintro e v3 ⟨rfl,hv3⟩;rw[hv3];clear hv3 v3;refine hK _ _ (fun _=>iG) ?_;clear hK K;refine ag 5 fun K hK=>?_;go_simp;refine hK _ _ (fun _=>yy) ?_;clear hK K;refine ag 6 fun K hK=>?_;rw[aaj (by kernel_rfl)];subst hv';refine acR _ _ _ _ _ rfl _ _ rfl rfl _ _ hr ?_;go_simp;refine hK _ _ (fun _=>vj) ?_;clear hK K;refine ap [7] ?_
       iterate 1 refine aT vj ?_
       refine aj ?_;refine ag 8 fun K hK=>?_;go_simp;refine hK _ _ (fun h=>absurd rfl h) ?_;clear hK K;refine am ?_;clear vj;go_wp2
       go_roundw
       case rel=>exact⟨j+1,S++[X],_,by go_num,by omega,Ey.out.1,by rw[aac,p7.out.2];rfl,kO S X (N:Int) p7.out.1 BI⟩
       case measure=>simp only[intOf];omega
      ·have acn:True:=trivial;subst hsv;have nJ:=QI.out 0 (by omega);obtain⟨X,hX⟩:∃X,X=cL 0 (N:Int):=⟨_,rfl⟩
       have BI:=bE 0 (n:=(N:Int)) (by omega);rw[<-hX]at nJ BI;clear hX;have PX:iY w v1 w.heap.size w1.heap.size ⟨1+PW,1+PH,3,DP,ps⟩ pv (.slice sa j sc) aq S:=P1.out;have MA:¬(L:Int)>0:=by omega
       go_wp2_with fail;obtain⟨v',u,hr,P4,d5,f5,⟨UM,cp',hv'⟩,um⟩:=PX.drew.FG X (by rw[p7.out.2];omega);rw[p7.out.2]at hv';obtain⟨j1,hj1⟩:∃j1,j1=j+1:=⟨_,rfl⟩
       rw[<-hj1]at hv';have iG:fE w1.heap.size ⟨1+PW,1+PH,3,DP,ps⟩ pv (.slice sa j sc) v1.drew:=PX.m;have ka:=ae v1.drew (.cells #[.int .i64 X] 3);have yy:fE w1.heap.size ⟨1+PW,1+PH,3,DP,ps⟩ pv (.slice sa j sc) (v1.drew.alloc (.cells #[.int .i64 X] 3)):=(ka.block _ (aaa iG)).trans iG;have Ey:Hid (_/\_/\_):=⟨P4,hj1,um⟩
       have lM:=aaa um;have vj:fE w1.heap.size ⟨1+PW,1+PH,3,DP,ps⟩ pv (.slice sa j sc) u:=um;clear P4 um PX ka hj1;refine ax (fE w1.heap.size ⟨1+PW,1+PH,3,DP,ps⟩ pv (.slice sa j sc)) 8 ?_;refine ap [0,1,2,3] ?_
       iterate 4 (refine bU (v:=?_) (T:=?_) ?ht ?hy iG ?_;(case hy=>intro w hSw;have xr := aP hSw; go_simp;try with_reducible rfl);case ht=>go_simp;try with_reducible rfl)
       refine aj ?_;refine ag 4 fun K hK=>?_;go_simp;refine (nJ _).mono ?_;rintro e v3 ⟨rfl,hv3⟩;rw[hv3];clear hv3 v3;refine hK _ _ (fun _=>iG) ?_;clear hK K;refine ag 5 fun K hK=>?_;go_simp;refine hK _ _ (fun _=>yy) ?_;clear hK K;refine ag 6 fun K hK=>?_;rw[aaj (by kernel_rfl)];subst hv';refine acR _ _ _ _ _ rfl _ _ rfl rfl _ _ hr ?_;go_simp;refine hK _ _ (fun _=>vj) ?_;clear hK K;refine ap [7] ?_
       iterate 1 refine aT vj ?_
       refine aj ?_;refine ag 8 fun K hK=>?_;go_simp;refine hK _ _ (fun h=>absurd rfl h) ?_;clear hK K;refine am ?_;clear vj;go_wp2
       go_roundw
       case rel=>exact⟨j+1,S++[X],_,by go_num,by omega,Ey.out.1,by rw[aac,p7.out.2];rfl,kO S X (N:Int) p7.out.1 BI⟩
       case measure=>simp only[intOf];omega
     ·have JH:(j:Int)=(1+PW)*(1+PH)*(ch:Int):=by omega
      obtain⟨sa,sc,rfl⟩:=ij P1.out.s;obtain⟨pa,pc,rfl⟩:=ij P1.out.p;obtain⟨m0,m1,m2,m3,m4,m5,m6⟩:=aP P1.out.m;obtain⟨y0,y1,y2,y3,y4,y5,y6,yf,yl⟩:=gG P1.out.r
      have Km:Hid (du ⟨1+PW,1+PH,3,DP,ps⟩ aq S):=by
       refine⟨HH.out,xH _ HH.out (by show 1+PW<=20;omega) (by show 1+PH<=20;omega),?_,?_⟩
       ·unfold Pm.pQ;dsimp only;rw[aaj rfl,BQ.out.2,Bool.and_true,Mz.out];simp only[aaS,aaW];have:=BQ.out.1;omega
       ·unfold Pm.uk;dsimp only;rw[Y2.out,HS.out.2.1,abj JH,acT];rw[aaj rfl];have e:((aq.length:Nat):Int)/3=(N:Int):=by have:=BQ.out.1;omega
        rw[e];exact HS.out.2.2
      have hout:=FI P1.out Km.out (by show 1+PW<=20;omega) (by show 1+PH<=20;omega) ⟨by have:=BQ.out.1;omega,by rw[HS.out.2.1];omega⟩;have HO:Hid (_):=hout;clear hout Km HS;go_wp2;exact aaF (results_cell_row rfl _ _ w.heap.size 24 _ (0,0) _ rfl HO.out.2 Tryz.underlying24 rfl Tryz.infoImage) rfl HO.out.1
 ·have h3b:(KD==3)=false:=aaP.2 h3
  have hb1:(1+PW)*(1+PH)*(ch:Int)<=1600/\0<=(1+PW)*(1+PH)*(ch:Int):=by
   have a1:(1+PW)*(1+PH)<=20*20:=acC (by omega) (by omega) (by omega) (by omega);have a0:0<=(1+PW)*(1+PH):=acv (by omega) (by omega);exact⟨by have:(1+PW)*(1+PH)*(ch:Int)<=400*4:=acC (by omega) (by omega) (by omega) (by omega);omega,acv a0 (by omega)⟩
  have hb2:(1+PW)*(1+PH)<=400/\0<=(1+PW)*(1+PH):=by
   have a1:(1+PW)*(1+PH)<=20*20:=acC (by omega) (by omega) (by omega) (by omega);exact⟨by omega,acv (by omega) (by omega)⟩
  have wm1:IntKind.i64.wrap ((1+PW)*(1+PH))=(1+PW)*(1+PH):=aao _ (by omega);have wm2:IntKind.i64.wrap ((1+PW)*(1+PH)*(ch:Int))=(1+PW)*(1+PH)*(ch:Int):=aao _ (by omega);have HP:Hid (_):=W1.out;clear W1;have hw2:=nE DP hdp;have hw3:=QH DP hdp;rw[Mz.out]at hw2 hw3;go_wp2;clear hw2 hw3
  go_loopw [18] (fun ix wr=>∃(j:Nat) (S:List Int) (sv:Value),ix=.int .i64 j/\(j:Int)<=(1+PW)*(1+PH)*(ch:Int)/\Hid (iY w wr w.heap.size w1.heap.size ⟨1+PW,1+PH,KD,DP,ps⟩ (.slice none 0 0) sv [] S/\S.length=j/\Pm.eu S top=true)) (fun ix _=>((1+PW)*(1+PH)*(ch:Int)).toNat-(intOf ix).toNat)
  case atStart=>exact⟨0,[],.slice none 0 0,rfl,by show (0:Int)<=_;omega,HP,rfl,rfl⟩
  case round =>
   obtain⟨j,S,sv,rfl,hj,HS⟩:=hrel;have HM:fE w1.heap.size ⟨1+PW,1+PH,KD,DP,ps⟩ (.slice none 0 0) sv wr:=HS.out.1.m;go_wp2_with fail;have hS0:fE w1.heap.size ⟨1+PW,1+PH,KD,DP,ps⟩ (.slice none 0 0) sv wr.drew:=HM;refine ax (fE w1.heap.size ⟨1+PW,1+PH,KD,DP,ps⟩ (.slice none 0 0) sv) 99 ?_;refine ap [0,1,2,3,4,5,6] ?_
   iterate 7 (refine bU (v:=?_) (T:=?_) ?ht ?hy hS0 ?_;(case hy=>intro w hSw;have xr := aP hSw; go_simp;try with_reducible rfl);case ht=>go_simp;try with_reducible rfl)
   refine aj ?_;refine ag 7 fun K hK=>?_;go_simp;refine (hcn _).mono ?_;rintro e v1 ⟨rfl,b1⟩;have P1:Hid (iY w v1 w.heap.size w1.heap.size ⟨1+PW,1+PH,KD,DP,ps⟩ (.slice none 0 0) sv [] S):=HS.out.1.drew.below b1;have hS1:fE w1.heap.size ⟨1+PW,1+PH,KD,DP,ps⟩ (.slice none 0 0) sv v1:=P1.out.m;refine hK _ _ (fun _=>hS1) ?_;clear hK K b1 hS0 HM;refine ap [8,9] ?_
   iterate 2 refine aT hS1 ?_
   refine aj ?_;refine am ?_;by_cases hlt:(j:Int)<(1+PW)*(1+PH)*(ch:Int)
   ·have hval:∀V:Int,(-9223372036854775808<=V/\V<=9223372036854775807)->∀v:World,Calls Tryz.prog 11 #[.int .i64 V,.int .i64 top] v fun e w'=>e=.returned (.int .i64 (cL V top))/\w'=v:=fun V hV v=>oA V top v hV.1 hV.2 (by omega) (by omega);have QI:Hid (_):=hval;have Ub:=HS.out.2.1;have hal:=HS.out.2.2;have p7:Hid (Pm.eu S top=true/\S.length=j):=⟨hal,Ub⟩
    have hjb:j<=2000:=by omega
    obtain⟨sa,sc,hsv⟩:=ij P1.out.s;rw[Ub]at hsv;clear hval Ub hal HS;by_cases hL0:0<L
    ·have MA:(L:Int)>0:=by omega
     obtain⟨bb,off,x,rfl,hc,hx⟩:=Ei (HR.out.1.below P1.out.k HR.out.2.1) HR.out.2.2 j (by rw[<-HL.out];exact hL0);rw[<-HL.out]at hc;obtain⟨q,hq⟩:∃q,q=j%L:=⟨_,rfl⟩
     have hqt:(j:Int).tmod (L:Int)=(q:Int):=by rw[hq,acD (by omega)];push_cast;rfl
     obtain⟨q2,hq2⟩:∃q2,q2=j/L:=⟨_,rfl⟩
     have ack:(j:Int).tdiv (L:Int)=(q2:Int):=by rw[hq2,Int.tdiv_eq_ediv_of_nonneg (by omega)];push_cast;rfl
     have hLn:L≠0:=by omega
     have hqL:q<L:=by rw[hq];exact acL _ hL0
     have Yu:(q:Int)<(L:Int):=by omega
     have hL1:(L:Int)≠0:=by omega
     have hL2:(L:Int)≠-1:=by omega
     have acl:q2<=2000:=by rw[hq2];exact abe (Nat.div_le_self _ _) hjb
     have wq2:IntKind.i64.wrap (q2:Int)=(q2:Int):=aao _ (by omega);rw[<-hq]at hc;clear hq hq2;subst hsv;go_wp2_with fail;have hS2:v1.drew.cell? ⟨bb,off+q,none⟩=some (.int .i64 x):=hc;refine ax (fun u=>u.cell? ⟨bb,off+q,none⟩=some (.int .i64 x)) 99 ?_;refine ap [0,1,2,3,4,5,6,7,8,9,10,11,12] ?_
     iterate 13 refine aT hS2 ?_
     refine aj ?_;refine am ?_;obtain⟨V,hV⟩:∃V,V=IntKind.i64.wrap (x+(q2:Int)):=⟨_,rfl⟩
     have hVr:-9223372036854775808<=V/\V<=9223372036854775807:=by rw[hV];exact FH _
     rw[<-hV];clear hV;have nJ:=QI.out V hVr;obtain⟨X,hX⟩:∃X,X=cL V top:=⟨_,rfl⟩
     have BI:=bE V (n:=top) (by omega);rw[<-hX]at nJ BI;clear hX;have PX:iY w v1.drew w.heap.size w1.heap.size ⟨1+PW,1+PH,KD,DP,ps⟩ (.slice none 0 0) (.slice sa j sc) [] S:=P1.out.drew;generalize v1.drew=v2 at *;go_wp2_with fail;obtain⟨v',u,hr,P4,d5,f5,⟨UM,cp',hv'⟩,um⟩:=PX.drew.FG X (by rw[p7.out.2];omega);rw[p7.out.2]at hv';obtain⟨j1,hj1⟩:∃j1,j1=j+1:=⟨_,rfl⟩
     rw[<-hj1]at hv';have iG:fE w1.heap.size ⟨1+PW,1+PH,KD,DP,ps⟩ (.slice none 0 0) (.slice sa j sc) v2.drew:=PX.m;have ka:=ae v2.drew (.cells #[.int .i64 X] 3);have yy:fE w1.heap.size ⟨1+PW,1+PH,KD,DP,ps⟩ (.slice none 0 0) (.slice sa j sc) (v2.drew.alloc (.cells #[.int .i64 X] 3)):=(ka.block _ (aaa iG)).trans iG;have Ey:Hid (_/\_/\_):=⟨P4,hj1,um⟩
     have lM:=aaa um;have vj:fE w1.heap.size ⟨1+PW,1+PH,KD,DP,ps⟩ (.slice none 0 0) (.slice sa j sc) u:=um;clear P4 um PX ka hj1;refine ax (fE w1.heap.size ⟨1+PW,1+PH,KD,DP,ps⟩ (.slice none 0 0) (.slice sa j sc)) 8 ?_;refine ap [0,1,2,3] ?_
     iterate 4 (refine bU (v:=?_) (T:=?_) ?ht ?hy iG ?_;(case hy=>intro w hSw;have xr := aP hSw; go_simp;try with_reducible rfl);case ht=>go_simp;try with_reducible rfl)
     refine aj ?_;refine ag 4 fun K hK=>?_;go_simp;refine (nJ _).mono ?_;rintro e v3 ⟨rfl,hv3⟩;rw[hv3];clear hv3 v3;refine hK _ _ (fun _=>iG) ?_;clear hK K;refine ag 5 fun K hK=>?_;go_simp;refine hK _ _ (fun _=>yy) ?_;clear hK K;refine ag 6 fun K hK=>?_;rw[aaj (by kernel_rfl)];subst hv';refine acR _ _ _ _ _ rfl _ _ rfl rfl _ _ hr ?_;go_simp;refine hK _ _ (fun _=>vj) ?_;clear hK K;refine ap [7] ?_
     iterate 1 refine aT vj ?_
     refine aj ?_;refine ag 8 fun K hK=>?_;go_simp;refine hK _ _ (fun h=>absurd rfl h) ?_;clear hK K;refine am ?_;clear vj;go_wp2
     go_roundw
     case rel=>exact⟨j+1,S++[X],_,by go_num,by omega,Ey.out.1,by rw[aac,p7.out.2];rfl,kO S X top p7.out.1 BI⟩
     case measure=>simp only[intOf];omega
    ·have acn:True:=trivial;subst hsv;have nJ:=QI.out 0 (by omega);obtain⟨X,hX⟩:∃X,X=cL 0 top:=⟨_,rfl⟩
     have BI:=bE 0 (n:=top) (by omega);rw[<-hX]at nJ BI;clear hX;have PX:iY w v1 w.heap.size w1.heap.size ⟨1+PW,1+PH,KD,DP,ps⟩ (.slice none 0 0) (.slice sa j sc) [] S:=P1.out;have MA:¬(L:Int)>0:=by omega
     go_wp2_with fail;obtain⟨v',u,hr,P4,d5,f5,⟨UM,cp',hv'⟩,um⟩:=PX.drew.FG X (by rw[p7.out.2];omega);rw[p7.out.2]at hv';obtain⟨j1,hj1⟩:∃j1,j1=j+1:=⟨_,rfl⟩
     rw[<-hj1]at hv';have iG:fE w1.heap.size ⟨1+PW,1+PH,KD,DP,ps⟩ (.slice none 0 0) (.slice sa j sc) v1.drew:=PX.m;have ka:=ae v1.drew (.cells #[.int .i64 X] 3);have yy:fE w1.heap.size ⟨1+PW,1+PH,KD,DP,ps⟩ (.slice none 0 0) (.slice sa j sc) (v1.drew.alloc (.cells #[.int .i64 X] 3)):=(ka.block _ (aaa iG)).trans iG;have Ey:Hid (_/\_/\_):=⟨P4,hj1,um⟩
     have lM:=aaa um;have vj:fE w1.heap.size ⟨1+PW,1+PH,KD,DP,ps⟩ (.slice none 0 0) (.slice sa j sc) u:=um;clear P4 um PX ka hj1;refine ax (fE w1.heap.size ⟨1+PW,1+PH,KD,DP,ps⟩ (.slice none 0 0) (.slice sa j sc)) 8 ?_;refine ap [0,1,2,3] ?_
     iterate 4 (refine bU (v:=?_) (T:=?_) ?ht ?hy iG ?_;(case hy=>intro w hSw;have xr := aP hSw; go_simp;try with_reducible rfl);case ht=>go_simp;try with_reducible rfl)
     refine aj ?_;refine ag 4 fun K hK=>?_;go_simp;refine (nJ _).mono ?_;rintro e v3 ⟨rfl,hv3⟩;rw[hv3];clear hv3 v3;refine hK _ _ (fun _=>iG) ?_;clear hK K;refine ag 5 fun K hK=>?_;go_simp;refine hK _ _ (fun _=>yy) ?_;clear hK K;refine ag 6 fun K hK=>?_;rw[aaj (by kernel_rfl)];subst hv';refine acR _ _ _ _ _ rfl _ _ rfl rfl _ _ hr ?_;go_simp;refine hK _ _ (fun _=>vj) ?_;clear hK K;refine ap [7] ?_
     iterate 1 refine aT vj ?_
     refine aj ?_;refine ag 8 fun K hK=>?_;go_simp;refine hK _ _ (fun h=>absurd rfl h) ?_;clear hK K;refine am ?_;clear vj;go_wp2
     go_roundw
     case rel=>exact⟨j+1,S++[X],_,by go_num,by omega,Ey.out.1,by rw[aac,p7.out.2];rfl,kO S X top p7.out.1 BI⟩
     case measure=>simp only[intOf];omega
   ·have JH:(j:Int)=(1+PW)*(1+PH)*(ch:Int):=by omega
    obtain⟨sa,sc,rfl⟩:=ij P1.out.s;obtain⟨m0,m1,m2,m3,m4,m5,m6⟩:=aP P1.out.m;obtain⟨y0,y1,y2,y3,y4,y5,y6,yf,yl⟩:=gG P1.out.r
    have Km:Hid (du ⟨1+PW,1+PH,KD,DP,ps⟩ [] S):=by
     refine⟨HH.out,xH _ HH.out (by show 1+PW<=20;omega) (by show 1+PH<=20;omega),?_,?_⟩
     ·unfold Pm.pQ;dsimp only;rw[aai h3];rfl
     ·unfold Pm.uk;dsimp only;rw[Y2.out,HS.out.2.1,abj JH,acT];rw[aai h3,Mz.out];exact HS.out.2.2
    have hout:=FI P1.out Km.out (by show 1+PW<=20;omega) (by show 1+PH<=20;omega) ⟨aaq _,by rw[HS.out.2.1];omega⟩;have HO:Hid (_):=hout;clear hout Km HS;go_wp2;exact aaF (results_cell_row rfl _ _ w.heap.size 24 _ (0,0) _ rfl HO.out.2 Tryz.underlying24 rfl Tryz.infoImage) rfl HO.out.1
theorem II {T X:ByteArray}{lv:Nat}(h:jO T X lv)(hT:T.size<=4500000):dx X (T.size:Int)=0/\jg X (T.size:Int)=T:=by
 obtain⟨P,Wb,ks,rfl,h1,h2,h3,_⟩:=h;obtain⟨a,b,_⟩:=Mt h1 h2 hT (by omega);exact⟨a,b⟩
theorem Pr {h:Hd}{aq S:List Int}{T X b:ByteArray}{ds:List ByteArray}{lv fl ck:Nat}(hf:du h aq S)(hT:(T.size:Int)=bY h)(hw:Pm.Written (gK h) S (af T) fl h.ps)(hp:jO T X lv)(hc:Ir X X.size ck ds)(hck:ck<=1048576)(hb:b.data.toList=iQ h aq ds)(limit:Int)(hl:bY h<=limit):dm b limit=.ok ⟨h,aq,S⟩:=by
 have hr:=hf.raw;have hTs:T.size<=4500000:=by omega
 obtain⟨c1,c2⟩:=II hp hTs;rw[hT]at c1 c2;exact LV hf hw hT c1 c2 (by rw[hc.cat,sP]) hb (fun d hd=>by have:=(hc.few d hd).2;omega) (xF hc (hp.size hTs).2) limit hl
theorem IJ {h:Hd}{aq:List Int}{X b:ByteArray}{ds:List ByteArray}{ck:Nat}(hc:Ir X X.size ck ds)(hpl:aq.length<=1000000)(hb:b.data.toList=iQ h aq ds):b.size<=57+aq.length+13*X.size:=by
 have e:=cj b;rw[hb]at e;unfold iQ bj at e;have h1:∀(L M:List Ch),(aH (L++M)).length=(aH L).length+(aH M).length:=fun L M=>by rw[uW,aac]
 have h2:∀(c:Ch) (L:List Ch),(aH (c::L)).length=(kR c).length+(aH L).length:=fun c L=>by show (kR c++aH L).length=_;rw[aac]
 rw[aac,h2,h1,h1,Mf]at e;have h3:=zj hc
 have h4:(aH [⟨aE nD,⟨#[]⟩⟩]).length=12:=by
  rw[h2,gJ ⟨rfl,rfl,by show 0<=_;omega⟩];rfl
 have h5:(aH (if h.kd=3 then [(⟨aE cP,ct aq⟩:Ch)] else [])).length<=12+aq.length:=by
  split
  ·have hs:=mb aq;rw[h2,gJ ⟨rfl,rfl,by show (ct aq).size<=_;omega⟩];show 12+(ct aq).size+0<=_;omega
  ·exact aaq _
 have h6:sj.length=8:=rfl;have h7:(aH (ds.map fun d=>(⟨aE cJ,d⟩:Ch))).length<=13*X.size:=h3;omega
theorem BJ {T X:ByteArray}{lv:Nat}(h:jO T X lv)(hT:T.size<=22540):X.size<=22560:=by
 obtain⟨P,Wb,ks,rfl,h1,_,h3,_⟩:=h;rw[pm];have h4:=h1.1;rw[cj]at h4;omega
abbrev I64 (x:Int):Prop:=-9223372036854775808<=x/\x<=9223372036854775807
end Go.Proofs.YtmfijackgekioabGreatDoor
