import Derived.Test.YtmfijackgekioaaGreatDoorQ03
import Derived.Deep.DeepCutAuto
import Derived.Deep.CutBlock
import Derived.Deep.RegionHeld3
import Derived.Deep.RegionWith
import Derived.Deep.RegionLaw
set_option maxHeartbeats 4000000
set_option maxRecDepth 100000
namespace Go.Proofs.YtmfijackgekioaaGreatDoor
open Go.RowKit Go.Maps
theorem Fill.kept {w w':World}{T M:Nat}{ls:List Int}{n i q:Nat}{S:Nat->Prop}(h:Fill w T M ls n i q)(k:Kp S w w')(hT:¬S T)(hM:¬S M):Fill w' T M ls n i q:=by
 obtain⟨D,sh,lo,h1,h2,h3⟩:=h;refine⟨D,sh,lo,(k.block T (lt_of_block h1) hT).trans h1,?_,h3⟩;obtain⟨es,clock,hb,r⟩:=h2;exact⟨es,clock,(k.block M (lt_of_block hb) hM).trans hb,r⟩
theorem Fill.next {w:World}{T M:Nat}{ls:List Int}{n i q:Nat}(h:Fill w T M ls n i q)(hi:ls.getD i 0≠((n+1:Nat):Int)):Fill w T M ls n (i+1) (q+1):=by
 obtain⟨D,sh,lo,h1,h2,h3⟩:=h;exact⟨D,sh,lo,h1,h2.mono (Nat.le_succ _),h3.next hi⟩
theorem Fill.row {w:World}{T M:Nat}{ls:List Int}{n q:Nat}(h:Fill w T M ls n ls.length q):Fill w T M ls (n+1) 0 q:=by
 obtain⟨D,sh,lo,h1,h2,h3⟩:=h;exact⟨D,sh,lo,h1,h2,h3.row⟩
theorem Fill.lt {w:World}{T M:Nat}{ls:List Int}{n i q:Nat}(h:Fill w T M ls n i q):T<w.heap.size/\M<w.heap.size:=by
 obtain⟨D,sh,lo,h1,h2,h3⟩:=h;exact⟨lt_of_block h1,h2.lt⟩
theorem zd {w:World}{T:Nat}{a b:Value}{t:TypeId}(h:w.heap[T]?=some (.cells #[a,b] t (0,0)))(u:Value):(w.setCell ⟨T,0,none⟩ u).heap[T]?=some (.cells #[u,b] t (0,0)):=(heap_setCell_same w T 0 _ _ u h).trans rfl
theorem IY {w:World}{T:Nat}{a b:Value}{t:TypeId}(h:w.heap[T]?=some (.cells #[a,b] t (0,0)))(u:Value):(w.setCell ⟨T,1,none⟩ u).heap[T]?=some (.cells #[a,u] t (0,0)):=(heap_setCell_same w T 1 _ _ u h).trans rfl
theorem c8 {w:World}{T:Nat}{a b:Value}{t:TypeId}(h:w.heap[T]?=some (.cells #[a,b] t (0,0))): w.cell? ⟨T,0,none⟩=some a/\w.cell? ⟨T,1,none⟩=some b/\(∀j,w.frozen? ⟨T,j,none⟩=false)/\T<w.heap.size :=
 ⟨cell_of_row _ _ _ _ _ _ h,cell_of_row _ _ _ _ _ _ h,fun j=>frozen_of_row w T j _ _ h,lt_of_block h⟩
theorem Qv (T M:Nat)(ao:Option Addr)(cap:Nat)(ls:List Int)(N:Nat)(w:World)(hN:ls.length=N)(hlen:N<=320)(hint:Ints w ao ls)(ha:∀a,ao=some a->ls≠[]->a.block<w.heap.size/\a.block≠T/\a.block≠M)(hw:∀j,ls.getD j 0<=15)(hf:Rf.fs ls ls.length<=32768)(hF:Fill w T M ls 0 0 0)(Qu:M≠T): Calls Tryz.prog 196 #[.slice ao N cap,.func (.func 197) #[] #[.pointer (some ⟨T,0,none⟩)]] w fun e w'=>e=.returned (.tuple #[])/\(∃q,Fill w' T M ls 15 0 q)/\Kp (fun k=>k=T\/k=M) w w':=by
 obtain⟨aY,uZ⟩:=hF.lt
 go_enter Tryz.func196,Tryz.ntmps196
 go_wp2
 go_loopw [8] (fun v wr=>∃n:Nat,n<=15/\v=.int .i64 n/\Hid (wr.heap[w.heap.size]?=some (.cells #[.int .u16 (Rf.jS ls n:Nat),.int .u16 n] 230 (0,0)))/\Hid (Fill wr T M ls n 0 (n*N))/\Kp (fun k=>k=T\/k=M) w wr) (fun v _=>15-(intOf v).toNat)
 case atStart=>exact⟨0,Nat.zero_le _,rfl,ah w _,by rw[Nat.zero_mul];exact hF.kept ((Kp.refl (fun _=>False) w).alloc _) id id,(Kp.refl _ w).alloc _⟩
 case round =>
  clear hF;obtain⟨n,hn,rfl,HC,HF,hkp⟩:=hrel;obtain⟨c0,c1,fz,u9⟩:=c8 HC.out;have hsz:=hkp.size;by_cases hlt:n<15
  ·have hx2:=Rf.vC ls hw hf n hlt;obtain⟨x,hx⟩:∃x:Nat,x=Rf.jS ls n:=⟨_,rfl⟩
   rw[<-hx]at c0 hx2;have hd:decide ((n:Int)<15)=true:=by simp;omega
   go_wp2
   go_loopw [19] (fun v wq=>∃i:Nat,i<=N/\v=.int .i64 i/\Hid (wq.heap[w.heap.size]?=some (.cells #[.int .u16 (Rf.nx ls n i:Nat),.int .u16 ((n:Int)+1)] 230 (0,0)))/\Hid (Fill wq T M ls n i (n*N+i))/\Kp (fun k=>k=T\/k=M) w wq) (fun v _=>N-(intOf v).toNat)
   case atStart =>
    have e:((Rf.jS ls n:Nat):Int)*2=((Rf.nx ls n 0:Nat):Int):=by show _=((2*Rf.jS ls n:Nat):Int);omega
    have hk2:∀S,Kp S wr wr:=fun S=>Kp.refl S wr;refine⟨0,Nat.zero_le _,rfl,?_,?_,(hkp.setCell (p:=⟨w.heap.size,0,none⟩) (.inr (Nat.le_refl _)) _).setCell (p:=⟨w.heap.size,1,none⟩) (.inr (Nat.le_refl _)) _⟩
    ·rw[e];exact IY (zd HC.out _) _
    ·exact HF.out.kept (((Kp.refl (·=w.heap.size) wr).setCell (p:=⟨w.heap.size,0,none⟩) (.inl rfl) _).setCell (p:=⟨w.heap.size,1,none⟩) (.inl rfl) _) (Nat.ne_of_lt aY) (Nat.ne_of_lt uZ)
   case round =>
    clear c0 c1 fz u9 HC HF hkp hx hx2 hsz x;obtain⟨i,hi,rfl,HC,HF,hkp⟩:=hrel;obtain⟨c0,c1,fz,u9⟩:=c8 HC.out;have hsz:=hkp.size;by_cases hlt':i<N
    ·obtain⟨b,off,rfl,hc⟩:=hint i (by omega);obtain⟨hb1,hb2,hb3⟩:=ha _ rfl (ne_of_lt (show i<ls.length by omega));obtain⟨y,hy⟩:∃y:Int,y=ls[i]:=⟨_,rfl⟩
     have hy2:ls.getD i 0=y:=by rw[hy];simp[List.getD,List.getElem?_eq_getElem (show i<ls.length by omega)]
     have hc2:wr.cell? ⟨b,off+i,none⟩=some (.int .i64 y):=(hkp.cell (p:=⟨b,off+i,none⟩) hb1 (by rintro (h|h);exact hb2 h;exact hb3 h)).trans (by rw[hc,hy]);have hnx:=Rf.mD ls hw hf n i hlt (by omega);have hnx2:=Rf.mD ls hw hf n (i+1) hlt (by omega);have HY:Hid (ls.getD i 0=y):=hy2;clear hy hy2 hc hint;by_cases hye:y=(n:Int)+1
     ·have HN:Hid (Rf.nx ls n (i+1)=Rf.nx ls n i+1):=by show Rf.pj _ _ _ _+_=_;rw[HY.out,hye,if_pos (by omega)]
      have hcall:=Uz T M ls n i (n*N+i) wr HF.out Qu hlt (by omega) (by omega) (by rw[HY.out,hye];omega) hnx (by have:n*N<=15*320:=Nat.mul_le_mul (by omega) hlen;omega);rw[pk,show ((n+1:Nat):Int)=(n:Int)+1 by omega]at hcall;obtain⟨g,hg⟩:∃g:Nat,g=Rf.nx ls n i:=⟨_,rfl⟩
      rw[HN.out]at hnx2;rw[<-hg]at hcall c0 hnx hnx2;have HG:Hid (g=Rf.nx ls n i):=hg;have HA:Hid (wr.cell? ⟨b,off+i,none⟩=some (.int .i64 ((n:Int)+1))):=by rw[<-hye];exact hc2
      have TA:Hid (y=(n:Int)+1):=hye;clear hg ha hc2 hye;have hc2:=HA.out;clear HA;go_wp2_with fail;refine hcall.mono ?_;rintro e w1 ⟨rfl,hF1,hk1⟩;have UB:Hid (w1.heap[w.heap.size]?=_):=(hk1.block w.heap.size u9 (by rintro (h|h)<;>omega)).trans HC.out;obtain⟨d0,d1,Qw,UC⟩:=c8 UB.out;rw[<-HG.out]at d0;go_wp2
      go_roundw
      case rel =>
       refine⟨i+1,by omega,by go_num,?_,?_,(hkp.trans hk1).setCell (p:=⟨w.heap.size,0,none⟩) (.inr (Nat.le_refl _)) _⟩
       ·rw[HN.out,<-HG.out];exact zd UB.out _
       ·exact hF1.kept ((Kp.refl (·=w.heap.size) w1).setCell (p:=⟨w.heap.size,0,none⟩) (.inl rfl) _) (Nat.ne_of_lt aY) (Nat.ne_of_lt uZ)
      case measure=>simp[intOf];omega
     ·have HN:Hid (Rf.nx ls n (i+1)=Rf.nx ls n i):=by show Rf.pj _ _ _ _+_=_;rw[HY.out,if_neg (by omega)];rfl
      go_wp2
      go_roundw
      case rel=>exact⟨i+1,by omega,by go_num,by rw[HN.out];exact HC.out,HF.out.next (by rw[HY.out];omega),hkp⟩
      case measure=>simp[intOf];omega
    ·have e:i=N:=by omega
     subst e;go_wp2
     go_roundw
     case rel =>
      refine⟨n+1,by omega,by go_num,?_,?_,hkp⟩
      ·have h:=HC.out;rw[<-hN]at h;exact h
      ·have h:=HF.out;rw[<-Nat.succ_mul]at h;rw[<-hN]at h ⊢;exact h.row
     case measure=>simp[intOf];omega
  ·have e:n=15:=by omega
   subst e;go_wp2
   go_end0
   exact⟨rfl,⟨_,HF.out⟩,hkp⟩
abbrev BD (M sh lo:Nat):Value:=.agg #[.map (some M),.int .u16 sh,.int .u16 lo]
def jT (w:World)(M sh lo:Nat)(ls:List Int):Prop:=∃(q:Nat) (D:DataW Unit),w.ownsMap Tryz.prog 230 (plainElem Tryz.prog 3) M q D/\me D ls 15 0 sh lo/\∀j,ls.getD j 0<=15
theorem jT.lt {w:World}{M sh lo:Nat}{ls:List Int}(h:jT w M sh lo ls):M<w.heap.size:=by obtain⟨q,D,h,_⟩:=h;exact h.lt
theorem jT.kept {w w':World}{M sh lo:Nat}{ls:List Int}{S:Nat->Prop}(h:jT w M sh lo ls)(k:Kp S w w')(hM:¬S M):jT w' M sh lo ls:=by
 obtain⟨q,D,h2,h3⟩:=h;refine⟨q,D,?_,h3⟩;obtain⟨es,clock,hb,r⟩:=h2;exact⟨es,clock,(k.block M (lt_of_block hb) hM).trans hb,r⟩
theorem jT.below {w w':World}{M sh lo B:Nat}{ls:List Int}(h:jT w M sh lo ls)(k:Below B w w')(hM:M<B):jT w' M sh lo ls:=by
 obtain⟨q,D,h2,h3⟩:=h;refine⟨q,D,?_,h3⟩;obtain⟨es,clock,hb,r⟩:=h2;exact⟨es,clock,(k.block M hM).trans hb,r⟩
theorem qj (n:Nat)(w:World):(Instr.makeMap 161 (some (.int .i64 (n:Int)))).run Tryz.prog w=.ok (.map (some w.heap.size)) (w.alloc (.map #[] 0)):=by
 simp[Instr.makeMap,run_underlying Tryz.underlying161,asInt];rfl
theorem i5 (ao:Option Addr)(cap:Nat)(ls:List Int)(N:Nat)(w:World)(hN:ls.length=N)(hlen:N<=320)(hint:Ints w ao ls)(ha:∀a,ao=some a->ls≠[]->a.block<w.heap.size)(hw:∀j,ls.getD j 0<=15)(hf:Rf.fs ls ls.length<=32768): Calls Tryz.prog 156 #[.slice ao N cap] w fun e w'=>∃M sh lo,e=.returned (BD M sh lo)/\jT w' M sh lo ls/\w.heap.size<=M/\Below w.heap.size w w':=by
 have hmm:=qj;have TC:∀(fn:Fn) (first cap:Array Value) (w:World),(Instr.makeFunc fn first cap).run Tryz.prog w=.ok (.func fn first cap) w:=fun _ _ _ _=>rfl
 go_enter Tryz.func156,Tryz.ntmps156
 go_wp2_with fail;have hkp3:Kp (fun _=>False) w (((w.alloc (.cells #[.map none,.int .u16 0,.int .u16 0] 164)).alloc (.map #[] 0)).alloc (.cells #[.map (some (w.heap.size+1)),.int .u16 0,.int .u16 0] 164)):=(((Kp.refl _ w).alloc _).alloc _).alloc _
 have hF0:Fill (((w.alloc (.cells #[.map none,.int .u16 0,.int .u16 0] 164)).alloc (.map #[] 0)).alloc (.cells #[.map (some (w.heap.size+1)),.int .u16 0,.int .u16 0] 164)) (w.heap.size+1+1) (w.heap.size+1) ls 0 0 0:=by
  refine⟨.map [],0,0,?_,?_,me.start ls⟩
  ·have h:=ah ((w.alloc (.cells #[.map none,.int .u16 0,.int .u16 0] 164)).alloc (.map #[] 0)) (.cells #[.map (some (w.heap.size+1)),.int .u16 0,.int .u16 0] 164);simpa using h
  ·have h:=(World.ownsMap_made (H:=Unit) (w.alloc (.cells #[.map none,.int .u16 0,.int .u16 0] 164)) Tryz.prog 230 (plainElem Tryz.prog 3)).alloc (.cells #[.map (some (w.heap.size+1)),.int .u16 0,.int .u16 0] 164);simpa using h
 refine (Qv (w.heap.size+1+1) (w.heap.size+1) ao cap ls N _ hN hlen ?_ ?_ hw hf hF0 (by omega)).mono ?_
 ·intro j hj;obtain⟨b,off,e,hc⟩:=hint j hj;exact⟨b,off,e,(hkp3.cell (p:=⟨b,off+j,none⟩) (ha ⟨b,off,none⟩ e (ne_of_lt hj)) id).trans hc⟩
 ·intro a e hne;have:=ha a e hne;exact⟨by simp;omega,by omega,by omega⟩
 rintro e w1 ⟨rfl,⟨q,hF⟩,hk⟩;obtain⟨D,sh,lo,h1,h2,h3⟩:=hF;obtain⟨c0,c1,c2,fz,hlt⟩:=dG h1;have hr:w1.heap[w.heap.size]?=some (.cells #[.map none,.int .u16 0,.int .u16 0] 164 (0,0)):=(hk.block w.heap.size (by simp;omega) (by omega)).trans (am (am (ah w _) _) _);obtain⟨r0,r1,r2,rz,Qx⟩:=dG hr;have hb:Below w.heap.size w w1:=(hkp3.toBelow).trans (hk.below (by simp;omega) (fun k _ h=>by omega));have HT:Hid (jT w1 (w.heap.size+1) sh lo ls):=⟨q,D,h2,h3,hw⟩
 clear h1 h2 h3 hF0 hkp3 hk hmm TC hint ha;go_wp2
 have hk4:∀u v x:Value,Kp (·=w.heap.size) w1 (((w1.setCell ⟨w.heap.size,0,none⟩ u).setCell ⟨w.heap.size,1,none⟩ v).setCell ⟨w.heap.size,2,none⟩ x):=fun u v x =>
  (((Kp.refl (·=w.heap.size) w1).setCell (p:=⟨w.heap.size,0,none⟩) (.inl rfl) u).setCell (p:=⟨w.heap.size,1,none⟩) (.inl rfl) v).setCell (p:=⟨w.heap.size,2,none⟩) (.inl rfl) x
 exact bodyPost_ret (v:=BD (w.heap.size+1) sh lo) (by simp[results,Tryz.results156,go_sem,r0,r1,r2]) rfl
  ⟨w.heap.size+1,sh,lo,rfl,HT.out.kept (hk4 _ _ _) (by omega),by omega,hb.trans ((hk4 _ _ _).below (Nat.le_of_lt Qx) (fun k _ h=>by omega))⟩
def Qy (C:Nat)(w:World):Nat:=match w.cell? ⟨C,1,none⟩ with|some (.int _ n)=>n.toNat|_=>0
theorem se {w:World}{C:Nat}{k:IntKind}{n:Nat}(h:w.cell? ⟨C,1,none⟩=some (.int k (n:Int))):Qy C w=n:=by unfold Qy;rw[h];simp
theorem Kp.two {R C:Nat}{a b:World}{x y:Value}{t:TypeId}(h:Kp (·=R) a b)(hne:C≠R)(hC:a.heap[C]?=some (.cells #[x,y] t (0,0))): b.cell? ⟨C,0,none⟩=some x/\b.cell? ⟨C,1,none⟩=some y/\(∀j,b.frozen? ⟨C,j,none⟩=false)/\C<b.heap.size/\Hid (b.heap[C]?=some (.cells #[x,y] t (0,0))):=by
 have h2:=(h.block C (lt_of_block hC) hne).trans hC;obtain⟨a,b,c,d⟩:=c8 h2;exact⟨a,b,c,d,h2⟩
theorem Fk {D:DataW Unit}{ls:List Int}{sh lo:Nat}(h:me D ls 15 0 sh lo)(a l:Nat)(ha:a<65536)(hl1:1<=l)(hl:l<=15): (∃j:Nat,Rf.find ls (Rf.codes ls) (l:Int) (a:Int)=some j/\j<ls.length/\Maps.has D (kl a l)=true/\D.atKey (kl a l) (.lit (.int .i64 0))=.lit (.int .i64 (j:Int))) \/ (Rf.find ls (Rf.codes ls) (l:Int) (a:Int)=none/\Maps.has D (kl a l)=false):=by
 cases hf:Rf.find ls (Rf.codes ls) (l:Int) (a:Int) with
 | none=>exact .inr ⟨rfl,h.none a l ha (by omega) fun j hj hlj hcj=>Rf.vD hf j hj.1 ⟨hlj,hcj⟩⟩
 | some j =>
  obtain⟨h1,h2,h3⟩:=Rf.fQ hf;have:=h.some j a l ha (by omega) ⟨h1,by omega,.inl (by omega)⟩ h2 h3;exact .inl ⟨j,rfl,h1,this.1,this.2⟩
theorem BF {D:DataW Unit}{ls:List Int}{sh lo:Nat}(h:me D ls 15 0 sh lo)(l:Nat)(hl1:1<=l)(hl:l<sh)(v:Int):Rf.find ls (Rf.codes ls) (l:Int) v=none:=by
 cases hf:Rf.find ls (Rf.codes ls) (l:Int) v with
 | none=>rfl
 | some j =>
  obtain⟨h1,h2,h3⟩:=Rf.fQ hf;have OT:=h.y9;have hd:Done ls 15 0 j:=⟨h1,by omega,.inl (by omega)⟩
  by_cases e:Maps.size D=0
  ·exact absurd hd (h.empty e j)
  ·have:=h.short e j hd;omega
theorem Fm {D:DataW Unit}{ls:List Int}{sh lo:Nat}(h:me D ls 15 0 sh lo)(hw:∀j,ls.getD j 0<=15)(j:Nat)(hj:j<ls.length):ls.getD j 0<=(lo:Int):=by
 by_cases e:0<ls.getD j 0
 ·exact h.long j ⟨hj,e,.inl (hw j)⟩
 ·omega
theorem Fo (L ls cd:List Int)(f n:Nat)(v:Int)(st:Rf.St)(hb:st.bad=false)(hp:st.pos<L.length): Rf.dV L ls cd (f+1) n v st=match Rf.find ls cd ((n:Int)+1) (2*v+L.getD st.pos 0) with
   | some i=>((i:Int),{ st with pos:=st.pos+1 })
   | none=>Rf.dV L ls cd f (n+1) (2*v+L.getD st.pos 0) { st with pos:=st.pos+1 }:=by
 have e:Rf.take L st 1=(L.getD st.pos 0,{ st with pos:=st.pos+1 }):=by
  rw[Rf.take,if_neg (by omega)];simp[Rf.bv]
 rw[Rf.dV,e];simp only;rw[if_neg (by rw[hb];decide)];cases Rf.find ls cd ((n:Int)+1) (2*v+L.getD st.pos 0)<;>rfl
theorem Fp (L ls cd:List Int)(f n:Nat)(v:Int)(st:Rf.St)(hp:L.length<=st.pos):(Rf.dV L ls cd f n v st).2.bad=true:=by
 cases f with
 | zero=>rfl
 | succ f =>
  have e:(Rf.take L st 1)=(0,{ st with bad:=true }):=by rw[Rf.take,if_pos (by omega)]
  rw[Rf.dV,e];simp
theorem Kp.three {R C:Nat}{a b:World}{x y z:Value}{t:TypeId}(h:Kp (·=R) a b)(hne:C≠R)(hC:a.heap[C]?=some (.cells #[x,y,z] t (0,0))): b.cell? ⟨C,0,none⟩=some x/\b.cell? ⟨C,1,none⟩=some y/\b.cell? ⟨C,2,none⟩=some z/\Hid (b.heap[C]?=some (.cells #[x,y,z] t (0,0))):=by
 have h2:=(h.block C (lt_of_block hC) hne).trans hC;obtain⟨a,b,c,d⟩:=dG h2;exact⟨a,b,c,h2⟩
theorem xq {w w':World}{M q:Nat}{D:DataW Unit}(h:w.ownsMap Tryz.prog 230 (plainElem Tryz.prog 3) M q D)(hb:w'.heap[M]?=w.heap[M]?):w'.ownsMap Tryz.prog 230 (plainElem Tryz.prog 3) M q D:=by
 obtain⟨es,clock,h1,r⟩:=h;exact⟨es,clock,hb.trans h1,r⟩
theorem BG (v x:Nat)(hv:2*v<65536)(hx:x<=1):bits .or .u16 ((v:Int)*2) (x:Int)=2*(v:Int)+(x:Int):=by
 have key:(BitVec.ofInt 16 ((v:Int)*2)|||BitVec.ofInt 16 (x:Int)).toNat=2*v+x:=by
  rw[BitVec.toNat_or,BitVec.toNat_ofInt,BitVec.toNat_ofInt];have t1:(((v:Int)*2)%((2^16:Nat):Int)).toNat=2*v:=by omega
  have t2:((x:Int)%((2^16:Nat):Int)).toNat=x:=by omega
  rw[t1,t2];have h1:=Nat.two_pow_add_eq_or_of_lt (i:=1) (b:=x) (by omega) v;rw[Nat.pow_one]at h1;omega
 show IntKind.u16.wrap ((BitVec.ofInt 16 ((v:Int)*2)|||BitVec.ofInt 16 (x:Int)).toNat:Nat)=_;rw[key,IntKind.wrap_u16];omega
theorem BH (M sh lo:Nat)(ls:List Int)(s:ByteArray)(R:Nat)(st:Rf.St)(w:World)(hT:jT w M sh lo ls)(hr:Rd w R s st.pos)(hMR:M≠R)(hs:s.size<=5000000)(hp:st.pos<=8*s.size)(hb:st.bad=false): Calls Tryz.prog 162 #[BD M sh lo,.pointer (some ⟨R,0,none⟩)] w fun e w' =>
   ((Rf.symbol (lw s) ls (Rf.codes ls) st).2.bad=false/\e=.returned (.int .i64 (Rf.symbol (lw s) ls (Rf.codes ls) st).1)/\Rd w' R s (Rf.symbol (lw s) ls (Rf.codes ls) st).2.pos/\Kp (·=R) w w') \/
   ((Rf.symbol (lw s) ls (Rf.codes ls) st).2.bad=true/\e=dies 6/\Kp (·=R) w w'):=by
 obtain⟨q,D,hM,hH,hw⟩:=hT;have uZ:=hM.lt;have sU:=lt_of_block hr;have hlo:=hH.Fj;have hsh:=hH.y9;obtain⟨RES,rL⟩:∃RES,RES=Rf.symbol (lw s) ls (Rf.codes ls) st:=⟨_,rfl⟩
 rw[<-rL]
 go_enter Tryz.func162,Tryz.ntmps162
 go_wp2
 go_loopw [9] (fun _ wr=>∃(n v:Nat) (st':Rf.St),n<=lo/\v<2^n/\Hid (wr.heap[w.heap.size+1]?=some (.cells #[.int .u16 v,.int .u16 n] 230 (0,0)))/\Hid (wr.heap[w.heap.size]?=some (.cells #[.map (some M),.int .u16 sh,.int .u16 lo] 164 (0,0))) /\
   Rd wr R s st'.pos/\Kp (·=R) w wr/\Hid (RES=Rf.dV (lw s) ls (Rf.codes ls) (15-n) n v st')/\Hid (st'.bad=false)/\st'.pos<=8*s.size) (fun _ wr=>lo-Qy (w.heap.size+1) wr)
 case atStart =>
  have hk2:Kp (·=R) w ((w.alloc (.cells #[.map (some M),.int .u16 sh,.int .u16 lo] 164)).alloc (.cells #[.int .u16 0,.int .u16 0] 230)):=((Kp.refl (·=R) w).alloc _).alloc _;exact⟨0,0,st,Nat.zero_le _,by omega,by have h:=ah (w.alloc (.cells #[.map (some M),.int .u16 sh,.int .u16 lo] 164)) (.cells #[.int .u16 0,.int .u16 0] 230);rw[World.size_alloc]at h;exact h,am (ah w _) _,am (am hr _) _,hk2,rL,hb,hp⟩
 case round =>
  obtain⟨n,v,st',hn,hv,HC,HB,hr2,hkp,HS,ze,hp2⟩:=hrel;obtain⟨c0,c1,fz,u9⟩:=c8 HC.out;obtain⟨b0,b1,b2,bz,Mr⟩:=dG HB.out;have hCR:w.heap.size+1≠R:=by omega
  by_cases hlt:n<lo
  ·by_cases hbit:st'.pos<8*s.size
   ·have hv2:v<2^14:=Nat.lt_of_lt_of_le hv (Nat.pow_le_pow_right (by omega) (by omega));have HST:=Fo (lw s) ls (Rf.codes ls) (14-n) n v st' ze.out (by rw[au];exact hbit);rw[show 14-n+1=15-n by omega,<-HS.out]at HST;obtain⟨x,hx⟩:∃x:Nat,bt s st'.pos=(x:Int):=⟨(bt s st'.pos).toNat,by have:=ph s st'.pos;omega⟩
    have hx1:x<=1:=by have:=ph s st'.pos;omega
    have hbc:∀W,Rd W R s st'.pos->_:=fun W h=>DS s R st'.pos W h hs hbit;rw[hx]at hbc;have HX:Hid (RES=_):=HST;rw[show (lw s).getD st'.pos 0=(x:Int) from hx]at HX;have uo:=BG v x (by omega) hx1;have u1:IntKind.u16.wrap ((v:Int)*2)=(v:Int)*2:=by rw[IntKind.wrap_u16];omega
    have u2:IntKind.u16.wrap (x:Int)=(x:Int):=by rw[IntKind.wrap_u16];omega
    have u3:IntKind.u16.wrap ((n:Int)+1)=(n:Int)+1:=by rw[IntKind.wrap_u16];omega
    have HV:Hid (2*v+x<2^(n+1)):=by show _<_;rw[Nat.pow_succ];omega
    clear HST hx HS rL;go_wp2
    go_region_with ((go_at_call 159;refine (hbc _ ?_).mono ?_;exact hr2;rintro e w3 ⟨rfl,hr3,hk3⟩;obtain⟨z0,z1,z2,z3,Z4⟩:=hk3.two (C:=w.heap.size+1) hCR HC.out))
    all_goals
     obtain⟨y0,y1,y2,Y3⟩:=hk3.three (C:=w.heap.size) (by omega) HB.out;have hk4:=hkp.drew.trans hk3
     have HW:Hid (∀a b:Value,((w3.setCell ⟨w.heap.size+1,0,none⟩ a).setCell ⟨w.heap.size+1,1,none⟩ b).heap[w.heap.size+1]?=some (.cells #[a,b] 230 (0,0)) /\
       ((w3.setCell ⟨w.heap.size+1,0,none⟩ a).setCell ⟨w.heap.size+1,1,none⟩ b).heap[w.heap.size]?=some (.cells #[.map (some M),.int .u16 sh,.int .u16 lo] 164 (0,0)) /\
       Rd ((w3.setCell ⟨w.heap.size+1,0,none⟩ a).setCell ⟨w.heap.size+1,1,none⟩ b) R s (st'.pos+1)/\Kp (·=R) w ((w3.setCell ⟨w.heap.size+1,0,none⟩ a).setCell ⟨w.heap.size+1,1,none⟩ b) /\
       ((w3.setCell ⟨w.heap.size+1,0,none⟩ a).setCell ⟨w.heap.size+1,1,none⟩ b).ownsMap Tryz.prog 230 (plainElem Tryz.prog 3) M q D):=fun a b=>by
      have hk5:Kp (·=w.heap.size+1) w3 ((w3.setCell ⟨w.heap.size+1,0,none⟩ a).setCell ⟨w.heap.size+1,1,none⟩ b):=((Kp.refl (·=w.heap.size+1) w3).setCell (p:=⟨w.heap.size+1,0,none⟩) (.inl rfl) a).setCell (p:=⟨w.heap.size+1,1,none⟩) (.inl rfl) b;have Ya:=(hk4.setCell (p:=⟨w.heap.size+1,0,none⟩) (.inr (Nat.le_succ _)) a).setCell (p:=⟨w.heap.size+1,1,none⟩) (.inr (Nat.le_succ _)) b;exact⟨IY (zd Z4.out a) b,(hk5.block _ (by omega) (by omega)).trans Y3.out,hr3.kept hk5 (Ne.symm hCR),Ya,xq hM (Ya.block M uZ hMR)⟩
     clear hkp hk3 hk4 hr2 hr3;by_cases hs2:n+1<sh
     ·have HF:=BF hH (n+1) (by omega) hs2 (2*(v:Int)+(x:Int));rw[show ((n+1:Nat):Int)=(n:Int)+1 by omega]at HF;rw[HF]at HX;have Bj:Hid (RES=Rf.dV (lw s) ls (Rf.codes ls) (15-(n+1)) (n+1) ((2*v+x:Nat):Int) { st' with pos:=st'.pos+1 }):=by show _=_;rw[show ((2*v+x:Nat):Int)=2*(v:Int)+(x:Int) by omega,show 15-(n+1)=14-n by omega];exact HX.out
      clear HF HX;go_wp2
      go_roundw
      case rel=>exact⟨n+1,2*v+x,{ st' with pos:=st'.pos+1 },by omega,HV.out,(HW.out _ _).1,(HW.out _ _).2.1,(HW.out _ _).2.2.1,(HW.out _ _).2.2.2.1,Bj.out,ze.out,hbit⟩
      case measure=>rw[se c1,se (n:=n+1) (by rw[show ((n+1:Nat):Int)=(n:Int)+1 by omega];exact (c8 (HW.out _ _).1).2.1)];omega
     ·have hkey:=hkl (2*v+x) (n+1) (by omega) (by omega);have OX:=Fk hH (2*v+x) (n+1) (by omega) (by omega) (by omega);rw[show ((n+1:Nat):Int)=(n:Int)+1 by omega,show ((2*v+x:Nat):Int)=2*(v:Int)+(x:Int) by omega]at OX;rw[pk,show ((n+1:Nat):Int)=(n:Int)+1 by omega,show ((2*v+x:Nat):Int)=2*(v:Int)+(x:Int) by omega]at hkey;rcases OX with⟨j,hf,hjl,hhas,UD⟩|⟨hf,hhas⟩
      ·rw[hf]at HX;have Bj:Hid (RES=_):=HX.out;have HAT:Hid (D.atKey (kl (2*v+x) (n+1)) (.lit (.int .i64 0))=.lit (.int .i64 (j:Int))):=UD;clear hf HX UD;go_wp2_with (at_lookup;refine wpList_lookup_own_ok_int _ rfl _ _ 161 rfl 230 3 .i64 iR Tryz.underlying161 Tryz.underlying3 (ib _) M q D rfl (HW.out _ _).2.2.2.2 _ _ rfl hkey ?_;intro c hat hwc;have HCJ:Hid (c=(j:Int)):=by (have h9:=hat.symm.trans HAT.out;simp only[DataW.lit.injEq,Lit.int.injEq,true_and]at h9;exact h9))
       go_ret
       exact .inl ⟨by rw[Bj.out];exact ze.out,aH (by rw[Bj.out,HCJ.out]),by rw[Bj.out];exact (HW.out _ _).2.2.1,(HW.out _ _).2.2.2.1⟩
      ·rw[hf]at HX;have Bj:Hid (RES=Rf.dV (lw s) ls (Rf.codes ls) (15-(n+1)) (n+1) ((2*v+x:Nat):Int) { st' with pos:=st'.pos+1 }):=by show _=_;rw[show ((2*v+x:Nat):Int)=2*(v:Int)+(x:Int) by omega,show 15-(n+1)=14-n by omega];exact HX.out
       clear hf HX;go_wp2_with (at_lookup;refine wpList_lookup_own_ok_int _ rfl _ _ 161 rfl 230 3 .i64 iR Tryz.underlying161 Tryz.underlying3 (ib _) M q D rfl (HW.out _ _).2.2.2.2 _ _ rfl hkey ?_;intro c hat hwc;clear hat hwc)
       go_roundw
       case rel=>exact⟨n+1,2*v+x,{ st' with pos:=st'.pos+1 },by omega,HV.out,(HW.out _ _).1,(HW.out _ _).2.1,(HW.out _ _).2.2.1,(HW.out _ _).2.2.2.1,Bj.out,ze.out,hbit⟩
       case measure=>rw[se c1,se (n:=n+1) (by rw[show ((n+1:Nat):Int)=(n:Int)+1 by omega];exact (c8 (HW.out _ _).1).2.1)];omega
   ·have HN:Hid (RES.2.bad=true):=by show _=_;rw[HS.out];exact Fp _ _ _ _ _ _ _ (by rw[au];omega)
    go_wp2;refine wp_region_held_drew (S:=fun w'=>w'.cell? ⟨w.heap.size+1,0,none⟩=some (.int .u16 v)/\w'.cell? ⟨w.heap.size+1,1,none⟩=some (.int .u16 n)) (by kernel_rfl) ⟨c0,c1⟩ (fun hHeld=>?_);refine wpAnyH_take (i:=0) (v:=?_) rfl (by kernel_rfl) (by kernel_rfl) (by kernel_rfl) (fun _ _ _ h=>h) (Or.inl ⟨by rfl,?_⟩) (by assumption) ?_;rotate_left
    ·intro w hSw;(try dsimp only at hSw);go_simp;try with_reducible rfl
    try simp only[Act.put]
    refine wpAnyH_take (i:=1) (v:=?_) rfl (by kernel_rfl) (by kernel_rfl) (by kernel_rfl) (fun _ _ _ h=>h) (Or.inl ⟨by rfl,?_⟩) (by assumption) ?_;rotate_left
    ·intro w hSw;(try dsimp only at hSw);go_simp;try with_reducible rfl
    try simp only[Act.put]
    refine wpAnyH_take (i:=2) (v:=?_) rfl (by kernel_rfl) (by kernel_rfl) (by kernel_rfl) (fun _ _ _ h=>h) (Or.inl ⟨by rfl,?_⟩) (by assumption) ?_;rotate_left
    ·intro w hSw;(try dsimp only at hSw);go_simp;try with_reducible rfl
    try simp only[Act.put]
    refine wpAnyH_take (i:=3) (v:=?_) rfl (by kernel_rfl) (by kernel_rfl) (by kernel_rfl) (fun _ _ _ h=>h) (Or.inl ⟨by rfl,?_⟩) (by assumption) ?_;rotate_left
    ·intro w hSw;(try dsimp only at hSw);go_simp;try with_reducible rfl
    try simp only[Act.put]
    refine wpAnyH_take (i:=7) (v:=?_) rfl (by kernel_rfl) (by kernel_rfl) (by kernel_rfl) (fun _ _ _ h=>h) (Or.inl ⟨by rfl,?_⟩) (by assumption) ?_;rotate_left
    ·intro w hSw;(try dsimp only at hSw);go_simp;try with_reducible rfl
    try simp only[Act.put]
    refine wpAnyH_take (i:=8) (v:=?_) rfl (by kernel_rfl) (by kernel_rfl) (by kernel_rfl) (fun _ _ _ h=>h) (Or.inl ⟨by rfl,?_⟩) (by assumption) ?_;rotate_left
    ·intro w hSw;(try dsimp only at hSw);go_simp;try with_reducible rfl
    try simp only[Act.put]
    refine wpAnyH_take (i:=9) (v:=?_) rfl (by kernel_rfl) (by kernel_rfl) (by kernel_rfl) (fun _ _ _ h=>h) (Or.inl ⟨by rfl,?_⟩) (by assumption) ?_;rotate_left
    ·intro w hSw;(try dsimp only at hSw);go_simp;try with_reducible rfl
    try simp only[Act.put]
    refine wpAnyH_ready (rs:=[4]) (by kernel_rfl) (by simp) (AllReadyH.cons rfl (fun K hK=>?_) AllReadyH.nil);go_simp;refine (IJ s R st'.pos _ ?_ hs (by omega)).mono ?_
    ·exact hr2
    rintro e w3 ⟨rfl,hk3⟩;exact⟨rfl,.inr ⟨HN.out,rfl,hkp.drew.trans hk3⟩⟩
  ·go_wp2;exact⟨rfl,.inr ⟨by rw[HS.out];exact Rf.qi (lw s) ls _ lo (Fm hH hw) _ n _ _ (by omega),rfl,hkp⟩⟩
end Go.Proofs.YtmfijackgekioaaGreatDoor
