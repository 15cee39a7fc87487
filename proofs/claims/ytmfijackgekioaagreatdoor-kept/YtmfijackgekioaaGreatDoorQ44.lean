import Derived.Test.YtmfijackgekioaaGreatDoorQ43
set_option maxHeartbeats 8000000
set_option maxRecDepth 100000
namespace Go.Proofs.YtmfijackgekioaaGreatDoor
open Go.RowKit Go.Maps
def Rf.Big (T:List UInt8)(per e p l:Nat):Prop:=per<=p->per<=32768->(∀k,k<min (e-p) 258->T.getD (p+k) 0=T.getD (p+k-per) 0)->l=if 3<=min (e-p) 258 then min (e-p) 258 else 1
def Rf.A4 (T:List UInt8)(per e:Nat):Nat->List (Nat×Nat)->Prop
 | _,[]=>True
 | p,s::r=>Rf.Big T per e p s.1/\Rf.A4 T per e (p+s.1) r
theorem wX {T:List UInt8}{per e:Nat}:∀(S:List (Nat×Nat)) (p q:Nat) (s:Nat×Nat),Rf.A4 T per e p S->Rf.Fits T p S q->Rf.Big T per e q s.1->Rf.A4 T per e p (S++[s])
 | [],p,q,s,_,h,hs=>by
  cases h;exact⟨hs,trivial⟩
 | x::r,p,q,s,hb,h,hs=>⟨hb.1,wX r (p+x.1) q s hb.2 h.2 hs⟩
theorem A5 {T:List UInt8}{per e p l d:Nat}(h:jE T per p (min (e-p) 258) l d):Rf.Big T per e p l:=by
 intro h1 h2 h3;obtain⟨ho,hm⟩:=h;split
 ·rename_i h4;have:=hm h1 h2 _ (Nat.le_refl _) h4 h3;rcases ho with⟨rfl,_⟩|⟨_,q,_⟩<;>omega
 ·rcases ho with⟨rfl,_⟩|⟨q1,q2,_⟩<;>omega
theorem Hm {T:List UInt8}{per e p l d x1 x2:Nat}(h:jE T per p (min (e-p) 258) l d)(k:jE T per (p+1) (min (e-(p+1)) 258) x1 x2)(hlt:l<x1):Rf.Big T per e p 1:=by
 intro h1 h2 h3;have hb:=A5 h h1 h2 h3;split
 ·rename_i h4;rw[if_pos h4]at hb;rcases k.1 with⟨rfl,_⟩|⟨_,q,_⟩<;>omega
 ·rfl
structure Walk (w0 w:World) (F M G Xs en per:Nat) (T:ByteArray) (start n p:Nat) (S:List (Nat×Nat)) (sv0 sv:Value) (H:Nat):Prop where
 fd:Fd w F M G en per T n
 st:yD w Xs S sv
 fit:Rf.Fits T.data.toList start S p
 big:Rf.A4 T.data.toList per (min (start+65535) T.size) start S
 ow:sv.ownBlock≠some H/\(sv.ownBlock=sv0.ownBlock\/∃g,sv.ownBlock=some g/\w0.heap.size<=g)
 kp:Kp (fun k=>k=M\/k=G\/k=Xs\/sv0.ownBlock=some k) w0 w
 ne:F<Xs/\M<Xs/\G<Xs/\Xs<H/\w0.heap.size<=H/\Xs<w0.heap.size
theorem Walk.kept {w0 w w':World}{F M G Xs en per start n p H:Nat}{T:ByteArray}{S:List (Nat×Nat)}{sv0 sv:Value}(h:Walk w0 w F M G Xs en per T start n p S sv0 sv H)(k:Kp (fun k=>k=H\/(H<k/\sv.ownBlock≠some k)) w w'):Walk w0 w' F M G Xs en per T start n p S sv0 sv H:=by
 obtain⟨n1,n2,n3,n4,n5,n6⟩:=h.ne;obtain⟨l1,l2,l3⟩:=h.fd.lt;have hx:=lt_of_block h.st.box;refine⟨h.fd.kept (fun j hj=>k.block j (by rcases hj with rfl|rfl|rfl<;>assumption) (fun e=>by rcases hj with rfl|rfl|rfl<;>omega)),h.st.kept (fun j hj=>?_),h.fit,h.big,h.ow,?_,h.ne⟩
 ·rcases hj with rfl|hj
  ·exact k.block _ hx (fun e=>by omega)
  ·exact k.block j (h.st.lt j hj).2 (fun e=>by
    rcases e with rfl|e
    ·exact h.ow.1 hj
    ·exact e.2 hj)
 ·exact h.kp.then k (fun i hi e=>by omega)
theorem Walk.below {w0 w w':World}{F M G Xs en per start n p H:Nat}{T:ByteArray}{S:List (Nat×Nat)}{sv0 sv:Value}(h:Walk w0 w F M G Xs en per T start n p S sv0 sv H)(k:Below w.heap.size w w'):Walk w0 w' F M G Xs en per T start n p S sv0 sv H:=h.kept (Kp.aG k)
theorem Walk.set2 {w0 w:World}{F M G Xs en per start n p H:Nat}{T:ByteArray}{S:List (Nat×Nat)}{sv0 sv:Value}(h:Walk w0 w F M G Xs en per T start n p S sv0 sv H)(X:Nat)(hX:X=H\/(H<X/\sv.ownBlock≠some X))(a b:Value):Walk w0 ((w.setCell ⟨X,0,none⟩ a).setCell ⟨X,1,none⟩ b) F M G Xs en per T start n p S sv0 sv H :=
 h.kept (((Kp.refl _ w).setCell (p:=⟨X,0,none⟩) (.inl hX) a).setCell (p:=⟨X,1,none⟩) (.inl hX) b)
theorem Walk.rem {w0 w w':World}{F M G Xs en per start n n' p H:Nat}{T:ByteArray}{S:List (Nat×Nat)}{sv0 sv:Value}(h:Walk w0 w F M G Xs en per T start n p S sv0 sv H)(k:Kp (fun k=>k=M\/k=G) w w')(hf:Fd w' F M G en per T n'):Walk w0 w' F M G Xs en per T start n' p S sv0 sv H:=by
 obtain⟨n1,n2,n3,n4,n5,n6⟩:=h.ne;have hx:=lt_of_block h.st.box;refine⟨hf,h.st.kept (fun j hj=>?_),h.fit,h.big,h.ow,h.kp.then k (fun i _ e=>by rcases e with rfl|rfl;exact .inl rfl;exact .inr (.inl rfl)),h.ne⟩;rcases hj with rfl|hj
 ·exact k.block _ hx (fun e=>by omega)
 ·have:=h.st.lt j hj;exact k.block j this.2 (fun e=>by omega)
theorem Walk.push {w0 w w':World}{F M G Xs en per start n p H l d:Nat}{T:ByteArray}{S:List (Nat×Nat)}{sv0 sv Hk:Value}(h:Walk w0 w F M G Xs en per T start n p S sv0 sv H)(hs:yD w' Xs (S++[(l,d)]) Hk)(ho:Hk.ownBlock=sv.ownBlock\/∃g,Hk.ownBlock=some g/\w.heap.size<=g)(k:Kp (fun k=>k=Xs\/sv.ownBlock=some k) w w')(hst:Rf.tg T.data.toList p (l,d))(hbig:Rf.Big T.data.toList per (min (start+65535) T.size) p l)(hH:H<w.heap.size): Walk w0 w' F M G Xs en per T start n (p+l) (S++[(l,d)]) sv0 Hk H:=by
 obtain⟨n1,n2,n3,n4,n5,n6⟩:=h.ne;obtain⟨l1,l2,l3⟩:=h.fd.lt;have hrow:∀j,sv.ownBlock=some j->Xs+1<=j:=fun j hj=>(h.st.lt j hj).1;refine⟨h.fd.kept (fun j hj=>k.block j (by rcases hj with rfl|rfl|rfl<;>assumption) (fun e=>by rcases e with e|e;(rcases hj with rfl|rfl|rfl<;>omega);(have:=hrow j e;rcases hj with rfl|rfl|rfl<;>omega))),hs,wW _ S start p (l,d) h.fit hst,wX S start p (l,d) h.big h.fit hbig,⟨fun e=>?_,?_⟩,h.kp.then k (fun i hi e=>?_),h.ne⟩
 ·rcases ho with ho|⟨g,hg,hge⟩
  ·exact h.ow.1 (ho▸e)
  ·rw[hg]at e;cases e;omega
 ·rcases ho with ho|⟨g,hg,hge⟩
  ·rw[ho];exact h.ow.2
  ·exact .inr ⟨g,hg,by have:=h.kp.size;omega⟩
 ·rcases e with rfl|e
  ·exact .inr (.inr (.inl rfl))
  ·rcases h.ow.2 with q|⟨g,hg,hge⟩
   ·exact .inr (.inr (.inr (q▸e)))
   ·rw[hg]at e;cases e;omega
theorem kD (T:List UInt8):∀{p q:Nat} {S:List (Nat×Nat)},Rf.Fits T p S q->p+S.length<=q
 | _,_,[],h=>Nat.le_of_eq h
 | p,q,s::r,h=>by
  have:=kD T h.2;have h1:1<=s.1:=by rcases h.1 with⟨_,b,_⟩|⟨b,_⟩<;>omega
  rw[List.length_cons];omega
theorem Oq (F M G Xs en per start end_:Nat)(T:ByteArray)(sv0:Value)(w:World)(hf:Fd w F M G en per T start)(hs:yD w Xs [] sv0)(hne:F<Xs/\M<Xs/\G<Xs)(hse:start<=end_)(hel:end_<=start+65535)(he:end_<=T.size)(hend:end_=min (start+65535) T.size)(hT:T.size<=4500000)(gU:0<T.size->1<=per)(Kg:per<=4500000): Calls Tryz.prog 180 #[.pointer (some ⟨F,0,none⟩),.int .i64 start,.int .i64 end_,.func (.func 181) #[] #[.pointer (some ⟨Xs,0,none⟩)]] w fun e w'=>e=.returned (.tuple #[])/\∃S sv,Fd w' F M G en per T end_/\yD w' Xs S sv/\(Rf.Fits T.data.toList start S end_/\Rf.A4 T.data.toList per (min (start+65535) T.size) start S)/\(sv.ownBlock=sv0.ownBlock\/∃g,sv.ownBlock=some g/\w.heap.size<=g)/\Kp (fun k=>k=M\/k=G\/k=Xs\/sv0.ownBlock=some k) w w':=by
 have hcall:=S9;have Xj:Hid (min (start+65535) T.size=end_):=hend.symm;clear hend;have wm:Hid (start<=end_/\end_<=T.size/\T.size<=4500000):=⟨hse,he,hT⟩
 have AZ:Hid ((0<T.size->1<=per)/\per<=4500000):=⟨gU,Kg⟩
 have QF:T.data.toList.length=T.size:=by rw[Array.length_toList];rfl
 go_enter Tryz.func180,Tryz.ntmps180
 go_wp2_with fail;refine (nP F M G en per start end_ T w hf hse he hT gU Kg).mono ?_;rintro e w1 ⟨l0,d0,rfl,Xk,hb1⟩;go_wp2;have k1:=ae w1 (.cells #[.int .i64 (l0:Nat),.int .i64 (d0:Nat)] 216);have x1:=ah w1 (.cells #[.int .i64 (l0:Nat),.int .i64 (d0:Nat)] 216);have B1:Below w.heap.size w (w1.alloc (.cells #[.int .i64 (l0:Nat),.int .i64 (d0:Nat)] 216)):=hb1.trans (k1.mono hb1.size);have hxl:=lt_of_block hs.box;have hw1:=hb1.size;obtain⟨H,hH⟩:∃H,w1.heap.size=H:=⟨_,rfl⟩
 rw[hH]at x1
 have WA:Walk w (w1.alloc (.cells #[.int .i64 (l0:Nat),.int .i64 (d0:Nat)] 216)) F M G Xs en per T start (start) (start) [] sv0 sv0 H :=
  ⟨hf.below B1,hs.below B1,rfl,trivial,⟨fun e=>by have:=(hs.lt H e).2;omega,.inl rfl⟩,Kp.aG B1,by omega⟩
 rw[hH];generalize w1.alloc (.cells #[.int .i64 (l0:Nat),.int .i64 (d0:Nat)] 216)=wA at *;clear hf hs hse he hT gU Kg hb1 k1 B1 hH
 go_loopw [8] (fun pv wr=>∃(p:Nat) (S:List (Nat×Nat)) (sv:Value) (l d:Nat),pv=.int .i64 p/\start<=p/\p<=end_/\Hid (Walk w wr F M G Xs en per T start (p) (p) S sv0 sv H)/\Hid (wr.heap[H]?=some (.cells #[.int .i64 (l:Nat),.int .i64 (d:Nat)] 216 (0,0)))/\Hid (jE T.data.toList per (p) (min (end_-(p)) 258) l d)) (fun pv _=>end_-(intOf pv).toNat)
 case atStart=>exact⟨start,[],sv0,l0,d0,rfl,Nat.le_refl _,wm.out.1,WA,x1,Xk⟩
 case round =>
  clear WA x1 Xk;obtain⟨p,S,sv,l,d,rfl,hsp,hpe,HW,HB,HO⟩:=hrel;by_cases hlt:p<end_
  ·have ag8:(p:Int)<(end_:Int):=by omega
   obtain⟨hst,ag9,hl1,ad6⟩:=Hl HO.out.1 hlt (by rw[QF];exact wm.out.2.1);have pD:Rf.tg T.data.toList p (1,0):=.inl ⟨rfl,rfl,by rw[QF];have:=wm.out;omega⟩;have YR:p+258<=5000000:=by have:=wm.out;omega
   go_wp2_with fail;refine (oL F M G en per p T wr HW.out.fd (by have:=wm.out;omega) wm.out.2.2).mono ?_;rintro e u1 ⟨rfl,fd1,kF⟩;have W1:=HW.out.rem kF fd1;have H1:u1.heap[H]?=some (.cells #[.int .i64 (l:Nat),.int .i64 (d:Nat)] 216 (0,0)):=gb HB.out kF (fun e=>by have:=HW.out.ne;omega);have HBG:Hid (Rf.Big T.data.toList per (min (start+65535) T.size) p l):=by show Rf.Big _ _ _ _ _;rw[Xj.out];exact A5 HO.out
   clear HW HB fd1 kF;have k2:=ae u1 (.cells #[.int .i64 0,.int .i64 0] 216);have X2:=ah u1 (.cells #[.int .i64 0,.int .i64 0] 216);have W2:=W1.below k2;have H2:(u1.alloc (.cells #[.int .i64 0,.int .i64 0] 216)).heap[H]?=_:=(k2.block _ (lt_of_block H1)).trans H1;have Ta:H<u1.heap.size:=lt_of_block H1;have hX:sv.ownBlock≠some u1.heap.size:=fun e=>by have:=(W1.st.lt _ e).2;omega
   obtain⟨y0,y1,yf,yl⟩:=aL H1;clear W1 H1;by_cases h64:l<64
   ·have abl:(l:Int)<64:=by omega
    have Ev:=nP F M G en per (p+1) end_ T (u1.alloc (.cells #[.int .i64 0,.int .i64 0] 216)) W2.fd (by omega) wm.out.2.1 wm.out.2.2 AZ.out.1 AZ.out.2;rw[show ((p+1:Nat):Int)=(p:Int)+1 by omega]at Ev;go_wp2_with fail;refine Ev.mono ?_;rintro e u3 ⟨x1,x2,rfl,yC,hb3⟩;have W3:=W2.below hb3;have H3:u3.heap[H]?=some (.cells #[.int .i64 (l:Nat),.int .i64 (d:Nat)] 216 (0,0)):=(hb3.block _ (lt_of_block H2)).trans H2;have X3:=(hb3.block _ (lt_of_block X2)).trans X2;obtain⟨X,TQ⟩:∃X,u1.heap.size=X:=⟨_,rfl⟩
    rw[TQ]at Ta hX X3;have rW:H≠X:=by omega
    have WU:=W3.set2 X (.inr ⟨Ta,hX⟩) (.int .i64 (x1:Nat)) (.int .i64 (x2:Nat));have HU:((u3.setCell ⟨X,0,none⟩ (.int .i64 (x1:Nat))).setCell ⟨X,1,none⟩ (.int .i64 (x2:Nat))).heap[H]?=some (.cells #[.int .i64 (l:Nat),.int .i64 (d:Nat)] 216 (0,0)):=(Below.heap_setCell _ ⟨X,1,none⟩ _ _ rW).trans ((Below.heap_setCell _ ⟨X,0,none⟩ _ _ rW).trans H3);have XU:=fZ X3 (.int .i64 (x1:Nat)) (.int .i64 (x2:Nat));have ma:Hid (jE T.data.toList per (p+1) (min (end_-(p+1)) 258) x1 x2):=yC;have abm:Hid (l<x1->Rf.Big T.data.toList per (min (start+65535) T.size) p 1):=fun h=>by rw[Xj.out];exact Hm HO.out yC h
    clear y0 y1 yf yl;obtain⟨y0,y1,yf,yl⟩:=aL H3;obtain⟨v0,v1,vf,vl⟩:=aL X3;rw[TQ];clear W2 H2 X2 k2 W3 H3 X3 Ev yC hb3;by_cases h21:l<x1
    ·have abn:(x1:Int)>(l:Int):=by omega
     have WV:=WU.set2 H (.inl rfl) (.int .i64 1) (.int .i64 0);have HV:=fZ HU (.int .i64 1) (.int .i64 0);have XV:=(Below.heap_setCell _ ⟨H,1,none⟩ (.int .i64 0) X (Ne.symm rW)).trans ((Below.heap_setCell _ ⟨H,0,none⟩ (.int .i64 1) X (Ne.symm rW)).trans XU);go_wp2_with fail;clear WU HU XU;generalize ((((u3.setCell ⟨X,0,none⟩ (.int .i64 (x1:Nat))).setCell ⟨X,1,none⟩ (.int .i64 (x2:Nat))).setCell ⟨H,0,none⟩ (.int .i64 1)).setCell ⟨H,1,none⟩ (.int .i64 0))=u5 at *;clear y0 y1 yf yl v0 v1 vf vl;have WU:=WV;have HU:u5.heap[H]?=some (.cells #[.int .i64 (1:Nat),.int .i64 (0:Nat)] 216 (0,0)):=HV;have XU:u5.heap[X]?=some (.cells #[.int .i64 (x1:Nat),.int .i64 (x2:Nat)] 216 (0,0)):=XV;clear WV HV XV;have Dw:=lt_of_block HU;refine (yF Xs (1) (0) S sv u5 WU.st (by have:=kD _ WU.fit;omega)).mono ?_;rintro e u6 ⟨rfl,rX,hs6,yM,og⟩;have W6:Walk w u6 F M G Xs en per T start (p+1) (p+1) (S++[(1,0)]) sv0 rX H:=WU.push hs6 yM og pD (abm.out h21) Dw;have H6:u6.heap[H]?=some (.cells #[.int .i64 (1:Nat),.int .i64 (0:Nat)] 216 (0,0)):=gb HU og (fun e=>by rcases e with e|e;(have:=WU.ne;omega);exact WU.ow.1 e);have X6:u6.heap[X]?=some (.cells #[.int .i64 (x1:Nat),.int .i64 (x2:Nat)] 216 (0,0)):=gb XU og (fun e=>by rcases e with e|e;(have:=WU.ne;omega);exact hX e);have Xl:H<X/\rX.ownBlock≠some X:=⟨Ta,fun e=>by rcases yM with q|⟨g,q1,q2⟩;exact hX (q▸e);(rw[q1]at e;cases e;have:=lt_of_block XU;omega)⟩
     clear hs6 yM og;obtain⟨y0,y1,yf,yl⟩:=aL H6;obtain⟨v0,v1,vf,vl⟩:=aL X6;have HW:Hid (Walk w ((u6.setCell ⟨H,0,none⟩ (.int .i64 (x1:Nat))).setCell ⟨H,1,none⟩ (.int .i64 (x2:Nat))) F M G Xs en per T start (p+1) (p+1) (S++[(1,0)]) sv0 rX H):=W6.set2 H (.inl rfl) _ _;have Tc:Hid (((u6.setCell ⟨H,0,none⟩ (.int .i64 (x1:Nat))).setCell ⟨H,1,none⟩ (.int .i64 (x2:Nat))).heap[H]?=some (.cells #[.int .i64 (x1:Nat),.int .i64 (x2:Nat)] 216 (0,0))):=fZ H6 _ _;clear W6 H6 X6 WU HU XU hcall;go_wp2
     go_loopw [11] (fun iv wq=>iv=.int .i64 1/\wq=u6) (fun _ _=>0)
     case atStart=>exact⟨rfl,rfl⟩
     case round =>
      obtain⟨rfl,hwq⟩:=hrel;subst hwq;go_wp2
      go_roundw
      case rel=>exact⟨p+1,S++[(1,0)],rX,x1,x2,by go_num,by omega,by omega,HW,Tc,ma⟩
      case measure=>simp[intOf];omega
    ·have abn:¬(x1:Int)>(l:Int):=by omega
     go_wp2_with fail;generalize (u3.setCell ⟨X,0,none⟩ (.int .i64 (x1:Nat))).setCell ⟨X,1,none⟩ (.int .i64 (x2:Nat))=u5 at *;clear y0 y1 yf yl v0 v1 vf vl;by_cases abp:l=1
     ·subst abp;have Dw:=lt_of_block HU;refine (yF Xs (1) (d) S sv u5 WU.st (by have:=kD _ WU.fit;omega)).mono ?_;rintro e u6 ⟨rfl,rX,hs6,yM,og⟩;have W6:Walk w u6 F M G Xs en per T start (p+1) (p+1) (S++[(1,d)]) sv0 rX H:=WU.push hs6 yM og hst HBG.out Dw;have H6:u6.heap[H]?=some (.cells #[.int .i64 (1:Nat),.int .i64 (d:Nat)] 216 (0,0)):=gb HU og (fun e=>by rcases e with e|e;(have:=WU.ne;omega);exact WU.ow.1 e);have X6:u6.heap[X]?=some (.cells #[.int .i64 (x1:Nat),.int .i64 (x2:Nat)] 216 (0,0)):=gb XU og (fun e=>by rcases e with e|e;(have:=WU.ne;omega);exact hX e);have Xl:H<X/\rX.ownBlock≠some X:=⟨Ta,fun e=>by rcases yM with q|⟨g,q1,q2⟩;exact hX (q▸e);(rw[q1]at e;cases e;have:=lt_of_block XU;omega)⟩
      clear hs6 yM og;obtain⟨y0,y1,yf,yl⟩:=aL H6;obtain⟨v0,v1,vf,vl⟩:=aL X6;have HW:Hid (Walk w ((u6.setCell ⟨H,0,none⟩ (.int .i64 (x1:Nat))).setCell ⟨H,1,none⟩ (.int .i64 (x2:Nat))) F M G Xs en per T start (p+1) (p+1) (S++[(1,d)]) sv0 rX H):=W6.set2 H (.inl rfl) _ _;have Tc:Hid (((u6.setCell ⟨H,0,none⟩ (.int .i64 (x1:Nat))).setCell ⟨H,1,none⟩ (.int .i64 (x2:Nat))).heap[H]?=some (.cells #[.int .i64 (x1:Nat),.int .i64 (x2:Nat)] 216 (0,0))):=fZ H6 _ _;clear W6 H6 X6 WU HU XU hcall;go_wp2
      go_loopw [11] (fun iv wq=>iv=.int .i64 1/\wq=u6) (fun _ _=>0)
      case atStart=>exact⟨rfl,rfl⟩
      case round =>
       obtain⟨rfl,hwq⟩:=hrel;subst hwq;go_wp2
       go_roundw
       case rel=>exact⟨p+1,S++[(1,d)],rX,x1,x2,by go_num,by omega,by omega,HW,Tc,ma⟩
       case measure=>simp[intOf];omega
     ·clear ma;have Dw:=lt_of_block HU;refine (yF Xs (l) (d) S sv u5 WU.st (by have:=kD _ WU.fit;omega)).mono ?_;rintro e u6 ⟨rfl,rX,hs6,yM,og⟩;have W6:Walk w u6 F M G Xs en per T start (p+1) (p+l) (S++[(l,d)]) sv0 rX H:=WU.push hs6 yM og hst HBG.out Dw;have H6:u6.heap[H]?=some (.cells #[.int .i64 (l:Nat),.int .i64 (d:Nat)] 216 (0,0)):=gb HU og (fun e=>by rcases e with e|e;(have:=WU.ne;omega);exact WU.ow.1 e);have X6:u6.heap[X]?=some (.cells #[.int .i64 (x1:Nat),.int .i64 (x2:Nat)] 216 (0,0)):=gb XU og (fun e=>by rcases e with e|e;(have:=WU.ne;omega);exact hX e);have Xl:H<X/\rX.ownBlock≠some X:=⟨Ta,fun e=>by rcases yM with q|⟨g,q1,q2⟩;exact hX (q▸e);(rw[q1]at e;cases e;have:=lt_of_block XU;omega)⟩
      clear hs6 yM og;obtain⟨S6,yK⟩:∃S6,S++[(l,d)]=S6:=⟨_,rfl⟩
      rw[yK]at W6;obtain⟨y0,y1,yf,yl⟩:=aL H6;have Gw:(1:Int)<(l:Int):=by omega
      have nO:Hid (Walk w u6 F M G Xs en per T start (p+1) (p+l) S6 sv0 rX H):=W6;have rY:Hid (u6.heap[H]?=some (.cells #[.int .i64 (l:Nat),.int .i64 (d:Nat)] 216 (0,0))):=H6;have wT:Hid (u6.heap[X]?=some (.cells #[.int .i64 (x1:Nat),.int .i64 (x2:Nat)] 216 (0,0))):=X6;clear WU HU XU W6 H6 X6 yK;go_wp2
      go_loopw [11] (fun iv wq=>∃i:Nat,1<=i/\i<=l/\iv=.int .i64 i/\Hid (Walk w wq F M G Xs en per T start (p+i) (p+l) S6 sv0 rX H)/\Hid (wq.heap[H]?=some (.cells #[.int .i64 (l:Nat),.int .i64 (d:Nat)] 216 (0,0)))/\Hid (wq.heap[X]?=some (.cells #[.int .i64 (x1:Nat),.int .i64 (x2:Nat)] 216 (0,0)))) (fun iv _=>l-(intOf iv).toNat)
      case atStart=>exact⟨1,Nat.le_refl _,by omega,rfl,nO,rY,wT⟩
      case round =>
       clear nO rY wT y0 y1 yf yl;obtain⟨i,hi1,hil,rfl,nO,rY,wT⟩:=hrel;obtain⟨y0,y1,yf,yl⟩:=aL rY.out;by_cases hlt2:i<l
       ·have hilt:(i:Int)<(l:Int):=by omega
        have hrm:=oL F M G en per (p+i) T _ nO.out.fd (by have:=wm.out;omega) wm.out.2.2;rw[show ((p+i:Nat):Int)=(p:Int)+(i:Int) by omega]at hrm;go_wp2_with fail;refine hrm.mono ?_;rintro e u7 ⟨rfl,Xn,Bq⟩;have WL:Hid (Walk w u7 F M G Xs en per T start (p+(i+1)) (p+l) S6 sv0 rX H):=nO.out.rem Bq Xn;have HH7:Hid (u7.heap[H]?=some (.cells #[.int .i64 (l:Nat),.int .i64 (d:Nat)] 216 (0,0))):=gb rY.out Bq (fun e=>by have:=nO.out.ne;omega);have HX7:Hid (u7.heap[X]?=some (.cells #[.int .i64 (x1:Nat),.int .i64 (x2:Nat)] 216 (0,0))):=gb wT.out Bq (fun e=>by have:=nO.out.ne;omega);clear hrm Xn Bq nO rY wT y0 y1 yf yl;go_wp2
        go_roundw
        case rel=>exact⟨i+1,by omega,by omega,by go_num,WL,HH7,HX7⟩
        case measure=>simp[intOf];omega
       ·have Td:i=l:=by omega
        subst Td;have Ev:=nP F M G en per (p+i) end_ T _ nO.out.fd (by omega) wm.out.2.1 wm.out.2.2 AZ.out.1 AZ.out.2;rw[show ((p+i:Nat):Int)=(p:Int)+(i:Int) by omega]at Ev;have abs:(i:Int)>1:=by omega
        go_wp2_with fail;refine Ev.mono ?_;rintro e u7 ⟨l3,d3,rfl,LG,CL⟩;have W7:=nO.out.below CL;have H7:u7.heap[H]?=some (.cells #[.int .i64 (i:Nat),.int .i64 (d:Nat)] 216 (0,0)):=(CL.block _ (lt_of_block rY.out)).trans rY.out;have X7:u7.heap[X]?=some (.cells #[.int .i64 (x1:Nat),.int .i64 (x2:Nat)] 216 (0,0)):=(CL.block _ (lt_of_block wT.out)).trans wT.out;obtain⟨g0,g1,gf,gl⟩:=aL H7;obtain⟨v0,v1,vf,vl⟩:=aL X7;have rW:H≠X:=by omega
        have HW:Hid (Walk w ((((u7.setCell ⟨X,0,none⟩ (.int .i64 (l3:Nat))).setCell ⟨X,1,none⟩ (.int .i64 (d3:Nat))).setCell ⟨H,0,none⟩ (.int .i64 (l3:Nat))).setCell ⟨H,1,none⟩ (.int .i64 (d3:Nat))) F M G Xs en per T start (p+i) (p+i) S6 sv0 rX H):=(W7.set2 X (.inr Xl) _ _).set2 H (.inl rfl) _ _;have Tc:Hid (((((u7.setCell ⟨X,0,none⟩ (.int .i64 (l3:Nat))).setCell ⟨X,1,none⟩ (.int .i64 (d3:Nat))).setCell ⟨H,0,none⟩ (.int .i64 (l3:Nat))).setCell ⟨H,1,none⟩ (.int .i64 (d3:Nat))).heap[H]?=some (.cells #[.int .i64 (l3:Nat),.int .i64 (d3:Nat)] 216 (0,0))):=fZ ((Below.heap_setCell _ ⟨X,1,none⟩ _ _ rW).trans ((Below.heap_setCell _ ⟨X,0,none⟩ _ _ rW).trans H7)) _ _;have Te:Hid (jE T.data.toList per (p+i) (min (end_-(p+i)) 258) l3 d3):=LG;clear Ev LG CL W7 H7 X7 nO rY wT y0 y1 yf yl hcall;go_wp2
        go_roundw
        case rel=>exact⟨p+i,S6,rX,l3,d3,by go_num,by omega,by omega,HW,Tc,Te⟩
        case measure=>simp[intOf];omega
   ·have abl:¬(l:Int)<64:=by omega
    obtain⟨v0,v1,vf,vl⟩:=aL X2;have On:¬(0:Int)>(l:Int):=by omega
    have rW:H≠u1.heap.size:=by omega
    go_wp2_with fail;generalize hu5:u1.alloc (.cells #[.int .i64 0,.int .i64 0] 216)=u5 at *;obtain⟨X,TQ⟩:∃X,u1.heap.size=X:=⟨_,rfl⟩
    rw[TQ]at Ta hX X2 rW ⊢;obtain⟨x1,x2,XU⟩:∃x1 x2:Nat,u5.heap[X]?=some (.cells #[.int .i64 (x1:Nat),.int .i64 (x2:Nat)] 216 (0,0)):=⟨0,0,X2⟩
    have WU:=W2;have HU:u5.heap[H]?=some (.cells #[.int .i64 (l:Nat),.int .i64 (d:Nat)] 216 (0,0)):=H2;clear W2 H2 X2 k2 y0 y1 yf yl v0 v1 vf vl hu5 TQ;have Dw:=lt_of_block HU;refine (yF Xs (l) (d) S sv u5 WU.st (by have:=kD _ WU.fit;omega)).mono ?_;rintro e u6 ⟨rfl,rX,hs6,yM,og⟩;have W6:Walk w u6 F M G Xs en per T start (p+1) (p+l) (S++[(l,d)]) sv0 rX H:=WU.push hs6 yM og hst HBG.out Dw;have H6:u6.heap[H]?=some (.cells #[.int .i64 (l:Nat),.int .i64 (d:Nat)] 216 (0,0)):=gb HU og (fun e=>by rcases e with e|e;(have:=WU.ne;omega);exact WU.ow.1 e);have X6:u6.heap[X]?=some (.cells #[.int .i64 (x1:Nat),.int .i64 (x2:Nat)] 216 (0,0)):=gb XU og (fun e=>by rcases e with e|e;(have:=WU.ne;omega);exact hX e);have Xl:H<X/\rX.ownBlock≠some X:=⟨Ta,fun e=>by rcases yM with q|⟨g,q1,q2⟩;exact hX (q▸e);(rw[q1]at e;cases e;have:=lt_of_block XU;omega)⟩
    clear hs6 yM og;obtain⟨S6,yK⟩:∃S6,S++[(l,d)]=S6:=⟨_,rfl⟩
    rw[yK]at W6;obtain⟨y0,y1,yf,yl⟩:=aL H6;have Gw:(1:Int)<(l:Int):=by omega
    have nO:Hid (Walk w u6 F M G Xs en per T start (p+1) (p+l) S6 sv0 rX H):=W6;have rY:Hid (u6.heap[H]?=some (.cells #[.int .i64 (l:Nat),.int .i64 (d:Nat)] 216 (0,0))):=H6;have wT:Hid (u6.heap[X]?=some (.cells #[.int .i64 (x1:Nat),.int .i64 (x2:Nat)] 216 (0,0))):=X6;clear WU HU XU W6 H6 X6 yK;go_wp2
    go_loopw [11] (fun iv wq=>∃i:Nat,1<=i/\i<=l/\iv=.int .i64 i/\Hid (Walk w wq F M G Xs en per T start (p+i) (p+l) S6 sv0 rX H)/\Hid (wq.heap[H]?=some (.cells #[.int .i64 (l:Nat),.int .i64 (d:Nat)] 216 (0,0)))/\Hid (wq.heap[X]?=some (.cells #[.int .i64 (x1:Nat),.int .i64 (x2:Nat)] 216 (0,0)))) (fun iv _=>l-(intOf iv).toNat)
    case atStart=>exact⟨1,Nat.le_refl _,by omega,rfl,nO,rY,wT⟩
    case round =>
     clear nO rY wT y0 y1 yf yl;obtain⟨i,hi1,hil,rfl,nO,rY,wT⟩:=hrel;obtain⟨y0,y1,yf,yl⟩:=aL rY.out;by_cases hlt2:i<l
     ·have hilt:(i:Int)<(l:Int):=by omega
      have hrm:=oL F M G en per (p+i) T _ nO.out.fd (by have:=wm.out;omega) wm.out.2.2;rw[show ((p+i:Nat):Int)=(p:Int)+(i:Int) by omega]at hrm;go_wp2_with fail;refine hrm.mono ?_;rintro e u7 ⟨rfl,Xn,Bq⟩;have WL:Hid (Walk w u7 F M G Xs en per T start (p+(i+1)) (p+l) S6 sv0 rX H):=nO.out.rem Bq Xn;have HH7:Hid (u7.heap[H]?=some (.cells #[.int .i64 (l:Nat),.int .i64 (d:Nat)] 216 (0,0))):=gb rY.out Bq (fun e=>by have:=nO.out.ne;omega);have HX7:Hid (u7.heap[X]?=some (.cells #[.int .i64 (x1:Nat),.int .i64 (x2:Nat)] 216 (0,0))):=gb wT.out Bq (fun e=>by have:=nO.out.ne;omega);clear hrm Xn Bq nO rY wT y0 y1 yf yl;go_wp2
      go_roundw
      case rel=>exact⟨i+1,by omega,by omega,by go_num,WL,HH7,HX7⟩
      case measure=>simp[intOf];omega
     ·have Td:i=l:=by omega
      subst Td;have Ev:=nP F M G en per (p+i) end_ T _ nO.out.fd (by omega) wm.out.2.1 wm.out.2.2 AZ.out.1 AZ.out.2;rw[show ((p+i:Nat):Int)=(p:Int)+(i:Int) by omega]at Ev;have abs:(i:Int)>1:=by omega
      go_wp2_with fail;refine Ev.mono ?_;rintro e u7 ⟨l3,d3,rfl,LG,CL⟩;have W7:=nO.out.below CL;have H7:u7.heap[H]?=some (.cells #[.int .i64 (i:Nat),.int .i64 (d:Nat)] 216 (0,0)):=(CL.block _ (lt_of_block rY.out)).trans rY.out;have X7:u7.heap[X]?=some (.cells #[.int .i64 (x1:Nat),.int .i64 (x2:Nat)] 216 (0,0)):=(CL.block _ (lt_of_block wT.out)).trans wT.out;obtain⟨g0,g1,gf,gl⟩:=aL H7;obtain⟨v0,v1,vf,vl⟩:=aL X7;have rW:H≠X:=by omega
      have HW:Hid (Walk w ((((u7.setCell ⟨X,0,none⟩ (.int .i64 (l3:Nat))).setCell ⟨X,1,none⟩ (.int .i64 (d3:Nat))).setCell ⟨H,0,none⟩ (.int .i64 (l3:Nat))).setCell ⟨H,1,none⟩ (.int .i64 (d3:Nat))) F M G Xs en per T start (p+i) (p+i) S6 sv0 rX H):=(W7.set2 X (.inr Xl) _ _).set2 H (.inl rfl) _ _;have Tc:Hid (((((u7.setCell ⟨X,0,none⟩ (.int .i64 (l3:Nat))).setCell ⟨X,1,none⟩ (.int .i64 (d3:Nat))).setCell ⟨H,0,none⟩ (.int .i64 (l3:Nat))).setCell ⟨H,1,none⟩ (.int .i64 (d3:Nat))).heap[H]?=some (.cells #[.int .i64 (l3:Nat),.int .i64 (d3:Nat)] 216 (0,0))):=fZ ((Below.heap_setCell _ ⟨X,1,none⟩ _ _ rW).trans ((Below.heap_setCell _ ⟨X,0,none⟩ _ _ rW).trans H7)) _ _;have Te:Hid (jE T.data.toList per (p+i) (min (end_-(p+i)) 258) l3 d3):=LG;clear Ev LG CL W7 H7 X7 nO rY wT y0 y1 yf yl hcall;go_wp2
      go_roundw
      case rel=>exact⟨p+i,S6,rX,l3,d3,by go_num,by omega,by omega,HW,Tc,Te⟩
      case measure=>simp[intOf];omega
  ·have hp:p=end_:=by omega
   subst hp;go_wp2
   go_end0
   exact⟨rfl,S,sv,HW.out.fd,HW.out.st,⟨HW.out.fit,HW.out.big⟩,HW.out.ow.2,HW.out.kp⟩
end Go.Proofs.YtmfijackgekioaaGreatDoor
namespace Go.Proofs.YtmfijackgekioaaGreatDoor.Rf
def Bd (T:List UInt8)(i k:Nat):Prop:=k<i/\∀j,j<k->T.getD j 0=T.getD (i-k+j) 0
def E5 (T:List UInt8)(i k:Nat):Prop:=Bd T i k/\∀k',Bd T i k'->k'<=k
def vu (T:List UInt8)(i b:Nat):Prop:=Bd T i b/\∀k,Bd T i k->T.getD k 0=T.getD i 0->k<=b
theorem E6 (T:List UInt8):E5 T 1 0:=⟨⟨by omega,fun j hj=>by omega⟩,fun k hk=>by have:=hk.1;omega⟩
theorem Ot {T:List UInt8}{i k k':Nat}(h:Bd T i k)(h':Bd T i k')(hlt:k'<k):Bd T k k':=by
 refine⟨hlt,fun j hj=>?_⟩;have a:=h'.2 j hj;have b:=h.2 (k-k'+j) (by omega);have:=h.1;rw[a,b,show i-k+(k-k'+j)=i-k'+j by omega]
theorem Xo {T:List UInt8}{i k k':Nat}(h:Bd T i k)(h':Bd T k k'):Bd T i k':=by
 have h1:=h.1;have h2:=h'.1;refine⟨by omega,fun j hj=>?_⟩;rw[h'.2 j hj,h.2 (k-k'+j) (by omega),show i-k+(k-k'+j)=i-k'+j by omega]
theorem Ou {T:List UInt8}{i k:Nat}(h:Bd T i k)(he:T.getD k 0=T.getD i 0):Bd T (i+1) (k+1):=by
 have h1:=h.1;refine⟨by omega,fun j hj=>?_⟩;rw[show i+1-(k+1)+j=i-k+j by omega];by_cases e:j=k
 ·rw[e,he,show i-k+k=i by omega]
 ·exact h.2 j (by omega)
theorem E7 {T:List UInt8}{i k:Nat}(h:Bd T (i+1) (k+1)):Bd T i k/\T.getD k 0=T.getD i 0:=by
 have h1:=h.1;refine⟨⟨by omega,fun j hj=>?_⟩,?_⟩
 ·have:=h.2 j (by omega)
  rwa [show i+1-(k+1)+j=i-k+j by omega]at this
 ·have:=h.2 k (by omega)
  rwa [show i+1-(k+1)+k=i by omega]at this
theorem E5.abt {T:List UInt8}{i b:Nat}(h:E5 T i b):vu T i b:=⟨h.1,fun k hk _=>h.2 k hk⟩
theorem vu.next {T:List UInt8}{i b c:Nat}(h:vu T i b)(hne:T.getD b 0≠T.getD i 0)(hc:E5 T b c):vu T i c:=by
 refine⟨Xo h.1 hc.1,fun k hk he=>?_⟩;have:=h.2 k hk he;have hn:k≠b:=fun e=>hne (e▸he);exact hc.2 k (Ot h.1 hk (by omega))
theorem vu.hit {T:List UInt8}{i b:Nat}(h:vu T i b)(he:T.getD b 0=T.getD i 0):E5 T (i+1) (b+1):=by
 refine⟨Ou h.1 he,fun k hk=>?_⟩;cases k with
 | zero=>omega
 | succ k =>
  obtain⟨h1,h2⟩:=E7 hk;have:=h.2 k h1 h2;omega
theorem vu.miss {T:List UInt8}{i:Nat}(h:vu T i 0)(hne:T.getD 0 0≠T.getD i 0):E5 T (i+1) 0:=by
 refine⟨⟨by omega,fun j hj=>by omega⟩,fun k hk=>?_⟩;cases k with
 | zero=>omega
 | succ k =>
  obtain⟨h1,h2⟩:=E7 hk;have:=h.2 k h1 h2;have:k=0:=by omega
  subst this;exact absurd h2 hne
def Hn (T:List UInt8)(q:Nat):Prop:=∀i,i+q<T.length->T.getD i 0=T.getD (i+q) 0
def uH (T:List UInt8)(per:Nat):Prop:=Hn T per/\∀q,1<=q->Hn T q->per<=q
theorem Tf {T:List UInt8}{q:Nat}(h:Hn T q)(h1:1<=q)(h2:q<=T.length):Bd T T.length (T.length-q) :=
 ⟨by omega,fun j hj=>by rw[h j (by omega),show T.length-(T.length-q)+j=j+q by omega]⟩
theorem Tg {T:List UInt8}{b:Nat}(h:Bd T T.length b):Hn T (T.length-b):=by
 intro i hi;have h1:=h.1;rw[h.2 i (by omega),show T.length-b+i=i+(T.length-b) by omega]
theorem LH {T:List UInt8}{b:Nat}(h:E5 T T.length b):uH T (T.length-b):=by
 refine⟨Tg h.1,fun q h1 hq=>?_⟩;by_cases h2:q<=T.length
 ·have:=h.2 _ (Tf hq h1 h2);omega
 ·omega
theorem Ho {T:List UInt8}(h:T.length=0):uH T 0:=⟨fun i hi=>by omega,fun q _ _=>Nat.zero_le _⟩
end Go.Proofs.YtmfijackgekioaaGreatDoor.Rf
namespace Go.Proofs.YtmfijackgekioaaGreatDoor
section
open Go.RowKit
theorem A6 (n:Nat)(hn:n<=100000)(Z:List Value)(hZ:Z=List.replicate n (.int .i64 0))(u:World): (Instr.makeSlice 24 (.int .i64 (n:Int)) (.int .i64 (n:Int))).run Tryz.prog u = .ok (.slice (some ⟨u.heap.size,0,none⟩) n n) (u.alloc (.cells Z.toArray 3)):=by
 obtain⟨i0,hi,hz0,hz1,hz2⟩:=info_parts Tryz.info3;have h:=run_make (P:=Tryz.prog) u 24 3 i0 (.int .i64 0) Tryz.underlying24 hi hz0 .i64 .i64 (n:Int) (n:Int) (by omega) (Int.le_refl _) (by rw[hz2];omega) (by omega)
 have e2:(madeCells #[Value.int .i64 0] n)=Z.toArray:=by
  rw[hZ,<-toList_madeCells_one]
 simpa[hz1,Value.cells,e2]using h
def Dx (T:List UInt8)(bs:List Int)(i:Nat):Prop:=∀m:Nat,1<=m->m<=i->∃b:Nat,bs.getD m 0=(b:Int)/\Rf.E5 T m b
theorem Dx.set {T:List UInt8}{bs:List Int}{i:Nat}(h:Dx T bs i)(b:Nat)(hb:Rf.E5 T (i+1) b)(hl:i+1<bs.length):Dx T (bs.set (i+1) (b:Int)) (i+1):=fun m h1 h2=>by
 by_cases e:m=i+1
 ·subst e;exact⟨b,by rw[List.getD_eq_getElem?_getD,List.getElem?_set];simp[hl],hb⟩
 ·obtain⟨c,hc,hm⟩:=h m h1 (by omega);refine⟨c,?_,hm⟩;rw[<-hc,List.getD_eq_getElem?_getD,List.getD_eq_getElem?_getD,List.getElem?_set_ne (by omega)]
def A7 (bs:List Int):Prop:=∀j:Nat,0<=bs.getD j 0/\(1<=j->bs.getD j 0<(j:Int))
theorem Hp (n:Nat):A7 (List.replicate n 0):=fun j=>by
 have:(List.replicate n (0:Int)).getD j 0=0:=by
  rw[List.getD_eq_getElem?_getD,List.getElem?_replicate];split<;>rfl
 omega
theorem A7.set {bs:List Int}(h:A7 bs)(i:Nat)(x:Int)(h0:0<=x)(h1:x<(i:Int)):A7 (bs.set i x):=fun j=>by
 have:=h j;rw[List.getD_eq_getElem?_getD]at this ⊢;rw[List.getElem?_set];split
 ·split
  ·simp only[Option.getD_some];omega
  ·simp;omega
 ·omega
theorem LJ (U:ByteArray)(w:World)(hU:U.size<=65536): Calls Tryz.prog 203 #[.string U] w fun e w'=>∃per:Nat,e=.returned (.int .i64 per)/\(0<U.size->1<=per)/\per<=U.size/\Rf.uH U.data.toList per/\Below w.heap.size w w':=by
 obtain⟨n,hn⟩:∃n,U.size=n:=⟨_,rfl⟩
 obtain⟨n1,hn1⟩:∃n1,n+1=n1:=⟨_,rfl⟩
 obtain⟨Z,hZ⟩:∃Z:List Value,Z=List.replicate n1 (.int .i64 0):=⟨_,rfl⟩
 have hmk:∀u:World,(Instr.makeSlice 24 (.int .i64 (n1:Int)) (.int .i64 (n1:Int))).run Tryz.prog u=.ok (.slice (some ⟨u.heap.size,0,none⟩) n1 n1) (u.alloc (.cells Z.toArray 3)):=fun u=>A6 n1 (by omega) Z hZ u;have HZ:Hid (Z=vals (List.replicate n1 0)):=by show _=_;rw[hZ,bC]
 have hwn:IntKind.i64.wrap ((n:Int)+1)=(n1:Int):=(IntWalk.i64_in _ (by omega)).trans (by omega);have idx:=fun (j:Nat) (h:j<n) (u:World)=>xj U j (by omega) (j:Int) rfl u;have IDX:Hid (∀(j:Nat) (_:j<n) (u:World),(Instr.index 9 (.string U) (.int .i64 (j:Int))).run Tryz.prog u=.ok (.int .u8 ((U.data.toList.getD j 0).toNat:Nat)) u):=idx;have HUL:Hid (U.data.toList.length=n):=by show _=_;rw[Array.length_toList];exact hn
 have EQ:Hid (∀i j:Nat,(U.data.toList.getD i 0).toNat=(U.data.toList.getD j 0).toNat->U.data.toList.getD j 0=U.data.toList.getD i 0):=fun i j h=>(UInt8.toNat_inj.1 h).symm;have NE:Hid (∀i j:Nat,¬(U.data.toList.getD i 0).toNat=(U.data.toList.getD j 0).toNat->U.data.toList.getD j 0≠U.data.toList.getD i 0):=fun i j h e=>h (by rw[e]);clear hZ idx;rw[hn]
 go_enter Tryz.func203,Tryz.ntmps203
 go_wp2
 go_loopw [4,5] (fun bv iv wr=>∃(b i:Nat) (bs:List Int),bv=.int .i64 b/\iv=.int .i64 i/\1<=i/\b<i/\(i<=n\/i=1)/\bs.length=n1/\Hid (A7 bs/\Dx U.data.toList bs i/\Rf.E5 U.data.toList i b)/\Hid (aP wr w.heap.size bs)/\Below w.heap.size w wr) (fun _ iv _=>n-(intOf iv).toNat)
 case atStart =>
  refine⟨0,1,List.replicate n1 0,rfl,rfl,Nat.le_refl _,by omega,.inr rfl,by simp,⟨Hp _,fun m h1 h2=>⟨0,by rw[List.getD_eq_getElem?_getD,List.getElem?_replicate];split<;>rfl,by rw[show m=1 by omega];exact Rf.E6 _⟩,Rf.E6 _⟩,?_,ae _ _⟩;show _=_;rw[<-HZ.out];exact ah w _
 case round =>
  obtain⟨b,i,bs,rfl,rfl,hi1,hbi,hin,hbl,HB,HL,hbe⟩:=hrel;by_cases hlt:i<n
  ·have Gx:(i:Int)<(n:Int):=by omega
   have ix:=IDX.out i hlt;have EQi:=EQ.out i;have NEi:=NE.out i;generalize (U.data.toList.getD i 0).toNat=x at *;have EQI:Hid (∀j:Nat,x=(U.data.toList.getD j 0).toNat->U.data.toList.getD j 0=U.data.toList.getD i 0):=EQi;have NEI:Hid (∀j:Nat,¬x=(U.data.toList.getD j 0).toNat->U.data.toList.getD j 0≠U.data.toList.getD i 0):=NEi;clear EQi NEi;go_wp2
   go_loopw [4] (fun bv wq=>∃b:Nat,bv=.int .i64 b/\b<i/\Hid (Rf.vu U.data.toList i b)/\Hid (aP wq w.heap.size bs)/\Below w.heap.size w wq) (fun bv _=>(intOf bv).toNat)
   case atStart=>exact⟨b,rfl,hbi,HB.out.2.2.abt,HL,hbe⟩
   case round =>
    clear HL hbe hbi;obtain⟨b,rfl,hbi,Um,HL,hbe⟩:=hrel;have iy:=IDX.out b (by omega);have EQb:=EQI.out b;have NEb:=NEI.out b;generalize (U.data.toList.getD b 0).toNat=y at *;have YS:Hid (x=y->U.data.toList.getD b 0=U.data.toList.getD i 0):=EQb;have NEB:Hid (¬x=y->U.data.toList.getD b 0≠U.data.toList.getD i 0):=NEb;clear EQb NEb;by_cases hb0:0<b
    ·have hbd:decide ((b:Int)>0)=true:=by simp;omega
     by_cases hxy:x=y
     ·have hxe:((x:Int) != (y:Int))=false:=by simp[hxy]
      have hxq:((x:Int)==(y:Int))=true:=by simp[hxy]
      have ci:=HL.out.at_ (i+1) (by omega);have fzL:∀j,wr.frozen? ⟨w.heap.size,j,none⟩=false:=fun j=>frozen_of_row wr w.heap.size j _ _ HL.out;have hlL:w.heap.size<wr.heap.size:=lt_of_block HL.out;have HB2:Hid (A7 (bs.set (i+1) ((b:Int)+1))/\Dx U.data.toList (bs.set (i+1) ((b:Int)+1)) (i+1)/\Rf.E5 U.data.toList (i+1) (b+1)):=⟨HB.out.1.set (i+1) _ (by omega) (by omega),HB.out.2.1.set (b+1) (Um.out.hit (YS.out hxy)) (by omega),Um.out.hit (YS.out hxy)⟩
      have HS:∀m,Hid (aP ((wr.drewN m).setCell ⟨w.heap.size,i+1,none⟩ (.int .i64 ((b:Int)+1))) w.heap.size (bs.set (i+1) ((b:Int)+1))):=fun m=>aP.set (w:=wr.drewN m) HL.out (i+1) _;have Xq:Hid (∀m,Below w.heap.size w ((wr.drewN m).setCell ⟨w.heap.size,i+1,none⟩ (.int .i64 ((b:Int)+1)))):=fun m=>(below_drewN hbe m).setCell (p:=⟨w.heap.size,i+1,none⟩) (Nat.le_refl _) _;go_wp2
      go_quiet (fail)
      go_wp2
      go_quiet (fail)
      go_wp2
      go_roundw
      case rel=>exact⟨b+1,i+1,bs.set (i+1) ((b:Int)+1),by go_num,by go_num,by omega,by omega,by omega,by rw[List.length_set];exact hbl,HB2,HS _,Xq.out _⟩
      case measure=>simp[intOf];omega
     ·have hxe:((x:Int) != (y:Int))=true:=by simp;omega
      have hbb:=HB.out.1 b;have UH:=HB.out.2.1 b (by omega) (by omega);have cb:=HL.out.at_ b (by omega);obtain⟨b2,hb2⟩:∃b2:Nat,bs.getD b 0=(b2:Int):=⟨(bs.getD b 0).toNat,by omega⟩
      rw[hb2]at cb hbb UH
      have Zy:Hid (Rf.vu U.data.toList i b2):=by
       obtain⟨c,e,hm⟩:=UH;have:b2=c:=by omega
       subst this;exact Um.out.next (NEB.out hxy) hm
      clear UH;go_wp2
      go_quiet (fail)
      go_wp2
      go_roundw
      case rel=>exact⟨b2,rfl,by omega,Zy,HL,below_drewN hbe _⟩
      case measure=>simp[intOf];omega
    ·have hbd:decide ((b:Int)>0)=false:=by simp;omega
     by_cases hxy:x=y
     ·have hxq:((x:Int)==(y:Int))=true:=by simp[hxy]
      have ci:=HL.out.at_ (i+1) (by omega);have fzL:∀j,wr.frozen? ⟨w.heap.size,j,none⟩=false:=fun j=>frozen_of_row wr w.heap.size j _ _ HL.out;have hlL:w.heap.size<wr.heap.size:=lt_of_block HL.out;have HB2:Hid (A7 (bs.set (i+1) ((b:Int)+1))/\Dx U.data.toList (bs.set (i+1) ((b:Int)+1)) (i+1)/\Rf.E5 U.data.toList (i+1) (b+1)):=⟨HB.out.1.set (i+1) _ (by omega) (by omega),HB.out.2.1.set (b+1) (Um.out.hit (YS.out hxy)) (by omega),Um.out.hit (YS.out hxy)⟩
      have HS:∀m,Hid (aP ((wr.drewN m).setCell ⟨w.heap.size,i+1,none⟩ (.int .i64 ((b:Int)+1))) w.heap.size (bs.set (i+1) ((b:Int)+1))):=fun m=>aP.set (w:=wr.drewN m) HL.out (i+1) _;have Xq:Hid (∀m,Below w.heap.size w ((wr.drewN m).setCell ⟨w.heap.size,i+1,none⟩ (.int .i64 ((b:Int)+1)))):=fun m=>(below_drewN hbe m).setCell (p:=⟨w.heap.size,i+1,none⟩) (Nat.le_refl _) _;go_wp2
      go_quiet (fail)
      go_wp2
      go_quiet (fail)
      go_wp2
      go_roundw
      case rel=>exact⟨b+1,i+1,bs.set (i+1) ((b:Int)+1),by go_num,by go_num,by omega,by omega,by omega,by rw[List.length_set];exact hbl,HB2,HS _,Xq.out _⟩
      case measure=>simp[intOf];omega
     ·have hxq:((x:Int)==(y:Int))=false:=by simp;omega
      have ci:=HL.out.at_ (i+1) (by omega);have fzL:∀j,wr.frozen? ⟨w.heap.size,j,none⟩=false:=fun j=>frozen_of_row wr w.heap.size j _ _ HL.out;have hlL:w.heap.size<wr.heap.size:=lt_of_block HL.out;have Xr:b=0:=by omega
      have HB2:Hid (A7 (bs.set (i+1) (b:Int))/\Dx U.data.toList (bs.set (i+1) (b:Int)) (i+1)/\Rf.E5 U.data.toList (i+1) b):=by
       have hmx:Rf.E5 U.data.toList (i+1) b:=by
        have h1:=Um.out;have h2:=NEB.out hxy;rw[Xr]at h1 h2 ⊢;exact h1.miss h2
       exact⟨HB.out.1.set (i+1) _ (by omega) (by omega),HB.out.2.1.set b hmx (by omega),hmx⟩
      clear Xr;have HS:∀m,Hid (aP ((wr.drewN m).setCell ⟨w.heap.size,i+1,none⟩ (.int .i64 (b:Int))) w.heap.size (bs.set (i+1) (b:Int))):=fun m=>aP.set (w:=wr.drewN m) HL.out (i+1) _;have Xq:Hid (∀m,Below w.heap.size w ((wr.drewN m).setCell ⟨w.heap.size,i+1,none⟩ (.int .i64 (b:Int)))):=fun m=>(below_drewN hbe m).setCell (p:=⟨w.heap.size,i+1,none⟩) (Nat.le_refl _) _;go_wp2
      go_quiet (fail)
      go_wp2
      go_quiet (fail)
      go_wp2
      go_roundw
      case rel=>exact⟨b,i+1,bs.set (i+1) (b:Int),by go_num,by go_num,by omega,by omega,by omega,by rw[List.length_set];exact hbl,HB2,HS _,Xq.out _⟩
      case measure=>simp[intOf];omega
  ·have Gx:¬(i:Int)<(n:Int):=by omega
   have hwb:IntKind.i64.wrap ((n:Int)-(b:Int))=((n-b:Nat):Int):=(IntWalk.i64_in _ (by omega)).trans (by omega);go_wp2
   go_ret
   refine⟨n-b,aH (by first|exact hwb|omega),by omega,by omega,?_,hbe⟩;have hul:=HUL.out;by_cases h0:n=0
   ·rw[show n-b=0 by omega];exact Rf.Ho (by omega)
   ·rw[<-hul];refine Rf.LH ?_;rw[hul,<-show i=n by omega];exact HB.out.2.2
end
theorem LK (j:Nat)(h:j<256):(Rf.bH.getD j 0).toNat<=9 :=
 (show ∀j,j<256->(Rf.bH.getD j 0).toNat<=9 by decide +kernel) j h
theorem Hq (j:Nat)(h:j<29):(Rf.bH.getD (257+j) 0).toNat<=8 :=
 (show ∀j,j<29->(Rf.bH.getD (257+j) 0).toNat<=8 by decide +kernel) j h
theorem LL (j:Nat):(aZ.getD j 0).toNat<=5:=by
 by_cases h:j<30
 ·exact (show ∀j,j<30->(aZ.getD j 0).toNat<=5 by decide +kernel) j h
 ·have:aZ.getD j 0=0:=by rw[List.getD_eq_getElem?_getD,List.getElem?_eq_none (by simp[aZ];omega)];rfl
  rw[this];decide
def dZ (T:List UInt8)(p:Nat)(s:Nat×Nat):Nat:=(aA Rf.bH aZ (dk T p s)).length
theorem Hr (T:List UInt8)(p:Nat)(s:Nat×Nat)(r:List (Nat×Nat)):(aA Rf.bH aZ (aq T p (s::r))).length=dZ T p s+(aA Rf.bH aZ (aq T (p+s.1) r)).length:=by
 rw[aq,dZ,aA,List.flatMap_append,List.length_append];rfl
theorem LM (T:List UInt8)(p:Nat):(aA Rf.bH aZ (aq T p [])).length=7:=by
 simp only[aq,aA,List.flatMap_cons,List.flatMap_nil,List.append_nil,List.length_append,Rf.cu,Rf.aC];decide +kernel
theorem LO (T:List UInt8)(p l:Nat):dZ T p (l,0)<=9:=by
 simp only[dZ,dk,if_true,aA,List.flatMap_cons,List.flatMap_nil,List.append_nil,List.length_append,Rf.cu,Rf.aC];have:=LK (T.getD p 0).toNat (T.getD p 0).toNat_lt;simp only[Bool.false_eq_true,if_false];omega
theorem Hs (T:List UInt8)(p l d:Nat)(h1:3<=l)(h2:l<=258)(h3:1<=d)(h4:d<=32768):dZ T p (l,d)<=31/\(l=258->dZ T p (l,d)<=26):=by
 have l1:=Rf.s8 l h1 h2;have d1:=Rf.tj d h3 h4;have a:=Hq (Rf.fX l) (by omega);have b:=LL (Rf.ic d);have c:=Co _ l1.1;have e:=Cp _ d1.1;have hd:¬d=0:=by omega
 have hc:dZ T p (l,d)=(Rf.bH.getD (257+Rf.fX l) 0).toNat+Rf.lb (Rf.fX l)+((aZ.getD (Rf.ic d) 0).toNat+Rf.db (Rf.ic d)):=by
  simp only[dZ,dk,if_neg hd,aA,List.flatMap_cons,List.flatMap_nil,List.append_nil,List.length_append,Rf.cu,Rf.aC,Bool.false_eq_true,if_false,if_true]
 rw[hc];refine⟨by omega,fun q=>?_⟩;subst q;have:Rf.lb (Rf.fX 258)=0:=by decide
 omega
def Qf (per q p:Nat):Nat:=if p<per then 11*(per-p)+31+(26*((q-p)/258)+31) else 26*((q-p)/258)+min 31 (16*((q-p)%258))
theorem E8 (U T:List UInt8)(per q:Nat)(hP:Rf.Hn T per)(hp:per<=32768)(hq:q<=T.length):∀(S:List (Nat×Nat)) (u p:Nat),Rf.Fits T p S q->Rf.A4 T per q p S->(aA Rf.bH aZ (aq U u S)).length<=Qf per q p+7
 | [],u,p,_,_=>by rw[LM];omega
 | (l,d)::r,u,p,hf,hb=>by
  have hl:=kD T hf.2;simp only at hl;have ih:=E8 U T per q hP hp hq r (u+l) (p+l) hf.2 hb.2;rw[Hr];simp only
  have hs:(d=0/\l=1/\dZ U u (l,d)<=9)\/(3<=l/\l<=258/\dZ U u (l,d)<=31/\(l=258->dZ U u (l,d)<=26)):=by
   rcases hf.1 with h|h
   ·obtain⟨rfl,rfl⟩:d=0/\l=1:=⟨h.1,h.2.1⟩
    exact .inl ⟨rfl,rfl,LO U u 1⟩
   ·obtain⟨a,b,c,e⟩:3<=l/\l<=258/\1<=d/\d<=32768:=⟨h.1,h.2.1,h.2.2.1,h.2.2.2.1⟩
    have:=Hs U u l d a b c e;exact .inr ⟨a,b,this.1,this.2⟩
  generalize dZ U u (l,d)=c at *;generalize (aA Rf.bH aZ (aq U (u+l) r)).length=R at *;by_cases h1:p<per
  ·unfold Qf at ih ⊢;rw[if_pos h1];by_cases h2:p+l<per
   ·rw[if_pos h2]at ih;have e1:(q-(p+l))/258<=(q-p)/258:=Nat.div_le_div_right (by omega);rcases hs with h|h<;>omega
   ·rw[if_neg h2]at ih;have e1:(q-(p+l))/258<=(q-p)/258:=Nat.div_le_div_right (by omega);rcases hs with h|h<;>omega
  ·unfold Qf at ih ⊢;rw[if_neg h1];rw[if_neg (by omega)]at ih
   have hbg:l=if 3<=min (q-p) 258 then min (q-p) 258 else 1:=hb.1 (by omega) hp (fun k hk=>by
    have:=hP (p+k-per) (by omega);rw[show p+k-per+per=p+k by omega]at this
    exact this.symm)
   obtain⟨n,hn⟩:∃n,q=p+n:=⟨q-p,by omega⟩
   subst hn;rw[show p+n-p=n by omega]at hbg ⊢;rw[show p+n-(p+l)=n-l by omega]at ih;split at hbg
   ·rcases hs with h|h<;>omega
   ·rcases hs with h|h<;>omega
end Go.Proofs.YtmfijackgekioaaGreatDoor
