import Derived.Test.YtmfijackgekioabGreatDoorQ39
set_option maxHeartbeats 8000000
set_option maxRecDepth 100000
namespace Go.Proofs.YtmfijackgekioabGreatDoor
open Go.RowKit Go.Maps
def Rf.Big (T:List UInt8)(per e p l:Nat):Prop:=per<=p->per<=32768->(∀k,k<min (e-p) 258->T.getD (p+k) 0=T.getD (p+k-per) 0)->l=if 3<=min (e-p) 258 then min (e-p) 258 else 1
def Rf.Bw (T:List UInt8)(per e:Nat):Nat->List (Nat×Nat)->Prop
 | _,[]=>True
 | p,s::r=>Rf.Big T per e p s.1/\Rf.Bw T per e (p+s.1) r
theorem xG {T:List UInt8}{per e:Nat}:∀(S:List (Nat×Nat)) (p q:Nat) (s:Nat×Nat),Rf.Bw T per e p S->Rf.Fits T p S q->Rf.Big T per e q s.1->Rf.Bw T per e p (S++[s])
 | [],p,q,s,_,h,hs=>by
  cases h;exact⟨hs,trivial⟩
 | x::r,p,q,s,hb,h,hs=>⟨hb.1,xG r (p+x.1) q s hb.2 h.2 hs⟩
theorem Bx {T:List UInt8}{per e p l d:Nat}(h:jM T per p (min (e-p) 258) l d):Rf.Big T per e p l:=by
 intro h1 h2 h3;obtain⟨ho,hm⟩:=h;split
 ·rename_i h4;have:=hm h1 h2 _ (aah _) h4 h3;rcases ho with⟨rfl,_⟩|⟨_,q,_⟩<;>omega
 ·rcases ho with⟨rfl,_⟩|⟨q1,q2,_⟩<;>omega
theorem Iu {T:List UInt8}{per e p l d x1 x2:Nat}(h:jM T per p (min (e-p) 258) l d)(k:jM T per (p+1) (min (e-(p+1)) 258) x1 x2)(hlt:l<x1):Rf.Big T per e p 1:=by
 intro h1 h2 h3;have hb:=Bx h h1 h2 h3;split
 ·rename_i h4;rw[aaj h4]at hb;rcases k.1 with⟨rfl,_⟩|⟨_,q,_⟩<;>omega
 ·rfl
structure Walk (w0 w:World) (F M G Xs en per:Nat) (T:ByteArray) (start n p:Nat) (S:List (Nat×Nat)) (sv0 sv:Value) (H:Nat):Prop where
 fd:Fd w F M G en per T n
 st:zg w Xs S sv
 fit:Rf.Fits T.data.toList start S p
 big:Rf.Bw T.data.toList per (min (start+65535) T.size) start S
 ow:sv.ownBlock≠some H/\(sv.ownBlock=sv0.ownBlock\/∃g,sv.ownBlock=some g/\w0.heap.size<=g)
 kp:Kp (fun k=>k=M\/k=G\/k=Xs\/sv0.ownBlock=some k) w0 w
 ne:F<Xs/\M<Xs/\G<Xs/\Xs<H/\w0.heap.size<=H/\Xs<w0.heap.size
theorem Walk.kept {w0 w w':World}{F M G Xs en per start n p H:Nat}{T:ByteArray}{S:List (Nat×Nat)}{sv0 sv:Value}(h:Walk w0 w F M G Xs en per T start n p S sv0 sv H)(k:Kp (fun k=>k=H\/(H<k/\sv.ownBlock≠some k)) w w'):Walk w0 w' F M G Xs en per T start n p S sv0 sv H:=by
 obtain⟨n1,n2,n3,n4,n5,n6⟩:=h.ne;obtain⟨l1,l2,l3⟩:=h.fd.lt;have hx:=aaa h.st.box;refine⟨h.fd.kept (fun j hj=>k.block j (by rcases hj with rfl|rfl|rfl<;>assumption) (fun e=>by rcases hj with rfl|rfl|rfl<;>omega)),h.st.kept (fun j hj=>?_),h.fit,h.big,h.ow,?_,h.ne⟩
 ·rcases hj with rfl|hj
  ·exact k.block _ hx (fun e=>by omega)
  ·exact k.block j (h.st.lt j hj).2 (fun e=>by
    rcases e with rfl|e
    ·exact h.ow.1 hj
    ·exact e.2 hj)
 ·exact h.kp.then k (fun i hi e=>by omega)
theorem Walk.below {w0 w w':World}{F M G Xs en per start n p H:Nat}{T:ByteArray}{S:List (Nat×Nat)}{sv0 sv:Value}(h:Walk w0 w F M G Xs en per T start n p S sv0 sv H)(k:Below w.heap.size w w'):Walk w0 w' F M G Xs en per T start n p S sv0 sv H:=h.kept (Kp.aF k)
theorem Walk.set2 {w0 w:World}{F M G Xs en per start n p H:Nat}{T:ByteArray}{S:List (Nat×Nat)}{sv0 sv:Value}(h:Walk w0 w F M G Xs en per T start n p S sv0 sv H)(X:Nat)(hX:X=H\/(H<X/\sv.ownBlock≠some X))(a b:Value):Walk w0 ((w.setCell ⟨X,0,none⟩ a).setCell ⟨X,1,none⟩ b) F M G Xs en per T start n p S sv0 sv H :=
 h.kept (((Kp.refl _ w).setCell (p:=⟨X,0,none⟩) (.inl hX) a).setCell (p:=⟨X,1,none⟩) (.inl hX) b)
theorem Walk.rem {w0 w w':World}{F M G Xs en per start n n' p H:Nat}{T:ByteArray}{S:List (Nat×Nat)}{sv0 sv:Value}(h:Walk w0 w F M G Xs en per T start n p S sv0 sv H)(k:Kp (fun k=>k=M\/k=G) w w')(hf:Fd w' F M G en per T n'):Walk w0 w' F M G Xs en per T start n' p S sv0 sv H:=by
 obtain⟨n1,n2,n3,n4,n5,n6⟩:=h.ne;have hx:=aaa h.st.box;refine⟨hf,h.st.kept (fun j hj=>?_),h.fit,h.big,h.ow,h.kp.then k (fun i _ e=>by rcases e with rfl|rfl;exact .inl rfl;exact .inr (.inl rfl)),h.ne⟩;rcases hj with rfl|hj
 ·exact k.block _ hx (fun e=>by omega)
 ·have:=h.st.lt j hj;exact k.block j this.2 (fun e=>by omega)
theorem Walk.push {w0 w w':World}{F M G Xs en per start n p H l d:Nat}{T:ByteArray}{S:List (Nat×Nat)}{sv0 sv Ik:Value}(h:Walk w0 w F M G Xs en per T start n p S sv0 sv H)(hs:zg w' Xs (S++[(l,d)]) Ik)(ho:Ik.ownBlock=sv.ownBlock\/∃g,Ik.ownBlock=some g/\w.heap.size<=g)(k:Kp (fun k=>k=Xs\/sv.ownBlock=some k) w w')(hst:Rf.tw T.data.toList p (l,d))(hbig:Rf.Big T.data.toList per (min (start+65535) T.size) p l)(hH:H<w.heap.size): Walk w0 w' F M G Xs en per T start n (p+l) (S++[(l,d)]) sv0 Ik H:=by
 obtain⟨n1,n2,n3,n4,n5,n6⟩:=h.ne;obtain⟨l1,l2,l3⟩:=h.fd.lt;have hrow:∀j,sv.ownBlock=some j->Xs+1<=j:=fun j hj=>(h.st.lt j hj).1;refine⟨h.fd.kept (fun j hj=>k.block j (by rcases hj with rfl|rfl|rfl<;>assumption) (fun e=>by rcases e with e|e;(rcases hj with rfl|rfl|rfl<;>omega);(have:=hrow j e;rcases hj with rfl|rfl|rfl<;>omega))),hs,xD _ S start p (l,d) h.fit hst,xG S start p (l,d) h.big h.fit hbig,⟨fun e=>?_,?_⟩,h.kp.then k (fun i hi e=>?_),h.ne⟩
 ·rcases ho with ho|⟨g,hg,hge⟩
  ·exact h.ow.1 (ho▸e)
  ·rw[hg]at e;cases e;omega
 ·rcases ho with ho|⟨g,hg,hge⟩
  ·rw[ho];exact h.ow.2
  ·exact .inr ⟨g,hg,by have:=h.kp.size;omega⟩
 ·rcases e with rfl|e
  ·exact .inr (.inr (.inl rfl))
  ·rcases h.ow.2 with q|⟨g,hg,hge⟩
   ·exact .inr (.inr (.inr (q▸e)))
   ·rw[hg]at e;cases e;omega
theorem kM (T:List UInt8):∀{p q:Nat} {S:List (Nat×Nat)},Rf.Fits T p S q->p+S.length<=q
 | _,_,[],h=>Nat.le_of_eq h
 | p,q,s::r,h=>by
  have:=kM T h.2;have h1:1<=s.1:=by rcases h.1 with⟨_,b,_⟩|⟨b,_⟩<;>omega
  rw[aaA];omega
theorem OZ (F M G Xs en per start end_:Nat)(T:ByteArray)(sv0:Value)(w:World)(hf:Fd w F M G en per T start)(hs:zg w Xs [] sv0)(hne:F<Xs/\M<Xs/\G<Xs)(hse:start<=end_)(hel:end_<=start+65535)(he:end_<=T.size)(hend:end_=min (start+65535) T.size)(hT:T.size<=4500000)(ia:0<T.size->1<=per)(KR:per<=4500000): Calls Tryz.prog 145 #[.pointer (some ⟨F,0,none⟩),.int .i64 start,.int .i64 end_,.func (.func 146) #[] #[.pointer (some ⟨Xs,0,none⟩)]] w fun e w'=>e=.returned (.tuple #[])/\∃S sv,Fd w' F M G en per T end_/\zg w' Xs S sv/\(Rf.Fits T.data.toList start S end_/\Rf.Bw T.data.toList per (min (start+65535) T.size) start S)/\(sv.ownBlock=sv0.ownBlock\/∃g,sv.ownBlock=some g/\w.heap.size<=g)/\Kp (fun k=>k=M\/k=G\/k=Xs\/sv0.ownBlock=some k) w w':=by
 have hcall:=TE;have XY:Hid (min (start+65535) T.size=end_):=hend.symm;clear hend;have wT:Hid (start<=end_/\end_<=T.size/\T.size<=4500000):=⟨hse,he,hT⟩
 have Bt:Hid ((0<T.size->1<=per)/\per<=4500000):=⟨ia,KR⟩
 have Rc:T.data.toList.length=T.size:=by rw[abm];rfl
 go_enter Tryz.func145,Tryz.ntmps145
 go_wp2_with fail;refine (n8 F M G en per start end_ T w hf hse he hT ia KR).mono ?_;rintro e w1 ⟨l0,d0,rfl,XZ,hb1⟩;go_wp2;have k1:=ae w1 (.cells #[.int .i64 (l0:Nat),.int .i64 (d0:Nat)] 187);have x1:=ah w1 (.cells #[.int .i64 (l0:Nat),.int .i64 (d0:Nat)] 187);have B1:Below w.heap.size w (w1.alloc (.cells #[.int .i64 (l0:Nat),.int .i64 (d0:Nat)] 187)):=hb1.trans (k1.mono hb1.size);have hxl:=aaa hs.box;have hw1:=hb1.size;obtain⟨H,hH⟩:∃H,w1.heap.size=H:=⟨_,rfl⟩
 rw[hH]at x1
 have WA:Walk w (w1.alloc (.cells #[.int .i64 (l0:Nat),.int .i64 (d0:Nat)] 187)) F M G Xs en per T start (start) (start) [] sv0 sv0 H :=
  ⟨hf.below B1,hs.below B1,rfl,trivial,⟨fun e=>by have:=(hs.lt H e).2;omega,.inl rfl⟩,Kp.aF B1,by omega⟩
 rw[hH];generalize w1.alloc (.cells #[.int .i64 (l0:Nat),.int .i64 (d0:Nat)] 187)=wA at *;clear hf hs hse he hT ia KR hb1 k1 B1 hH
 go_loopw [8] (fun pv wr=>∃(p:Nat) (S:List (Nat×Nat)) (sv:Value) (l d:Nat),pv=.int .i64 p/\start<=p/\p<=end_/\Hid (Walk w wr F M G Xs en per T start (p) (p) S sv0 sv H)/\Hid (wr.heap[H]?=some (.cells #[.int .i64 (l:Nat),.int .i64 (d:Nat)] 187 (0,0)))/\Hid (jM T.data.toList per (p) (min (end_-(p)) 258) l d)) (fun pv _=>end_-(intOf pv).toNat)
 case atStart=>exact⟨start,[],sv0,l0,d0,rfl,aah _,wT.out.1,WA,x1,XZ⟩
 case round =>
  clear WA x1 XZ;obtain⟨p,S,sv,l,d,rfl,hsp,hpe,HW,HB,HO⟩:=hrel;by_cases hlt:p<end_
  ·have ahn:(p:Int)<(end_:Int):=by omega
   obtain⟨hst,aho,hl1,aeC⟩:=Il HO.out.1 hlt (by rw[Rc];exact wT.out.2.1);have pM:Rf.tw T.data.toList p (1,0):=.inl ⟨rfl,rfl,by rw[Rc];have:=wT.out;omega⟩;have Zk:p+258<=5000000:=by have:=wT.out;omega
   go_wp2_with fail;refine (oX F M G en per p T wr HW.out.fd (by have:=wT.out;omega) wT.out.2.2).mono ?_;rintro e u1 ⟨rfl,fd1,kQ⟩;have W1:=HW.out.rem kQ fd1;have H1:u1.heap[H]?=some (.cells #[.int .i64 (l:Nat),.int .i64 (d:Nat)] 187 (0,0)):=gv HB.out kQ (fun e=>by have:=HW.out.ne;omega);have HBG:Hid (Rf.Big T.data.toList per (min (start+65535) T.size) p l):=by show Rf.Big _ _ _ _ _;rw[XY.out];exact Bx HO.out
   clear HW HB fd1 kQ;have k2:=ae u1 (.cells #[.int .i64 0,.int .i64 0] 187);have X2:=ah u1 (.cells #[.int .i64 0,.int .i64 0] 187);have W2:=W1.below k2;have H2:(u1.alloc (.cells #[.int .i64 0,.int .i64 0] 187)).heap[H]?=_:=(k2.block _ (aaa H1)).trans H1;have TI:H<u1.heap.size:=aaa H1;have hX:sv.ownBlock≠some u1.heap.size:=fun e=>by have:=(W1.st.lt _ e).2;omega
   obtain⟨y0,y1,yf,yl⟩:=aN H1;clear W1 H1;by_cases h64:l<64
   ·have abP:(l:Int)<64:=by omega
    have EZ:=n8 F M G en per (p+1) end_ T (u1.alloc (.cells #[.int .i64 0,.int .i64 0] 187)) W2.fd (by omega) wT.out.2.1 wT.out.2.2 Bt.out.1 Bt.out.2;rw[show ((p+1:Nat):Int)=(p:Int)+1 by omega]at EZ;go_wp2_with fail;refine EZ.mono ?_;rintro e u3 ⟨x1,x2,rfl,ze,hb3⟩;have W3:=W2.below hb3;have H3:u3.heap[H]?=some (.cells #[.int .i64 (l:Nat),.int .i64 (d:Nat)] 187 (0,0)):=(hb3.block _ (aaa H2)).trans H2;have X3:=(hb3.block _ (aaa X2)).trans X2;obtain⟨X,Uq⟩:∃X,u1.heap.size=X:=⟨_,rfl⟩
    rw[Uq]at TI hX X3;have su:H≠X:=by omega
    have WU:=W3.set2 X (.inr ⟨TI,hX⟩) (.int .i64 (x1:Nat)) (.int .i64 (x2:Nat));have HU:((u3.setCell ⟨X,0,none⟩ (.int .i64 (x1:Nat))).setCell ⟨X,1,none⟩ (.int .i64 (x2:Nat))).heap[H]?=some (.cells #[.int .i64 (l:Nat),.int .i64 (d:Nat)] 187 (0,0)):=(aak _ ⟨X,1,none⟩ _ _ su).trans ((aak _ ⟨X,0,none⟩ _ _ su).trans H3);have XU:=gq X3 (.int .i64 (x1:Nat)) (.int .i64 (x2:Nat));have mo:Hid (jM T.data.toList per (p+1) (min (end_-(p+1)) 258) x1 x2):=ze;have abQ:Hid (l<x1->Rf.Big T.data.toList per (min (start+65535) T.size) p 1):=fun h=>by rw[XY.out];exact Iu HO.out ze h
    clear y0 y1 yf yl;obtain⟨y0,y1,yf,yl⟩:=aN H3;obtain⟨v0,v1,vf,vl⟩:=aN X3;rw[Uq];clear W2 H2 X2 k2 W3 H3 X3 EZ ze hb3;by_cases h21:l<x1
    ·have abR:(x1:Int)>(l:Int):=by omega
     have WV:=WU.set2 H (.inl rfl) (.int .i64 1) (.int .i64 0);have HV:=gq HU (.int .i64 1) (.int .i64 0);have XV:=(aak _ ⟨H,1,none⟩ (.int .i64 0) X (acN su)).trans ((aak _ ⟨H,0,none⟩ (.int .i64 1) X (acN su)).trans XU);go_wp2_with fail;clear WU HU XU;generalize ((((u3.setCell ⟨X,0,none⟩ (.int .i64 (x1:Nat))).setCell ⟨X,1,none⟩ (.int .i64 (x2:Nat))).setCell ⟨H,0,none⟩ (.int .i64 1)).setCell ⟨H,1,none⟩ (.int .i64 0))=u5 at *;clear y0 y1 yf yl v0 v1 vf vl;have WU:=WV;have HU:u5.heap[H]?=some (.cells #[.int .i64 (1:Nat),.int .i64 (0:Nat)] 187 (0,0)):=HV;have XU:u5.heap[X]?=some (.cells #[.int .i64 (x1:Nat),.int .i64 (x2:Nat)] 187 (0,0)):=XV;clear WV HV XV;have Eb:=aaa HU;refine (zh Xs (1) (0) S sv u5 WU.st (by have:=kM _ WU.fit;omega)).mono ?_;rintro e u6 ⟨rfl,sC,hs6,zq,oC⟩;have W6:Walk w u6 F M G Xs en per T start (p+1) (p+1) (S++[(1,0)]) sv0 sC H:=WU.push hs6 zq oC pM (abQ.out h21) Eb;have H6:u6.heap[H]?=some (.cells #[.int .i64 (1:Nat),.int .i64 (0:Nat)] 187 (0,0)):=gv HU oC (fun e=>by rcases e with e|e;(have:=WU.ne;omega);exact WU.ow.1 e);have X6:u6.heap[X]?=some (.cells #[.int .i64 (x1:Nat),.int .i64 (x2:Nat)] 187 (0,0)):=gv XU oC (fun e=>by rcases e with e|e;(have:=WU.ne;omega);exact hX e);have X8:H<X/\sC.ownBlock≠some X:=⟨TI,fun e=>by rcases zq with q|⟨g,q1,q2⟩;exact hX (q▸e);(rw[q1]at e;cases e;have:=aaa XU;omega)⟩
     clear hs6 zq oC;obtain⟨y0,y1,yf,yl⟩:=aN H6;obtain⟨v0,v1,vf,vl⟩:=aN X6;have HW:Hid (Walk w ((u6.setCell ⟨H,0,none⟩ (.int .i64 (x1:Nat))).setCell ⟨H,1,none⟩ (.int .i64 (x2:Nat))) F M G Xs en per T start (p+1) (p+1) (S++[(1,0)]) sv0 sC H):=W6.set2 H (.inl rfl) _ _;have TJ:Hid (((u6.setCell ⟨H,0,none⟩ (.int .i64 (x1:Nat))).setCell ⟨H,1,none⟩ (.int .i64 (x2:Nat))).heap[H]?=some (.cells #[.int .i64 (x1:Nat),.int .i64 (x2:Nat)] 187 (0,0))):=gq H6 _ _;clear W6 H6 X6 WU HU XU hcall;go_wp2
     go_loopw [11] (fun iv wq=>iv=.int .i64 1/\wq=u6) (fun _ _=>0)
     case atStart=>exact⟨rfl,rfl⟩
     case round =>
      obtain⟨rfl,hwq⟩:=hrel;subst hwq;go_wp2
      go_roundw
      case rel=>exact⟨p+1,S++[(1,0)],sC,x1,x2,by go_num,by omega,by omega,HW,TJ,mo⟩
      case measure=>simp[intOf];omega
    ·have abR:¬(x1:Int)>(l:Int):=by omega
     go_wp2_with fail;generalize (u3.setCell ⟨X,0,none⟩ (.int .i64 (x1:Nat))).setCell ⟨X,1,none⟩ (.int .i64 (x2:Nat))=u5 at *;clear y0 y1 yf yl v0 v1 vf vl;by_cases abT:l=1
     ·subst abT;have Eb:=aaa HU;refine (zh Xs (1) (d) S sv u5 WU.st (by have:=kM _ WU.fit;omega)).mono ?_;rintro e u6 ⟨rfl,sC,hs6,zq,oC⟩;have W6:Walk w u6 F M G Xs en per T start (p+1) (p+1) (S++[(1,d)]) sv0 sC H:=WU.push hs6 zq oC hst HBG.out Eb;have H6:u6.heap[H]?=some (.cells #[.int .i64 (1:Nat),.int .i64 (d:Nat)] 187 (0,0)):=gv HU oC (fun e=>by rcases e with e|e;(have:=WU.ne;omega);exact WU.ow.1 e);have X6:u6.heap[X]?=some (.cells #[.int .i64 (x1:Nat),.int .i64 (x2:Nat)] 187 (0,0)):=gv XU oC (fun e=>by rcases e with e|e;(have:=WU.ne;omega);exact hX e);have X8:H<X/\sC.ownBlock≠some X:=⟨TI,fun e=>by rcases zq with q|⟨g,q1,q2⟩;exact hX (q▸e);(rw[q1]at e;cases e;have:=aaa XU;omega)⟩
      clear hs6 zq oC;obtain⟨y0,y1,yf,yl⟩:=aN H6;obtain⟨v0,v1,vf,vl⟩:=aN X6;have HW:Hid (Walk w ((u6.setCell ⟨H,0,none⟩ (.int .i64 (x1:Nat))).setCell ⟨H,1,none⟩ (.int .i64 (x2:Nat))) F M G Xs en per T start (p+1) (p+1) (S++[(1,d)]) sv0 sC H):=W6.set2 H (.inl rfl) _ _;have TJ:Hid (((u6.setCell ⟨H,0,none⟩ (.int .i64 (x1:Nat))).setCell ⟨H,1,none⟩ (.int .i64 (x2:Nat))).heap[H]?=some (.cells #[.int .i64 (x1:Nat),.int .i64 (x2:Nat)] 187 (0,0))):=gq H6 _ _;clear W6 H6 X6 WU HU XU hcall;go_wp2
      go_loopw [11] (fun iv wq=>iv=.int .i64 1/\wq=u6) (fun _ _=>0)
      case atStart=>exact⟨rfl,rfl⟩
      case round =>
       obtain⟨rfl,hwq⟩:=hrel;subst hwq;go_wp2
       go_roundw
       case rel=>exact⟨p+1,S++[(1,d)],sC,x1,x2,by go_num,by omega,by omega,HW,TJ,mo⟩
       case measure=>simp[intOf];omega
     ·clear mo;have Eb:=aaa HU;refine (zh Xs (l) (d) S sv u5 WU.st (by have:=kM _ WU.fit;omega)).mono ?_;rintro e u6 ⟨rfl,sC,hs6,zq,oC⟩;have W6:Walk w u6 F M G Xs en per T start (p+1) (p+l) (S++[(l,d)]) sv0 sC H:=WU.push hs6 zq oC hst HBG.out Eb;have H6:u6.heap[H]?=some (.cells #[.int .i64 (l:Nat),.int .i64 (d:Nat)] 187 (0,0)):=gv HU oC (fun e=>by rcases e with e|e;(have:=WU.ne;omega);exact WU.ow.1 e);have X6:u6.heap[X]?=some (.cells #[.int .i64 (x1:Nat),.int .i64 (x2:Nat)] 187 (0,0)):=gv XU oC (fun e=>by rcases e with e|e;(have:=WU.ne;omega);exact hX e);have X8:H<X/\sC.ownBlock≠some X:=⟨TI,fun e=>by rcases zq with q|⟨g,q1,q2⟩;exact hX (q▸e);(rw[q1]at e;cases e;have:=aaa XU;omega)⟩
      clear hs6 zq oC;obtain⟨S6,zo⟩:∃S6,S++[(l,d)]=S6:=⟨_,rfl⟩
      rw[zo]at W6;obtain⟨y0,y1,yf,yl⟩:=aN H6;have MJ:(1:Int)<(l:Int):=by omega
      have nY:Hid (Walk w u6 F M G Xs en per T start (p+1) (p+l) S6 sv0 sC H):=W6;have zk:Hid (u6.heap[H]?=some (.cells #[.int .i64 (l:Nat),.int .i64 (d:Nat)] 187 (0,0))):=H6;have xC:Hid (u6.heap[X]?=some (.cells #[.int .i64 (x1:Nat),.int .i64 (x2:Nat)] 187 (0,0))):=X6;clear WU HU XU W6 H6 X6 zo;go_wp2
      go_loopw [11] (fun iv wq=>∃i:Nat,1<=i/\i<=l/\iv=.int .i64 i/\Hid (Walk w wq F M G Xs en per T start (p+i) (p+l) S6 sv0 sC H)/\Hid (wq.heap[H]?=some (.cells #[.int .i64 (l:Nat),.int .i64 (d:Nat)] 187 (0,0)))/\Hid (wq.heap[X]?=some (.cells #[.int .i64 (x1:Nat),.int .i64 (x2:Nat)] 187 (0,0)))) (fun iv _=>l-(intOf iv).toNat)
      case atStart=>exact⟨1,aah _,by omega,rfl,nY,zk,xC⟩
      case round =>
       clear nY zk xC y0 y1 yf yl;obtain⟨i,hi1,hil,rfl,nY,zk,xC⟩:=hrel;obtain⟨y0,y1,yf,yl⟩:=aN zk.out;by_cases hlt2:i<l
       ·have hilt:(i:Int)<(l:Int):=by omega
        have hrm:=oX F M G en per (p+i) T _ nY.out.fd (by have:=wT.out;omega) wT.out.2.2;rw[show ((p+i:Nat):Int)=(p:Int)+(i:Int) by omega]at hrm;go_wp2_with fail;refine hrm.mono ?_;rintro e u7 ⟨rfl,X9,BW⟩;have Xv:Hid (Walk w u7 F M G Xs en per T start (p+(i+1)) (p+l) S6 sv0 sC H):=nY.out.rem BW X9;have HH7:Hid (u7.heap[H]?=some (.cells #[.int .i64 (l:Nat),.int .i64 (d:Nat)] 187 (0,0))):=gv zk.out BW (fun e=>by have:=nY.out.ne;omega);have HX7:Hid (u7.heap[X]?=some (.cells #[.int .i64 (x1:Nat),.int .i64 (x2:Nat)] 187 (0,0))):=gv xC.out BW (fun e=>by have:=nY.out.ne;omega);clear hrm X9 BW nY zk xC y0 y1 yf yl;go_wp2
        go_roundw
        case rel=>exact⟨i+1,by omega,by omega,by go_num,Xv,HH7,HX7⟩
        case measure=>simp[intOf];omega
       ·have TK:i=l:=by omega
        subst TK;have EZ:=n8 F M G en per (p+i) end_ T _ nY.out.fd (by omega) wT.out.2.1 wT.out.2.2 Bt.out.1 Bt.out.2;rw[show ((p+i:Nat):Int)=(p:Int)+(i:Int) by omega]at EZ;have abW:(i:Int)>1:=by omega
        go_wp2_with fail;refine EZ.mono ?_;rintro e u7 ⟨l3,d3,rfl,Mg,Dk⟩;have W7:=nY.out.below Dk;have H7:u7.heap[H]?=some (.cells #[.int .i64 (i:Nat),.int .i64 (d:Nat)] 187 (0,0)):=(Dk.block _ (aaa zk.out)).trans zk.out;have X7:u7.heap[X]?=some (.cells #[.int .i64 (x1:Nat),.int .i64 (x2:Nat)] 187 (0,0)):=(Dk.block _ (aaa xC.out)).trans xC.out;obtain⟨g0,g1,gf,gl⟩:=aN H7;obtain⟨v0,v1,vf,vl⟩:=aN X7;have su:H≠X:=by omega
        have HW:Hid (Walk w ((((u7.setCell ⟨X,0,none⟩ (.int .i64 (l3:Nat))).setCell ⟨X,1,none⟩ (.int .i64 (d3:Nat))).setCell ⟨H,0,none⟩ (.int .i64 (l3:Nat))).setCell ⟨H,1,none⟩ (.int .i64 (d3:Nat))) F M G Xs en per T start (p+i) (p+i) S6 sv0 sC H):=(W7.set2 X (.inr X8) _ _).set2 H (.inl rfl) _ _;have TJ:Hid (((((u7.setCell ⟨X,0,none⟩ (.int .i64 (l3:Nat))).setCell ⟨X,1,none⟩ (.int .i64 (d3:Nat))).setCell ⟨H,0,none⟩ (.int .i64 (l3:Nat))).setCell ⟨H,1,none⟩ (.int .i64 (d3:Nat))).heap[H]?=some (.cells #[.int .i64 (l3:Nat),.int .i64 (d3:Nat)] 187 (0,0))):=gq ((aak _ ⟨X,1,none⟩ _ _ su).trans ((aak _ ⟨X,0,none⟩ _ _ su).trans H7)) _ _;have TL:Hid (jM T.data.toList per (p+i) (min (end_-(p+i)) 258) l3 d3):=Mg;clear EZ Mg Dk W7 H7 X7 nY zk xC y0 y1 yf yl hcall;go_wp2
        go_roundw
        case rel=>exact⟨p+i,S6,sC,l3,d3,by go_num,by omega,by omega,HW,TJ,TL⟩
        case measure=>simp[intOf];omega
   ·have abP:¬(l:Int)<64:=by omega
    obtain⟨v0,v1,vf,vl⟩:=aN X2;have OV:¬(0:Int)>(l:Int):=by omega
    have su:H≠u1.heap.size:=by omega
    go_wp2_with fail;generalize hu5:u1.alloc (.cells #[.int .i64 0,.int .i64 0] 187)=u5 at *;obtain⟨X,Uq⟩:∃X,u1.heap.size=X:=⟨_,rfl⟩
    rw[Uq]at TI hX X2 su ⊢;obtain⟨x1,x2,XU⟩:∃x1 x2:Nat,u5.heap[X]?=some (.cells #[.int .i64 (x1:Nat),.int .i64 (x2:Nat)] 187 (0,0)):=⟨0,0,X2⟩
    have WU:=W2;have HU:u5.heap[H]?=some (.cells #[.int .i64 (l:Nat),.int .i64 (d:Nat)] 187 (0,0)):=H2;clear W2 H2 X2 k2 y0 y1 yf yl v0 v1 vf vl hu5 Uq;have Eb:=aaa HU;refine (zh Xs (l) (d) S sv u5 WU.st (by have:=kM _ WU.fit;omega)).mono ?_;rintro e u6 ⟨rfl,sC,hs6,zq,oC⟩;have W6:Walk w u6 F M G Xs en per T start (p+1) (p+l) (S++[(l,d)]) sv0 sC H:=WU.push hs6 zq oC hst HBG.out Eb;have H6:u6.heap[H]?=some (.cells #[.int .i64 (l:Nat),.int .i64 (d:Nat)] 187 (0,0)):=gv HU oC (fun e=>by rcases e with e|e;(have:=WU.ne;omega);exact WU.ow.1 e);have X6:u6.heap[X]?=some (.cells #[.int .i64 (x1:Nat),.int .i64 (x2:Nat)] 187 (0,0)):=gv XU oC (fun e=>by rcases e with e|e;(have:=WU.ne;omega);exact hX e);have X8:H<X/\sC.ownBlock≠some X:=⟨TI,fun e=>by rcases zq with q|⟨g,q1,q2⟩;exact hX (q▸e);(rw[q1]at e;cases e;have:=aaa XU;omega)⟩
    clear hs6 zq oC;obtain⟨S6,zo⟩:∃S6,S++[(l,d)]=S6:=⟨_,rfl⟩
    rw[zo]at W6;obtain⟨y0,y1,yf,yl⟩:=aN H6;have MJ:(1:Int)<(l:Int):=by omega
    have nY:Hid (Walk w u6 F M G Xs en per T start (p+1) (p+l) S6 sv0 sC H):=W6;have zk:Hid (u6.heap[H]?=some (.cells #[.int .i64 (l:Nat),.int .i64 (d:Nat)] 187 (0,0))):=H6;have xC:Hid (u6.heap[X]?=some (.cells #[.int .i64 (x1:Nat),.int .i64 (x2:Nat)] 187 (0,0))):=X6;clear WU HU XU W6 H6 X6 zo;go_wp2
    go_loopw [11] (fun iv wq=>∃i:Nat,1<=i/\i<=l/\iv=.int .i64 i/\Hid (Walk w wq F M G Xs en per T start (p+i) (p+l) S6 sv0 sC H)/\Hid (wq.heap[H]?=some (.cells #[.int .i64 (l:Nat),.int .i64 (d:Nat)] 187 (0,0)))/\Hid (wq.heap[X]?=some (.cells #[.int .i64 (x1:Nat),.int .i64 (x2:Nat)] 187 (0,0)))) (fun iv _=>l-(intOf iv).toNat)
    case atStart=>exact⟨1,aah _,by omega,rfl,nY,zk,xC⟩
    case round =>
     clear nY zk xC y0 y1 yf yl;obtain⟨i,hi1,hil,rfl,nY,zk,xC⟩:=hrel;obtain⟨y0,y1,yf,yl⟩:=aN zk.out;by_cases hlt2:i<l
     ·have hilt:(i:Int)<(l:Int):=by omega
      have hrm:=oX F M G en per (p+i) T _ nY.out.fd (by have:=wT.out;omega) wT.out.2.2;rw[show ((p+i:Nat):Int)=(p:Int)+(i:Int) by omega]at hrm;go_wp2_with fail;refine hrm.mono ?_;rintro e u7 ⟨rfl,X9,BW⟩;have Xv:Hid (Walk w u7 F M G Xs en per T start (p+(i+1)) (p+l) S6 sv0 sC H):=nY.out.rem BW X9;have HH7:Hid (u7.heap[H]?=some (.cells #[.int .i64 (l:Nat),.int .i64 (d:Nat)] 187 (0,0))):=gv zk.out BW (fun e=>by have:=nY.out.ne;omega);have HX7:Hid (u7.heap[X]?=some (.cells #[.int .i64 (x1:Nat),.int .i64 (x2:Nat)] 187 (0,0))):=gv xC.out BW (fun e=>by have:=nY.out.ne;omega);clear hrm X9 BW nY zk xC y0 y1 yf yl;go_wp2
      go_roundw
      case rel=>exact⟨i+1,by omega,by omega,by go_num,Xv,HH7,HX7⟩
      case measure=>simp[intOf];omega
     ·have TK:i=l:=by omega
      subst TK;have EZ:=n8 F M G en per (p+i) end_ T _ nY.out.fd (by omega) wT.out.2.1 wT.out.2.2 Bt.out.1 Bt.out.2;rw[show ((p+i:Nat):Int)=(p:Int)+(i:Int) by omega]at EZ;have abW:(i:Int)>1:=by omega
      go_wp2_with fail;refine EZ.mono ?_;rintro e u7 ⟨l3,d3,rfl,Mg,Dk⟩;have W7:=nY.out.below Dk;have H7:u7.heap[H]?=some (.cells #[.int .i64 (i:Nat),.int .i64 (d:Nat)] 187 (0,0)):=(Dk.block _ (aaa zk.out)).trans zk.out;have X7:u7.heap[X]?=some (.cells #[.int .i64 (x1:Nat),.int .i64 (x2:Nat)] 187 (0,0)):=(Dk.block _ (aaa xC.out)).trans xC.out;obtain⟨g0,g1,gf,gl⟩:=aN H7;obtain⟨v0,v1,vf,vl⟩:=aN X7;have su:H≠X:=by omega
      have HW:Hid (Walk w ((((u7.setCell ⟨X,0,none⟩ (.int .i64 (l3:Nat))).setCell ⟨X,1,none⟩ (.int .i64 (d3:Nat))).setCell ⟨H,0,none⟩ (.int .i64 (l3:Nat))).setCell ⟨H,1,none⟩ (.int .i64 (d3:Nat))) F M G Xs en per T start (p+i) (p+i) S6 sv0 sC H):=(W7.set2 X (.inr X8) _ _).set2 H (.inl rfl) _ _;have TJ:Hid (((((u7.setCell ⟨X,0,none⟩ (.int .i64 (l3:Nat))).setCell ⟨X,1,none⟩ (.int .i64 (d3:Nat))).setCell ⟨H,0,none⟩ (.int .i64 (l3:Nat))).setCell ⟨H,1,none⟩ (.int .i64 (d3:Nat))).heap[H]?=some (.cells #[.int .i64 (l3:Nat),.int .i64 (d3:Nat)] 187 (0,0))):=gq ((aak _ ⟨X,1,none⟩ _ _ su).trans ((aak _ ⟨X,0,none⟩ _ _ su).trans H7)) _ _;have TL:Hid (jM T.data.toList per (p+i) (min (end_-(p+i)) 258) l3 d3):=Mg;clear EZ Mg Dk W7 H7 X7 nY zk xC y0 y1 yf yl hcall;go_wp2
      go_roundw
      case rel=>exact⟨p+i,S6,sC,l3,d3,by go_num,by omega,by omega,HW,TJ,TL⟩
      case measure=>simp[intOf];omega
  ·have hp:p=end_:=by omega
   subst hp;go_wp2
   go_end0
   exact⟨rfl,S,sv,HW.out.fd,HW.out.st,⟨HW.out.fit,HW.out.big⟩,HW.out.ow.2,HW.out.kp⟩
end Go.Proofs.YtmfijackgekioabGreatDoor
namespace Go.Proofs.YtmfijackgekioabGreatDoor.Rf
def Bd (T:List UInt8)(i k:Nat):Prop:=k<i/\∀j,j<k->T.getD j 0=T.getD (i-k+j) 0
def Fz (T:List UInt8)(i k:Nat):Prop:=Bd T i k/\∀k',Bd T i k'->k'<=k
def vN (T:List UInt8)(i b:Nat):Prop:=Bd T i b/\∀k,Bd T i k->T.getD k 0=T.getD i 0->k<=b
theorem FA (T:List UInt8):Fz T 1 0:=⟨⟨by omega,fun j hj=>by omega⟩,fun k hk=>by have:=hk.1;omega⟩
theorem O7 {T:List UInt8}{i k k':Nat}(h:Bd T i k)(h':Bd T i k')(hlt:k'<k):Bd T k k':=by
 refine⟨hlt,fun j hj=>?_⟩;have a:=h'.2 j hj;have b:=h.2 (k-k'+j) (by omega);have:=h.1;rw[a,b,show i-k+(k-k'+j)=i-k'+j by omega]
theorem Ya {T:List UInt8}{i k k':Nat}(h:Bd T i k)(h':Bd T k k'):Bd T i k':=by
 have h1:=h.1;have h2:=h'.1;refine⟨by omega,fun j hj=>?_⟩;rw[h'.2 j hj,h.2 (k-k'+j) (by omega),show i-k+(k-k'+j)=i-k'+j by omega]
theorem O8 {T:List UInt8}{i k:Nat}(h:Bd T i k)(he:T.getD k 0=T.getD i 0):Bd T (i+1) (k+1):=by
 have h1:=h.1;refine⟨by omega,fun j hj=>?_⟩;rw[show i+1-(k+1)+j=i-k+j by omega];by_cases e:j=k
 ·rw[e,he,show i-k+k=i by omega]
 ·exact h.2 j (by omega)
theorem FC {T:List UInt8}{i k:Nat}(h:Bd T (i+1) (k+1)):Bd T i k/\T.getD k 0=T.getD i 0:=by
 have h1:=h.1;refine⟨⟨by omega,fun j hj=>?_⟩,?_⟩
 ·have:=h.2 j (by omega)
  rwa [show i+1-(k+1)+j=i-k+j by omega]at this
 ·have:=h.2 k (by omega)
  rwa [show i+1-(k+1)+k=i by omega]at this
theorem Fz.abX {T:List UInt8}{i b:Nat}(h:Fz T i b):vN T i b:=⟨h.1,fun k hk _=>h.2 k hk⟩
theorem vN.next {T:List UInt8}{i b c:Nat}(h:vN T i b)(hne:T.getD b 0≠T.getD i 0)(hc:Fz T b c):vN T i c:=by
 refine⟨Ya h.1 hc.1,fun k hk he=>?_⟩;have:=h.2 k hk he;have hn:k≠b:=fun e=>hne (e▸he);exact hc.2 k (O7 h.1 hk (by omega))
theorem vN.hit {T:List UInt8}{i b:Nat}(h:vN T i b)(he:T.getD b 0=T.getD i 0):Fz T (i+1) (b+1):=by
 refine⟨O8 h.1 he,fun k hk=>?_⟩;cases k with
 | zero=>omega
 | succ k =>
  obtain⟨h1,h2⟩:=FC hk;have:=h.2 k h1 h2;omega
theorem vN.miss {T:List UInt8}{i:Nat}(h:vN T i 0)(hne:T.getD 0 0≠T.getD i 0):Fz T (i+1) 0:=by
 refine⟨⟨by omega,fun j hj=>by omega⟩,fun k hk=>?_⟩;cases k with
 | zero=>omega
 | succ k =>
  obtain⟨h1,h2⟩:=FC hk;have:=h.2 k h1 h2;have:k=0:=by omega
  subst this;exact absurd h2 hne
def Iv (T:List UInt8)(q:Nat):Prop:=∀i,i+q<T.length->T.getD i 0=T.getD (i+q) 0
def uY (T:List UInt8)(per:Nat):Prop:=Iv T per/\∀q,1<=q->Iv T q->per<=q
theorem TM {T:List UInt8}{q:Nat}(h:Iv T q)(h1:1<=q)(h2:q<=T.length):Bd T T.length (T.length-q) :=
 ⟨by omega,fun j hj=>by rw[h j (by omega),show T.length-(T.length-q)+j=j+q by omega]⟩
theorem TN {T:List UInt8}{b:Nat}(h:Bd T T.length b):Iv T (T.length-b):=by
 intro i hi;have h1:=h.1;rw[h.2 i (by omega),show T.length-b+i=i+(T.length-b) by omega]
theorem Mh {T:List UInt8}{b:Nat}(h:Fz T T.length b):uY T (T.length-b):=by
 refine⟨TN h.1,fun q h1 hq=>?_⟩;by_cases h2:q<=T.length
 ·have:=h.2 _ (TM hq h1 h2);omega
 ·omega
theorem Iw {T:List UInt8}(h:T.length=0):uY T 0:=⟨fun i hi=>by omega,fun q _ _=>aaq _⟩
end Go.Proofs.YtmfijackgekioabGreatDoor.Rf
namespace Go.Proofs.YtmfijackgekioabGreatDoor
section
open Go.RowKit
theorem By (n:Nat)(hn:n<=100000)(Z:List Value)(hZ:Z=List.replicate n (.int .i64 0))(u:World): (Instr.makeSlice 22 (.int .i64 (n:Int)) (.int .i64 (n:Int))).run Tryz.prog u = .ok (.slice (some ⟨u.heap.size,0,none⟩) n n) (u.alloc (.cells Z.toArray 3)):=by
 obtain⟨i0,hi,hz0,hz1,hz2⟩:=abu Tryz.info3;have h:=run_make (P:=Tryz.prog) u 22 3 i0 (.int .i64 0) Tryz.underlying22 hi hz0 .i64 .i64 (n:Int) (n:Int) (by omega) (abU _) (by rw[hz2];omega) (by omega)
 have e2:(madeCells #[Value.int .i64 0] n)=Z.toArray:=by
  rw[hZ,<-toList_madeCells_one]
 simpa[hz1,Value.cells,e2]using h
def Ec (T:List UInt8)(bs:List Int)(i:Nat):Prop:=∀m:Nat,1<=m->m<=i->∃b:Nat,bs.getD m 0=(b:Int)/\Rf.Fz T m b
theorem Ec.set {T:List UInt8}{bs:List Int}{i:Nat}(h:Ec T bs i)(b:Nat)(hb:Rf.Fz T (i+1) b)(hl:i+1<bs.length):Ec T (bs.set (i+1) (b:Int)) (i+1):=fun m h1 h2=>by
 by_cases e:m=i+1
 ·subst e;exact⟨b,by rw[aab,List.getElem?_set];simp[hl],hb⟩
 ·obtain⟨c,hc,hm⟩:=h m h1 (by omega);refine⟨c,?_,hm⟩;rw[<-hc,aab,aab,acY (by omega)]
def Bz (bs:List Int):Prop:=∀j:Nat,0<=bs.getD j 0/\(1<=j->bs.getD j 0<(j:Int))
theorem Ix (n:Nat):Bz (List.replicate n 0):=fun j=>by
 have:(List.replicate n (0:Int)).getD j 0=0:=by
  rw[aab,ach];split<;>rfl
 omega
theorem Bz.set {bs:List Int}(h:Bz bs)(i:Nat)(x:Int)(h0:0<=x)(h1:x<(i:Int)):Bz (bs.set i x):=fun j=>by
 have:=h j;rw[aab]at this ⊢;rw[List.getElem?_set];split
 ·split
  ·simp only[ac1];omega
  ·simp;omega
 ·omega
theorem Mi (U:ByteArray)(w:World)(hU:U.size<=65536): Calls Tryz.prog 158 #[.string U] w fun e w'=>∃per:Nat,e=.returned (.int .i64 per)/\(0<U.size->1<=per)/\per<=U.size/\Rf.uY U.data.toList per/\Below w.heap.size w w':=by
 obtain⟨n,hn⟩:∃n,U.size=n:=⟨_,rfl⟩
 obtain⟨n1,hn1⟩:∃n1,n+1=n1:=⟨_,rfl⟩
 obtain⟨Z,hZ⟩:∃Z:List Value,Z=List.replicate n1 (.int .i64 0):=⟨_,rfl⟩
 have hmk:∀u:World,(Instr.makeSlice 22 (.int .i64 (n1:Int)) (.int .i64 (n1:Int))).run Tryz.prog u=.ok (.slice (some ⟨u.heap.size,0,none⟩) n1 n1) (u.alloc (.cells Z.toArray 3)):=fun u=>By n1 (by omega) Z hZ u;have HZ:Hid (Z=vals (List.replicate n1 0)):=by show _=_;rw[hZ,bJ]
 have hwn:IntKind.i64.wrap ((n:Int)+1)=(n1:Int):=(aao _ (by omega)).trans (by omega);have idx:=fun (j:Nat) (h:j<n) (u:World)=>xK U j (by omega) (j:Int) rfl u;have IDX:Hid (∀(j:Nat) (_:j<n) (u:World),(Instr.index 9 (.string U) (.int .i64 (j:Int))).run Tryz.prog u=.ok (.int .u8 ((U.data.toList.getD j 0).toNat:Nat)) u):=idx;have HUL:Hid (U.data.toList.length=n):=by show _=_;rw[abm];exact hn
 have EQ:Hid (∀i j:Nat,(U.data.toList.getD i 0).toNat=(U.data.toList.getD j 0).toNat->U.data.toList.getD j 0=U.data.toList.getD i 0):=fun i j h=>(UInt8.toNat_inj.1 h).symm;have NE:Hid (∀i j:Nat,¬(U.data.toList.getD i 0).toNat=(U.data.toList.getD j 0).toNat->U.data.toList.getD j 0≠U.data.toList.getD i 0):=fun i j h e=>h (by rw[e]);clear hZ idx;rw[hn]
 go_enter Tryz.func158,Tryz.ntmps158
 go_wp2
 go_loopw [4,5] (fun bv iv wr=>∃(b i:Nat) (bs:List Int),bv=.int .i64 b/\iv=.int .i64 i/\1<=i/\b<i/\(i<=n\/i=1)/\bs.length=n1/\Hid (Bz bs/\Ec U.data.toList bs i/\Rf.Fz U.data.toList i b)/\Hid (aQ wr w.heap.size bs)/\Below w.heap.size w wr) (fun _ iv _=>n-(intOf iv).toNat)
 case atStart =>
  refine⟨0,1,List.replicate n1 0,rfl,rfl,aah _,by omega,.inr rfl,by simp,⟨Ix _,fun m h1 h2=>⟨0,by rw[aab,ach];split<;>rfl,by rw[show m=1 by omega];exact Rf.FA _⟩,Rf.FA _⟩,?_,ae _ _⟩;show _=_;rw[<-HZ.out];exact ah w _
 case round =>
  obtain⟨b,i,bs,rfl,rfl,hi1,hbi,hin,hbl,HB,HL,hbe⟩:=hrel;by_cases hlt:i<n
  ·have G9:(i:Int)<(n:Int):=by omega
   have ix:=IDX.out i hlt;have EQi:=EQ.out i;have NEi:=NE.out i;generalize (U.data.toList.getD i 0).toNat=x at *;have EQI:Hid (∀j:Nat,x=(U.data.toList.getD j 0).toNat->U.data.toList.getD j 0=U.data.toList.getD i 0):=EQi;have NEI:Hid (∀j:Nat,¬x=(U.data.toList.getD j 0).toNat->U.data.toList.getD j 0≠U.data.toList.getD i 0):=NEi;clear EQi NEi;go_wp2
   go_loopw [4] (fun bv wq=>∃b:Nat,bv=.int .i64 b/\b<i/\Hid (Rf.vN U.data.toList i b)/\Hid (aQ wq w.heap.size bs)/\Below w.heap.size w wq) (fun bv _=>(intOf bv).toNat)
   case atStart=>exact⟨b,rfl,hbi,HB.out.2.2.abX,HL,hbe⟩
   case round =>
    clear HL hbe hbi;obtain⟨b,rfl,hbi,UQ,HL,hbe⟩:=hrel;have iy:=IDX.out b (by omega);have EQb:=EQI.out b;have NEb:=NEI.out b;generalize (U.data.toList.getD b 0).toNat=y at *;have Zl:Hid (x=y->U.data.toList.getD b 0=U.data.toList.getD i 0):=EQb;have NEB:Hid (¬x=y->U.data.toList.getD b 0≠U.data.toList.getD i 0):=NEb;clear EQb NEb;by_cases hb0:0<b
    ·have hbd:decide ((b:Int)>0)=true:=by simp;omega
     by_cases hxy:x=y
     ·have hxe:((x:Int) != (y:Int))=false:=by simp[hxy]
      have hxq:((x:Int)==(y:Int))=true:=by simp[hxy]
      have ci:=HL.out.at_ (i+1) (by omega);have fzL:∀j,wr.frozen? ⟨w.heap.size,j,none⟩=false:=fun j=>aaI wr w.heap.size j _ _ HL.out;have hlL:w.heap.size<wr.heap.size:=aaa HL.out;have HB2:Hid (Bz (bs.set (i+1) ((b:Int)+1))/\Ec U.data.toList (bs.set (i+1) ((b:Int)+1)) (i+1)/\Rf.Fz U.data.toList (i+1) (b+1)):=⟨HB.out.1.set (i+1) _ (by omega) (by omega),HB.out.2.1.set (b+1) (UQ.out.hit (Zl.out hxy)) (by omega),UQ.out.hit (Zl.out hxy)⟩
      have HS:∀m,Hid (aQ ((wr.drewN m).setCell ⟨w.heap.size,i+1,none⟩ (.int .i64 ((b:Int)+1))) w.heap.size (bs.set (i+1) ((b:Int)+1))):=fun m=>aQ.set (w:=wr.drewN m) HL.out (i+1) _;have Yb:Hid (∀m,Below w.heap.size w ((wr.drewN m).setCell ⟨w.heap.size,i+1,none⟩ (.int .i64 ((b:Int)+1)))):=fun m=>(aaD hbe m).setCell (p:=⟨w.heap.size,i+1,none⟩) (aah _) _;go_wp2
      go_quiet (fail)
      go_wp2
      go_quiet (fail)
      go_wp2
      go_roundw
      case rel=>exact⟨b+1,i+1,bs.set (i+1) ((b:Int)+1),by go_num,by go_num,by omega,by omega,by omega,by rw[abd];exact hbl,HB2,HS _,Yb.out _⟩
      case measure=>simp[intOf];omega
     ·have hxe:((x:Int) != (y:Int))=true:=by simp;omega
      have hbb:=HB.out.1 b;have U9:=HB.out.2.1 b (by omega) (by omega);have cb:=HL.out.at_ b (by omega);obtain⟨b2,hb2⟩:∃b2:Nat,bs.getD b 0=(b2:Int):=⟨(bs.getD b 0).toNat,by omega⟩
      rw[hb2]at cb hbb U9
      have Z6:Hid (Rf.vN U.data.toList i b2):=by
       obtain⟨c,e,hm⟩:=U9;have:b2=c:=by omega
       subst this;exact UQ.out.next (NEB.out hxy) hm
      clear U9;go_wp2
      go_quiet (fail)
      go_wp2
      go_roundw
      case rel=>exact⟨b2,rfl,by omega,Z6,HL,aaD hbe _⟩
      case measure=>simp[intOf];omega
    ·have hbd:decide ((b:Int)>0)=false:=by simp;omega
     by_cases hxy:x=y
     ·have hxq:((x:Int)==(y:Int))=true:=by simp[hxy]
      have ci:=HL.out.at_ (i+1) (by omega);have fzL:∀j,wr.frozen? ⟨w.heap.size,j,none⟩=false:=fun j=>aaI wr w.heap.size j _ _ HL.out;have hlL:w.heap.size<wr.heap.size:=aaa HL.out;have HB2:Hid (Bz (bs.set (i+1) ((b:Int)+1))/\Ec U.data.toList (bs.set (i+1) ((b:Int)+1)) (i+1)/\Rf.Fz U.data.toList (i+1) (b+1)):=⟨HB.out.1.set (i+1) _ (by omega) (by omega),HB.out.2.1.set (b+1) (UQ.out.hit (Zl.out hxy)) (by omega),UQ.out.hit (Zl.out hxy)⟩
      have HS:∀m,Hid (aQ ((wr.drewN m).setCell ⟨w.heap.size,i+1,none⟩ (.int .i64 ((b:Int)+1))) w.heap.size (bs.set (i+1) ((b:Int)+1))):=fun m=>aQ.set (w:=wr.drewN m) HL.out (i+1) _;have Yb:Hid (∀m,Below w.heap.size w ((wr.drewN m).setCell ⟨w.heap.size,i+1,none⟩ (.int .i64 ((b:Int)+1)))):=fun m=>(aaD hbe m).setCell (p:=⟨w.heap.size,i+1,none⟩) (aah _) _;go_wp2
      go_quiet (fail)
      go_wp2
      go_quiet (fail)
      go_wp2
      go_roundw
      case rel=>exact⟨b+1,i+1,bs.set (i+1) ((b:Int)+1),by go_num,by go_num,by omega,by omega,by omega,by rw[abd];exact hbl,HB2,HS _,Yb.out _⟩
      case measure=>simp[intOf];omega
     ·have hxq:((x:Int)==(y:Int))=false:=by simp;omega
      have ci:=HL.out.at_ (i+1) (by omega);have fzL:∀j,wr.frozen? ⟨w.heap.size,j,none⟩=false:=fun j=>aaI wr w.heap.size j _ _ HL.out;have hlL:w.heap.size<wr.heap.size:=aaa HL.out;have Yc:b=0:=by omega
      have HB2:Hid (Bz (bs.set (i+1) (b:Int))/\Ec U.data.toList (bs.set (i+1) (b:Int)) (i+1)/\Rf.Fz U.data.toList (i+1) b):=by
       have hmx:Rf.Fz U.data.toList (i+1) b:=by
        have h1:=UQ.out;have h2:=NEB.out hxy;rw[Yc]at h1 h2 ⊢;exact h1.miss h2
       exact⟨HB.out.1.set (i+1) _ (by omega) (by omega),HB.out.2.1.set b hmx (by omega),hmx⟩
      clear Yc;have HS:∀m,Hid (aQ ((wr.drewN m).setCell ⟨w.heap.size,i+1,none⟩ (.int .i64 (b:Int))) w.heap.size (bs.set (i+1) (b:Int))):=fun m=>aQ.set (w:=wr.drewN m) HL.out (i+1) _;have Yb:Hid (∀m,Below w.heap.size w ((wr.drewN m).setCell ⟨w.heap.size,i+1,none⟩ (.int .i64 (b:Int)))):=fun m=>(aaD hbe m).setCell (p:=⟨w.heap.size,i+1,none⟩) (aah _) _;go_wp2
      go_quiet (fail)
      go_wp2
      go_quiet (fail)
      go_wp2
      go_roundw
      case rel=>exact⟨b,i+1,bs.set (i+1) (b:Int),by go_num,by go_num,by omega,by omega,by omega,by rw[abd];exact hbl,HB2,HS _,Yb.out _⟩
      case measure=>simp[intOf];omega
  ·have G9:¬(i:Int)<(n:Int):=by omega
   have hwb:IntKind.i64.wrap ((n:Int)-(b:Int))=((n-b:Nat):Int):=(aao _ (by omega)).trans (by omega);go_wp2
   go_ret
   refine⟨n-b,aI (by first|exact hwb|omega),by omega,by omega,?_,hbe⟩;have hul:=HUL.out;by_cases h0:n=0
   ·rw[show n-b=0 by omega];exact Rf.Iw (by omega)
   ·rw[<-hul];refine Rf.Mh ?_;rw[hul,<-show i=n by omega];exact HB.out.2.2
end
theorem Mj (j:Nat)(h:j<256):(Rf.bQ.getD j 0).toNat<=9 :=
 (show ∀j,j<256->(Rf.bQ.getD j 0).toNat<=9 by decide +kernel) j h
theorem Iy (j:Nat)(h:j<29):(Rf.bQ.getD (257+j) 0).toNat<=8 :=
 (show ∀j,j<29->(Rf.bQ.getD (257+j) 0).toNat<=8 by decide +kernel) j h
theorem Mk (j:Nat):(bd.getD j 0).toNat<=5:=by
 by_cases h:j<30
 ·exact (show ∀j,j<30->(bd.getD j 0).toNat<=5 by decide +kernel) j h
 ·have:bd.getD j 0=0:=by rw[aab,aaC (by simp[bd];omega)];rfl
  rw[this];decide
def eo (T:List UInt8)(p:Nat)(s:Nat×Nat):Nat:=(ay Rf.bQ bd (dF T p s)).length
theorem Iz (T:List UInt8)(p:Nat)(s:Nat×Nat)(r:List (Nat×Nat)):(ay Rf.bQ bd (ar T p (s::r))).length=eo T p s+(ay Rf.bQ bd (ar T (p+s.1) r)).length:=by
 rw[ar,eo,ay,List.flatMap_append,aac];rfl
theorem Ml (T:List UInt8)(p:Nat):(ay Rf.bQ bd (ar T p [])).length=7:=by
 simp only[ar,ay,List.flatMap_cons,List.flatMap_nil,abp,aac,Rf.cM,Rf.aC];decide +kernel
theorem Mm (T:List UInt8)(p l:Nat):eo T p (l,0)<=9:=by
 simp only[eo,dF,if_true,ay,List.flatMap_cons,List.flatMap_nil,abp,aac,Rf.cM,Rf.aC];have:=Mj (T.getD p 0).toNat (T.getD p 0).toNat_lt;simp only[ace,if_false];omega
theorem IA (T:List UInt8)(p l d:Nat)(h1:3<=l)(h2:l<=258)(h3:1<=d)(h4:d<=32768):eo T p (l,d)<=31/\(l=258->eo T p (l,d)<=26):=by
 have l1:=Rf.tv l h1 h2;have d1:=Rf.tB d h3 h4;have a:=Iy (Rf.gi l) (by omega);have b:=Mk (Rf.ip d);have c:=CX _ l1.1;have e:=CY _ d1.1;have hd:¬d=0:=by omega
 have hc:eo T p (l,d)=(Rf.bQ.getD (257+Rf.gi l) 0).toNat+Rf.lb (Rf.gi l)+((bd.getD (Rf.ip d) 0).toNat+Rf.db (Rf.ip d)):=by
  simp only[eo,dF,aai hd,ay,List.flatMap_cons,List.flatMap_nil,abp,aac,Rf.cM,Rf.aC,ace,if_false,if_true]
 rw[hc];refine⟨by omega,fun q=>?_⟩;subst q;have:Rf.lb (Rf.gi 258)=0:=by decide
 omega
def QB (per q p:Nat):Nat:=if p<per then 11*(per-p)+31+(26*((q-p)/258)+31) else 26*((q-p)/258)+min 31 (16*((q-p)%258))
theorem FE (U T:List UInt8)(per q:Nat)(hP:Rf.Iv T per)(hp:per<=32768)(hq:q<=T.length):∀(S:List (Nat×Nat)) (u p:Nat),Rf.Fits T p S q->Rf.Bw T per q p S->(ay Rf.bQ bd (ar U u S)).length<=QB per q p+7
 | [],u,p,_,_=>by rw[Ml];omega
 | (l,d)::r,u,p,hf,hb=>by
  have hl:=kM T hf.2;simp only at hl;have ih:=FE U T per q hP hp hq r (u+l) (p+l) hf.2 hb.2;rw[Iz];simp only
  have hs:(d=0/\l=1/\eo U u (l,d)<=9)\/(3<=l/\l<=258/\eo U u (l,d)<=31/\(l=258->eo U u (l,d)<=26)):=by
   rcases hf.1 with h|h
   ·obtain⟨rfl,rfl⟩:d=0/\l=1:=⟨h.1,h.2.1⟩
    exact .inl ⟨rfl,rfl,Mm U u 1⟩
   ·obtain⟨a,b,c,e⟩:3<=l/\l<=258/\1<=d/\d<=32768:=⟨h.1,h.2.1,h.2.2.1,h.2.2.2.1⟩
    have:=IA U u l d a b c e;exact .inr ⟨a,b,this.1,this.2⟩
  generalize eo U u (l,d)=c at *;generalize (ay Rf.bQ bd (ar U (u+l) r)).length=R at *;by_cases h1:p<per
  ·unfold QB at ih ⊢;rw[aaj h1];by_cases h2:p+l<per
   ·rw[aaj h2]at ih;have e1:(q-(p+l))/258<=(q-p)/258:=Nat.div_le_div_right (by omega);rcases hs with h|h<;>omega
   ·rw[aai h2]at ih;have e1:(q-(p+l))/258<=(q-p)/258:=Nat.div_le_div_right (by omega);rcases hs with h|h<;>omega
  ·unfold QB at ih ⊢;rw[aai h1];rw[aai (by omega)]at ih
   have hbg:l=if 3<=min (q-p) 258 then min (q-p) 258 else 1:=hb.1 (by omega) hp (fun k hk=>by
    have:=hP (p+k-per) (by omega);rw[show p+k-per+per=p+k by omega]at this
    exact this.symm)
   obtain⟨n,hn⟩:∃n,q=p+n:=⟨q-p,by omega⟩
   subst hn;rw[show p+n-p=n by omega]at hbg ⊢;rw[show p+n-(p+l)=n-l by omega]at ih;split at hbg
   ·rcases hs with h|h<;>omega
   ·rcases hs with h|h<;>omega
end Go.Proofs.YtmfijackgekioabGreatDoor
