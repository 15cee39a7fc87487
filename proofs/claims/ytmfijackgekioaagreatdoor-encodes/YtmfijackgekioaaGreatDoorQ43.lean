import Derived.Test.YtmfijackgekioaaGreatDoorQ40
set_option maxHeartbeats 8000000
set_option maxRecDepth 100000
namespace Go.Proofs.YtmfijackgekioaaGreatDoor
open Go.RowKit Go.Maps
def Rf.Big (T:List UInt8)(per e p l:Nat):Prop:=per<=p->per<=32768->(∀k,k<min (e-p) 258->T.getD (p+k) 0=T.getD (p+k-per) 0)->l=if 3<=min (e-p) 258 then min (e-p) 258 else 1
def Rf.Au (T:List UInt8)(per e:Nat):Nat->List (Nat×Nat)->Prop
 | _,[]=>True
 | p,s::r=>Rf.Big T per e p s.1/\Rf.Au T per e (p+s.1) r
theorem wD {T:List UInt8}{per e:Nat}:∀(S:List (Nat×Nat)) (p q:Nat) (s:Nat×Nat),Rf.Au T per e p S->Rf.Fits T p S q->Rf.Big T per e q s.1->Rf.Au T per e p (S++[s])
 | [],p,q,s,_,h,hs=>by
  cases h;exact⟨hs,trivial⟩
 | x::r,p,q,s,hb,h,hs=>⟨hb.1,wD r (p+x.1) q s hb.2 h.2 hs⟩
theorem Av {T:List UInt8}{per e p l d:Nat}(h:jj T per p (min (e-p) 258) l d):Rf.Big T per e p l:=by
 intro h1 h2 h3;obtain⟨ho,hm⟩:=h;split
 ·rename_i h4;have:=hm h1 h2 _ (aad _) h4 h3;rcases ho with⟨rfl,_⟩|⟨_,q,_⟩<;>omega
 ·rcases ho with⟨rfl,_⟩|⟨q1,q2,_⟩<;>omega
theorem Gb {T:List UInt8}{per e p l d x1 x2:Nat}(h:jj T per p (min (e-p) 258) l d)(k:jj T per (p+1) (min (e-(p+1)) 258) x1 x2)(hlt:l<x1):Rf.Big T per e p 1:=by
 intro h1 h2 h3;have hb:=Av h h1 h2 h3;split
 ·rename_i h4;rw[aaf h4]at hb;rcases k.1 with⟨rfl,_⟩|⟨_,q,_⟩<;>omega
 ·rfl
structure Walk (w0 w:World) (F M G Xs en per:Nat) (T:ByteArray) (start n p:Nat) (S:List (Nat×Nat)) (sv0 sv:Value) (H:Nat):Prop where
 fd:Fd w F M G en per T n
 st:x7 w Xs S sv
 fit:Rf.Fits T.data.toList start S p
 big:Rf.Au T.data.toList per (min (start+65535) T.size) start S
 ow:sv.ownBlock≠some H/\(sv.ownBlock=sv0.ownBlock\/∃g,sv.ownBlock=some g/\w0.heap.size<=g)
 kp:Kp (fun k=>k=M\/k=G\/k=Xs\/sv0.ownBlock=some k) w0 w
 ne:F<Xs/\M<Xs/\G<Xs/\Xs<H/\w0.heap.size<=H/\Xs<w0.heap.size
theorem Walk.kept {w0 w w':World}{F M G Xs en per start n p H:Nat}{T:ByteArray}{S:List (Nat×Nat)}{sv0 sv:Value}(h:Walk w0 w F M G Xs en per T start n p S sv0 sv H)(k:Kp (fun k=>k=H\/(H<k/\sv.ownBlock≠some k)) w w'):Walk w0 w' F M G Xs en per T start n p S sv0 sv H:=by
 obtain⟨n1,n2,n3,n4,n5,n6⟩:=h.ne;obtain⟨l1,l2,l3⟩:=h.fd.lt;have hx:=aab h.st.box;refine⟨h.fd.kept (fun j hj=>k.block j (by rcases hj with rfl|rfl|rfl<;>assumption) (fun e=>by rcases hj with rfl|rfl|rfl<;>omega)),h.st.kept (fun j hj=>?_),h.fit,h.big,h.ow,?_,h.ne⟩
 ·rcases hj with rfl|hj
  ·exact k.block _ hx (fun e=>by omega)
  ·exact k.block j (h.st.lt j hj).2 (fun e=>by
    rcases e with rfl|e
    ·exact h.ow.1 hj
    ·exact e.2 hj)
 ·exact h.kp.then k (fun i hi e=>by omega)
theorem Walk.below {w0 w w':World}{F M G Xs en per start n p H:Nat}{T:ByteArray}{S:List (Nat×Nat)}{sv0 sv:Value}(h:Walk w0 w F M G Xs en per T start n p S sv0 sv H)(k:Below w.heap.size w w'):Walk w0 w' F M G Xs en per T start n p S sv0 sv H:=h.kept (Kp.aJ k)
theorem Walk.set2 {w0 w:World}{F M G Xs en per start n p H:Nat}{T:ByteArray}{S:List (Nat×Nat)}{sv0 sv:Value}(h:Walk w0 w F M G Xs en per T start n p S sv0 sv H)(X:Nat)(hX:X=H\/(H<X/\sv.ownBlock≠some X))(a b:Value):Walk w0 ((w.setCell ⟨X,0,none⟩ a).setCell ⟨X,1,none⟩ b) F M G Xs en per T start n p S sv0 sv H :=
 h.kept (((Kp.refl _ w).setCell (p:=⟨X,0,none⟩) (.inl hX) a).setCell (p:=⟨X,1,none⟩) (.inl hX) b)
theorem Walk.rem {w0 w w':World}{F M G Xs en per start n n' p H:Nat}{T:ByteArray}{S:List (Nat×Nat)}{sv0 sv:Value}(h:Walk w0 w F M G Xs en per T start n p S sv0 sv H)(k:Kp (fun k=>k=M\/k=G) w w')(hf:Fd w' F M G en per T n'):Walk w0 w' F M G Xs en per T start n' p S sv0 sv H:=by
 obtain⟨n1,n2,n3,n4,n5,n6⟩:=h.ne;have hx:=aab h.st.box;refine⟨hf,h.st.kept (fun j hj=>?_),h.fit,h.big,h.ow,h.kp.then k (fun i _ e=>by rcases e with rfl|rfl;exact .inl rfl;exact .inr (.inl rfl)),h.ne⟩;rcases hj with rfl|hj
 ·exact k.block _ hx (fun e=>by omega)
 ·have:=h.st.lt j hj;exact k.block j this.2 (fun e=>by omega)
theorem Walk.push {w0 w w':World}{F M G Xs en per start n p H l d:Nat}{T:ByteArray}{S:List (Nat×Nat)}{sv0 sv FY:Value}(h:Walk w0 w F M G Xs en per T start n p S sv0 sv H)(hs:x7 w' Xs (S++[(l,d)]) FY)(ho:FY.ownBlock=sv.ownBlock\/∃g,FY.ownBlock=some g/\w.heap.size<=g)(k:Kp (fun k=>k=Xs\/sv.ownBlock=some k) w w')(hst:Rf.r8 T.data.toList p (l,d))(hbig:Rf.Big T.data.toList per (min (start+65535) T.size) p l)(hH:H<w.heap.size): Walk w0 w' F M G Xs en per T start n (p+l) (S++[(l,d)]) sv0 FY H:=by
 obtain⟨n1,n2,n3,n4,n5,n6⟩:=h.ne;obtain⟨l1,l2,l3⟩:=h.fd.lt;have hrow:∀j,sv.ownBlock=some j->Xs+1<=j:=fun j hj=>(h.st.lt j hj).1;refine⟨h.fd.kept (fun j hj=>k.block j (by rcases hj with rfl|rfl|rfl<;>assumption) (fun e=>by rcases e with e|e;(rcases hj with rfl|rfl|rfl<;>omega);(have:=hrow j e;rcases hj with rfl|rfl|rfl<;>omega))),hs,wx _ S start p (l,d) h.fit hst,wD S start p (l,d) h.big h.fit hbig,⟨fun e=>?_,?_⟩,h.kp.then k (fun i hi e=>?_),h.ne⟩
 ·rcases ho with ho|⟨g,hg,hge⟩
  ·exact h.ow.1 (ho▸e)
  ·rw[hg]at e;cases e;omega
 ·rcases ho with ho|⟨g,hg,hge⟩
  ·rw[ho];exact h.ow.2
  ·exact .inr ⟨g,hg,by have:=h.kp.size;omega⟩
 ·rcases e with rfl|e
  ·exact .inr (.inr (.inl rfl))
  ·rcases h.ow.2 with q|⟨g,hg,hge⟩
   ·exact .inr (.inr (.inr (q▸e)))
   ·rw[hg]at e;cases e;omega
theorem jU (T:List UInt8):∀{p q:Nat} {S:List (Nat×Nat)},Rf.Fits T p S q->p+S.length<=q
 | _,_,[],h=>Nat.le_of_eq h
 | p,q,s::r,h=>by
  have:=jU T h.2;have h1:1<=s.1:=by rcases h.1 with⟨_,b,_⟩|⟨b,_⟩<;>omega
  rw[aao];omega
theorem M0 (F M G Xs en per start end_:Nat)(T:ByteArray)(sv0:Value)(w:World)(hf:Fd w F M G en per T start)(hs:x7 w Xs [] sv0)(hne:F<Xs/\M<Xs/\G<Xs)(hse:start<=end_)(hel:end_<=start+65535)(he:end_<=T.size)(hend:end_=min (start+65535) T.size)(hT:T.size<=4500000)(gz:0<T.size->1<=per)(I3:per<=4500000): Calls Tryz.prog 180 #[.pointer (some ⟨F,0,none⟩),.int .i64 start,.int .i64 end_,.func (.func 181) #[] #[.pointer (some ⟨Xs,0,none⟩)]] w fun e w'=>e=.returned (.tuple #[])/\∃S sv,Fd w' F M G en per T end_/\x7 w' Xs S sv/\(Rf.Fits T.data.toList start S end_/\Rf.Au T.data.toList per (min (start+65535) T.size) start S)/\(sv.ownBlock=sv0.ownBlock\/∃g,sv.ownBlock=some g/\w.heap.size<=g)/\Kp (fun k=>k=M\/k=G\/k=Xs\/sv0.ownBlock=some k) w w':=by
 have hcall:=QF;have Ad:Hid (min (start+65535) T.size=end_):=hend.symm;clear hend;have vO:Hid (start<=end_/\end_<=T.size/\T.size<=4500000):=⟨hse,he,hT⟩
 have Ap:Hid ((0<T.size->1<=per)/\per<=4500000):=⟨gz,I3⟩
 have Wd:T.data.toList.length=T.size:=by rw[aaN];rfl
 go_enter Tryz.func180,Tryz.ntmps180
 go_wp2_with fail;refine (nG F M G en per start end_ T w hf hse he hT gz I3).mono ?_;rintro e w1 ⟨l0,d0,rfl,Vh,hb1⟩;go_wp2;have k1:=ag w1 (.cells #[.int .i64 (l0:Nat),.int .i64 (d0:Nat)] 216);have x1:=ak w1 (.cells #[.int .i64 (l0:Nat),.int .i64 (d0:Nat)] 216);have B1:Below w.heap.size w (w1.alloc (.cells #[.int .i64 (l0:Nat),.int .i64 (d0:Nat)] 216)):=hb1.trans (k1.mono hb1.size);have hxl:=aab hs.box;have hw1:=hb1.size;obtain⟨H,hH⟩:∃H,w1.heap.size=H:=⟨_,rfl⟩
 rw[hH]at x1
 have WA:Walk w (w1.alloc (.cells #[.int .i64 (l0:Nat),.int .i64 (d0:Nat)] 216)) F M G Xs en per T start (start) (start) [] sv0 sv0 H :=
  ⟨hf.below B1,hs.below B1,rfl,trivial,⟨fun e=>by have:=(hs.lt H e).2;omega,.inl rfl⟩,Kp.aJ B1,by omega⟩
 rw[hH];generalize w1.alloc (.cells #[.int .i64 (l0:Nat),.int .i64 (d0:Nat)] 216)=wA at *;clear hf hs hse he hT gz I3 hb1 k1 B1 hH
 go_loopw [8] (fun pv wr=>∃(p:Nat) (S:List (Nat×Nat)) (sv:Value) (l d:Nat),pv=.int .i64 p/\start<=p/\p<=end_/\Hid (Walk w wr F M G Xs en per T start (p) (p) S sv0 sv H)/\Hid (wr.heap[H]?=some (.cells #[.int .i64 (l:Nat),.int .i64 (d:Nat)] 216 (0,0)))/\Hid (jj T.data.toList per (p) (min (end_-(p)) 258) l d)) (fun pv _=>end_-(intOf pv).toNat)
 case atStart=>exact⟨start,[],sv0,l0,d0,rfl,aad _,vO.out.1,WA,x1,Vh⟩
 case round =>
  clear WA x1 Vh;obtain⟨p,S,sv,l,d,rfl,hsp,hpe,HW,HB,HO⟩:=hrel;by_cases hlt:p<end_
  ·have aeM:(p:Int)<(end_:Int):=by omega
   obtain⟨hst,aeN,hl1,abu⟩:=FZ HO.out.1 hlt (by rw[Wd];exact vO.out.2.1);have xj:Rf.r8 T.data.toList p (1,0):=.inl ⟨rfl,rfl,by rw[Wd];have:=vO.out;omega⟩;have hpM:p+258<=5000000:=by have:=vO.out;omega
   go_wp2_with fail;refine (oA F M G en per p T wr HW.out.fd (by have:=vO.out;omega) vO.out.2.2).mono ?_;rintro e u1 ⟨rfl,fd1,pD⟩;have W1:=HW.out.rem pD fd1;have H1:u1.heap[H]?=some (.cells #[.int .i64 (l:Nat),.int .i64 (d:Nat)] 216 (0,0)):=fY HB.out pD (fun e=>by have:=HW.out.ne;omega);have YX:Hid (Rf.Big T.data.toList per (min (start+65535) T.size) p l):=by show Rf.Big _ _ _ _ _;rw[Ad.out];exact Av HO.out
   clear HW HB fd1 pD;have k2:=ag u1 (.cells #[.int .i64 0,.int .i64 0] 216);have X2:=ak u1 (.cells #[.int .i64 0,.int .i64 0] 216);have W2:=W1.below k2;have H2:(u1.alloc (.cells #[.int .i64 0,.int .i64 0] 216)).heap[H]?=_:=(k2.block _ (aab H1)).trans H1;have QI:H<u1.heap.size:=aab H1;have hX:sv.ownBlock≠some u1.heap.size:=fun e=>by have:=(W1.st.lt _ e).2;omega
   obtain⟨y0,y1,yf,yl⟩:=aQ H1;clear W1 H1;by_cases h64:l<64
   ·have YY:(l:Int)<64:=by omega
    have Dt:=nG F M G en per (p+1) end_ T (u1.alloc (.cells #[.int .i64 0,.int .i64 0] 216)) W2.fd (by omega) vO.out.2.1 vO.out.2.2 Ap.out.1 Ap.out.2;rw[show ((p+1:Nat):Int)=(p:Int)+1 by omega]at Dt;go_wp2_with fail;refine Dt.mono ?_;rintro e u3 ⟨x1,x2,rfl,xZ,hb3⟩;have W3:=W2.below hb3;have H3:u3.heap[H]?=some (.cells #[.int .i64 (l:Nat),.int .i64 (d:Nat)] 216 (0,0)):=(hb3.block _ (aab H2)).trans H2;have X3:=(hb3.block _ (aab X2)).trans X2;obtain⟨X,Rj⟩:∃X,u1.heap.size=X:=⟨_,rfl⟩
    rw[Rj]at QI hX X3;have rx:H≠X:=by omega
    have WU:=W3.set2 X (.inr ⟨QI,hX⟩) (.int .i64 (x1:Nat)) (.int .i64 (x2:Nat));have HU:((u3.setCell ⟨X,0,none⟩ (.int .i64 (x1:Nat))).setCell ⟨X,1,none⟩ (.int .i64 (x2:Nat))).heap[H]?=some (.cells #[.int .i64 (l:Nat),.int .i64 (d:Nat)] 216 (0,0)):=(aag _ ⟨X,1,none⟩ _ _ rx).trans ((aag _ ⟨X,0,none⟩ _ _ rx).trans H3);have XU:=gK X3 (.int .i64 (x1:Nat)) (.int .i64 (x2:Nat));have Iv:Hid (jj T.data.toList per (p+1) (min (end_-(p+1)) 258) x1 x2):=xZ;have YZ:Hid (l<x1->Rf.Big T.data.toList per (min (start+65535) T.size) p 1):=fun h=>by rw[Ad.out];exact Gb HO.out xZ h
    clear y0 y1 yf yl;obtain⟨y0,y1,yf,yl⟩:=aQ H3;obtain⟨v0,v1,vf,vl⟩:=aQ X3;rw[Rj];clear W2 H2 X2 k2 W3 H3 X3 Dt xZ hb3;by_cases h21:l<x1
    ·have Y0:(x1:Int)>(l:Int):=by omega
     have WV:=WU.set2 H (.inl rfl) (.int .i64 1) (.int .i64 0);have HV:=gK HU (.int .i64 1) (.int .i64 0);have XV:=(aag _ ⟨H,1,none⟩ (.int .i64 0) X (Ne.symm rx)).trans ((aag _ ⟨H,0,none⟩ (.int .i64 1) X (Ne.symm rx)).trans XU);go_wp2_with fail;clear WU HU XU;generalize ((((u3.setCell ⟨X,0,none⟩ (.int .i64 (x1:Nat))).setCell ⟨X,1,none⟩ (.int .i64 (x2:Nat))).setCell ⟨H,0,none⟩ (.int .i64 1)).setCell ⟨H,1,none⟩ (.int .i64 0))=u5 at *;clear y0 y1 yf yl v0 v1 vf vl;have WU:=WV;have HU:u5.heap[H]?=some (.cells #[.int .i64 (1:Nat),.int .i64 (0:Nat)] 216 (0,0)):=HV;have XU:u5.heap[X]?=some (.cells #[.int .i64 (x1:Nat),.int .i64 (x2:Nat)] 216 (0,0)):=XV;clear WV HV XV;have Cv:=aab HU;refine (yb Xs (1) (0) S sv u5 WU.st (by have:=jU _ WU.fit;omega)).mono ?_;rintro e u6 ⟨rfl,ry,hs6,yp,iV⟩;have W6:Walk w u6 F M G Xs en per T start (p+1) (p+1) (S++[(1,0)]) sv0 ry H:=WU.push hs6 yp iV xj (YZ.out h21) Cv;have H6:u6.heap[H]?=some (.cells #[.int .i64 (1:Nat),.int .i64 (0:Nat)] 216 (0,0)):=fY HU iV (fun e=>by rcases e with e|e;(have:=WU.ne;omega);exact WU.ow.1 e);have X6:u6.heap[X]?=some (.cells #[.int .i64 (x1:Nat),.int .i64 (x2:Nat)] 216 (0,0)):=fY XU iV (fun e=>by rcases e with e|e;(have:=WU.ne;omega);exact hX e);have Vi:H<X/\ry.ownBlock≠some X:=⟨QI,fun e=>by rcases yp with q|⟨g,q1,q2⟩;exact hX (q▸e);(rw[q1]at e;cases e;have:=aab XU;omega)⟩
     clear hs6 yp iV;obtain⟨y0,y1,yf,yl⟩:=aQ H6;obtain⟨v0,v1,vf,vl⟩:=aQ X6;have HW:Hid (Walk w ((u6.setCell ⟨H,0,none⟩ (.int .i64 (x1:Nat))).setCell ⟨H,1,none⟩ (.int .i64 (x2:Nat))) F M G Xs en per T start (p+1) (p+1) (S++[(1,0)]) sv0 ry H):=W6.set2 H (.inl rfl) _ _;have QJ:Hid (((u6.setCell ⟨H,0,none⟩ (.int .i64 (x1:Nat))).setCell ⟨H,1,none⟩ (.int .i64 (x2:Nat))).heap[H]?=some (.cells #[.int .i64 (x1:Nat),.int .i64 (x2:Nat)] 216 (0,0))):=gK H6 _ _;clear W6 H6 X6 WU HU XU hcall;go_wp2
     go_loopw [11] (fun iv wq=>iv=.int .i64 1/\wq=u6) (fun _ _=>0)
     case atStart=>exact⟨rfl,rfl⟩
     case round =>
      obtain⟨rfl,hwq⟩:=hrel;subst hwq;go_wp2
      go_roundw
      case rel=>exact⟨p+1,S++[(1,0)],ry,x1,x2,by go_num,by omega,by omega,HW,QJ,Iv⟩
      case measure=>simp[intOf];omega
    ·have Y0:¬(x1:Int)>(l:Int):=by omega
     go_wp2_with fail;generalize (u3.setCell ⟨X,0,none⟩ (.int .i64 (x1:Nat))).setCell ⟨X,1,none⟩ (.int .i64 (x2:Nat))=u5 at *;clear y0 y1 yf yl v0 v1 vf vl;by_cases Y1:l=1
     ·subst Y1;have Cv:=aab HU;refine (yb Xs (1) (d) S sv u5 WU.st (by have:=jU _ WU.fit;omega)).mono ?_;rintro e u6 ⟨rfl,ry,hs6,yp,iV⟩;have W6:Walk w u6 F M G Xs en per T start (p+1) (p+1) (S++[(1,d)]) sv0 ry H:=WU.push hs6 yp iV hst YX.out Cv;have H6:u6.heap[H]?=some (.cells #[.int .i64 (1:Nat),.int .i64 (d:Nat)] 216 (0,0)):=fY HU iV (fun e=>by rcases e with e|e;(have:=WU.ne;omega);exact WU.ow.1 e);have X6:u6.heap[X]?=some (.cells #[.int .i64 (x1:Nat),.int .i64 (x2:Nat)] 216 (0,0)):=fY XU iV (fun e=>by rcases e with e|e;(have:=WU.ne;omega);exact hX e);have Vi:H<X/\ry.ownBlock≠some X:=⟨QI,fun e=>by rcases yp with q|⟨g,q1,q2⟩;exact hX (q▸e);(rw[q1]at e;cases e;have:=aab XU;omega)⟩
      clear hs6 yp iV;obtain⟨y0,y1,yf,yl⟩:=aQ H6;obtain⟨v0,v1,vf,vl⟩:=aQ X6;have HW:Hid (Walk w ((u6.setCell ⟨H,0,none⟩ (.int .i64 (x1:Nat))).setCell ⟨H,1,none⟩ (.int .i64 (x2:Nat))) F M G Xs en per T start (p+1) (p+1) (S++[(1,d)]) sv0 ry H):=W6.set2 H (.inl rfl) _ _;have QJ:Hid (((u6.setCell ⟨H,0,none⟩ (.int .i64 (x1:Nat))).setCell ⟨H,1,none⟩ (.int .i64 (x2:Nat))).heap[H]?=some (.cells #[.int .i64 (x1:Nat),.int .i64 (x2:Nat)] 216 (0,0))):=gK H6 _ _;clear W6 H6 X6 WU HU XU hcall;go_wp2
      go_loopw [11] (fun iv wq=>iv=.int .i64 1/\wq=u6) (fun _ _=>0)
      case atStart=>exact⟨rfl,rfl⟩
      case round =>
       obtain⟨rfl,hwq⟩:=hrel;subst hwq;go_wp2
       go_roundw
       case rel=>exact⟨p+1,S++[(1,d)],ry,x1,x2,by go_num,by omega,by omega,HW,QJ,Iv⟩
       case measure=>simp[intOf];omega
     ·clear Iv;have Cv:=aab HU;refine (yb Xs (l) (d) S sv u5 WU.st (by have:=jU _ WU.fit;omega)).mono ?_;rintro e u6 ⟨rfl,ry,hs6,yp,iV⟩;have W6:Walk w u6 F M G Xs en per T start (p+1) (p+l) (S++[(l,d)]) sv0 ry H:=WU.push hs6 yp iV hst YX.out Cv;have H6:u6.heap[H]?=some (.cells #[.int .i64 (l:Nat),.int .i64 (d:Nat)] 216 (0,0)):=fY HU iV (fun e=>by rcases e with e|e;(have:=WU.ne;omega);exact WU.ow.1 e);have X6:u6.heap[X]?=some (.cells #[.int .i64 (x1:Nat),.int .i64 (x2:Nat)] 216 (0,0)):=fY XU iV (fun e=>by rcases e with e|e;(have:=WU.ne;omega);exact hX e);have Vi:H<X/\ry.ownBlock≠some X:=⟨QI,fun e=>by rcases yp with q|⟨g,q1,q2⟩;exact hX (q▸e);(rw[q1]at e;cases e;have:=aab XU;omega)⟩
      clear hs6 yp iV;obtain⟨S6,NK⟩:∃S6,S++[(l,d)]=S6:=⟨_,rfl⟩
      rw[NK]at W6;obtain⟨y0,y1,yf,yl⟩:=aQ H6;have KO:(1:Int)<(l:Int):=by omega
      have nI:Hid (Walk w u6 F M G Xs en per T start (p+1) (p+l) S6 sv0 ry H):=W6;have yh:Hid (u6.heap[H]?=some (.cells #[.int .i64 (l:Nat),.int .i64 (d:Nat)] 216 (0,0))):=H6;have ww:Hid (u6.heap[X]?=some (.cells #[.int .i64 (x1:Nat),.int .i64 (x2:Nat)] 216 (0,0))):=X6;clear WU HU XU W6 H6 X6 NK;go_wp2
      go_loopw [11] (fun iv wq=>∃i:Nat,1<=i/\i<=l/\iv=.int .i64 i/\Hid (Walk w wq F M G Xs en per T start (p+i) (p+l) S6 sv0 ry H)/\Hid (wq.heap[H]?=some (.cells #[.int .i64 (l:Nat),.int .i64 (d:Nat)] 216 (0,0)))/\Hid (wq.heap[X]?=some (.cells #[.int .i64 (x1:Nat),.int .i64 (x2:Nat)] 216 (0,0)))) (fun iv _=>l-(intOf iv).toNat)
      case atStart=>exact⟨1,aad _,by omega,rfl,nI,yh,ww⟩
      case round =>
       clear nI yh ww y0 y1 yf yl;obtain⟨i,hi1,hil,rfl,nI,yh,ww⟩:=hrel;obtain⟨y0,y1,yf,yl⟩:=aQ yh.out;by_cases hlt2:i<l
       ·have hilt:(i:Int)<(l:Int):=by omega
        have hrm:=oA F M G en per (p+i) T _ nI.out.fd (by have:=vO.out;omega) vO.out.2.2;rw[show ((p+i:Nat):Int)=(p:Int)+(i:Int) by omega]at hrm;go_wp2_with fail;refine hrm.mono ?_;rintro e u7 ⟨rfl,Vj,AQ⟩;have UQ:Hid (Walk w u7 F M G Xs en per T start (p+(i+1)) (p+l) S6 sv0 ry H):=nI.out.rem AQ Vj;have Y2:Hid (u7.heap[H]?=some (.cells #[.int .i64 (l:Nat),.int .i64 (d:Nat)] 216 (0,0))):=fY yh.out AQ (fun e=>by have:=nI.out.ne;omega);have Y3:Hid (u7.heap[X]?=some (.cells #[.int .i64 (x1:Nat),.int .i64 (x2:Nat)] 216 (0,0))):=fY ww.out AQ (fun e=>by have:=nI.out.ne;omega);clear hrm Vj AQ nI yh ww y0 y1 yf yl;go_wp2
        go_roundw
        case rel=>exact⟨i+1,by omega,by omega,by go_num,UQ,Y2,Y3⟩
        case measure=>simp[intOf];omega
       ·have QK:i=l:=by omega
        subst QK;have Dt:=nG F M G en per (p+i) end_ T _ nI.out.fd (by omega) vO.out.2.1 vO.out.2.2 Ap.out.1 Ap.out.2;rw[show ((p+i:Nat):Int)=(p:Int)+(i:Int) by omega]at Dt;have Y4:(i:Int)>1:=by omega
        go_wp2_with fail;refine Dt.mono ?_;rintro e u7 ⟨l3,d3,rfl,Kg,BA⟩;have W7:=nI.out.below BA;have H7:u7.heap[H]?=some (.cells #[.int .i64 (i:Nat),.int .i64 (d:Nat)] 216 (0,0)):=(BA.block _ (aab yh.out)).trans yh.out;have X7:u7.heap[X]?=some (.cells #[.int .i64 (x1:Nat),.int .i64 (x2:Nat)] 216 (0,0)):=(BA.block _ (aab ww.out)).trans ww.out;obtain⟨g0,g1,gf,gl⟩:=aQ H7;obtain⟨v0,v1,vf,vl⟩:=aQ X7;have rx:H≠X:=by omega
        have HW:Hid (Walk w ((((u7.setCell ⟨X,0,none⟩ (.int .i64 (l3:Nat))).setCell ⟨X,1,none⟩ (.int .i64 (d3:Nat))).setCell ⟨H,0,none⟩ (.int .i64 (l3:Nat))).setCell ⟨H,1,none⟩ (.int .i64 (d3:Nat))) F M G Xs en per T start (p+i) (p+i) S6 sv0 ry H):=(W7.set2 X (.inr Vi) _ _).set2 H (.inl rfl) _ _;have QJ:Hid (((((u7.setCell ⟨X,0,none⟩ (.int .i64 (l3:Nat))).setCell ⟨X,1,none⟩ (.int .i64 (d3:Nat))).setCell ⟨H,0,none⟩ (.int .i64 (l3:Nat))).setCell ⟨H,1,none⟩ (.int .i64 (d3:Nat))).heap[H]?=some (.cells #[.int .i64 (l3:Nat),.int .i64 (d3:Nat)] 216 (0,0))):=gK ((aag _ ⟨X,1,none⟩ _ _ rx).trans ((aag _ ⟨X,0,none⟩ _ _ rx).trans H7)) _ _;have QL:Hid (jj T.data.toList per (p+i) (min (end_-(p+i)) 258) l3 d3):=Kg;clear Dt Kg BA W7 H7 X7 nI yh ww y0 y1 yf yl hcall;go_wp2
        go_roundw
        case rel=>exact⟨p+i,S6,ry,l3,d3,by go_num,by omega,by omega,HW,QJ,QL⟩
        case measure=>simp[intOf];omega
   ·have YY:¬(l:Int)<64:=by omega
    obtain⟨v0,v1,vf,vl⟩:=aQ X2;have MX:¬(0:Int)>(l:Int):=by omega
    have rx:H≠u1.heap.size:=by omega
    go_wp2_with fail;generalize hu5:u1.alloc (.cells #[.int .i64 0,.int .i64 0] 216)=u5 at *;obtain⟨X,Rj⟩:∃X,u1.heap.size=X:=⟨_,rfl⟩
    rw[Rj]at QI hX X2 rx ⊢;obtain⟨x1,x2,XU⟩:∃x1 x2:Nat,u5.heap[X]?=some (.cells #[.int .i64 (x1:Nat),.int .i64 (x2:Nat)] 216 (0,0)):=⟨0,0,X2⟩
    have WU:=W2;have HU:u5.heap[H]?=some (.cells #[.int .i64 (l:Nat),.int .i64 (d:Nat)] 216 (0,0)):=H2;clear W2 H2 X2 k2 y0 y1 yf yl v0 v1 vf vl hu5 Rj;have Cv:=aab HU;refine (yb Xs (l) (d) S sv u5 WU.st (by have:=jU _ WU.fit;omega)).mono ?_;rintro e u6 ⟨rfl,ry,hs6,yp,iV⟩;have W6:Walk w u6 F M G Xs en per T start (p+1) (p+l) (S++[(l,d)]) sv0 ry H:=WU.push hs6 yp iV hst YX.out Cv;have H6:u6.heap[H]?=some (.cells #[.int .i64 (l:Nat),.int .i64 (d:Nat)] 216 (0,0)):=fY HU iV (fun e=>by rcases e with e|e;(have:=WU.ne;omega);exact WU.ow.1 e);have X6:u6.heap[X]?=some (.cells #[.int .i64 (x1:Nat),.int .i64 (x2:Nat)] 216 (0,0)):=fY XU iV (fun e=>by rcases e with e|e;(have:=WU.ne;omega);exact hX e);have Vi:H<X/\ry.ownBlock≠some X:=⟨QI,fun e=>by rcases yp with q|⟨g,q1,q2⟩;exact hX (q▸e);(rw[q1]at e;cases e;have:=aab XU;omega)⟩
    clear hs6 yp iV;obtain⟨S6,NK⟩:∃S6,S++[(l,d)]=S6:=⟨_,rfl⟩
    rw[NK]at W6;obtain⟨y0,y1,yf,yl⟩:=aQ H6;have KO:(1:Int)<(l:Int):=by omega
    have nI:Hid (Walk w u6 F M G Xs en per T start (p+1) (p+l) S6 sv0 ry H):=W6;have yh:Hid (u6.heap[H]?=some (.cells #[.int .i64 (l:Nat),.int .i64 (d:Nat)] 216 (0,0))):=H6;have ww:Hid (u6.heap[X]?=some (.cells #[.int .i64 (x1:Nat),.int .i64 (x2:Nat)] 216 (0,0))):=X6;clear WU HU XU W6 H6 X6 NK;go_wp2
    go_loopw [11] (fun iv wq=>∃i:Nat,1<=i/\i<=l/\iv=.int .i64 i/\Hid (Walk w wq F M G Xs en per T start (p+i) (p+l) S6 sv0 ry H)/\Hid (wq.heap[H]?=some (.cells #[.int .i64 (l:Nat),.int .i64 (d:Nat)] 216 (0,0)))/\Hid (wq.heap[X]?=some (.cells #[.int .i64 (x1:Nat),.int .i64 (x2:Nat)] 216 (0,0)))) (fun iv _=>l-(intOf iv).toNat)
    case atStart=>exact⟨1,aad _,by omega,rfl,nI,yh,ww⟩
    case round =>
     clear nI yh ww y0 y1 yf yl;obtain⟨i,hi1,hil,rfl,nI,yh,ww⟩:=hrel;obtain⟨y0,y1,yf,yl⟩:=aQ yh.out;by_cases hlt2:i<l
     ·have hilt:(i:Int)<(l:Int):=by omega
      have hrm:=oA F M G en per (p+i) T _ nI.out.fd (by have:=vO.out;omega) vO.out.2.2;rw[show ((p+i:Nat):Int)=(p:Int)+(i:Int) by omega]at hrm;go_wp2_with fail;refine hrm.mono ?_;rintro e u7 ⟨rfl,Vj,AQ⟩;have UQ:Hid (Walk w u7 F M G Xs en per T start (p+(i+1)) (p+l) S6 sv0 ry H):=nI.out.rem AQ Vj;have Y2:Hid (u7.heap[H]?=some (.cells #[.int .i64 (l:Nat),.int .i64 (d:Nat)] 216 (0,0))):=fY yh.out AQ (fun e=>by have:=nI.out.ne;omega);have Y3:Hid (u7.heap[X]?=some (.cells #[.int .i64 (x1:Nat),.int .i64 (x2:Nat)] 216 (0,0))):=fY ww.out AQ (fun e=>by have:=nI.out.ne;omega);clear hrm Vj AQ nI yh ww y0 y1 yf yl;go_wp2
      go_roundw
      case rel=>exact⟨i+1,by omega,by omega,by go_num,UQ,Y2,Y3⟩
      case measure=>simp[intOf];omega
     ·have QK:i=l:=by omega
      subst QK;have Dt:=nG F M G en per (p+i) end_ T _ nI.out.fd (by omega) vO.out.2.1 vO.out.2.2 Ap.out.1 Ap.out.2;rw[show ((p+i:Nat):Int)=(p:Int)+(i:Int) by omega]at Dt;have Y4:(i:Int)>1:=by omega
      go_wp2_with fail;refine Dt.mono ?_;rintro e u7 ⟨l3,d3,rfl,Kg,BA⟩;have W7:=nI.out.below BA;have H7:u7.heap[H]?=some (.cells #[.int .i64 (i:Nat),.int .i64 (d:Nat)] 216 (0,0)):=(BA.block _ (aab yh.out)).trans yh.out;have X7:u7.heap[X]?=some (.cells #[.int .i64 (x1:Nat),.int .i64 (x2:Nat)] 216 (0,0)):=(BA.block _ (aab ww.out)).trans ww.out;obtain⟨g0,g1,gf,gl⟩:=aQ H7;obtain⟨v0,v1,vf,vl⟩:=aQ X7;have rx:H≠X:=by omega
      have HW:Hid (Walk w ((((u7.setCell ⟨X,0,none⟩ (.int .i64 (l3:Nat))).setCell ⟨X,1,none⟩ (.int .i64 (d3:Nat))).setCell ⟨H,0,none⟩ (.int .i64 (l3:Nat))).setCell ⟨H,1,none⟩ (.int .i64 (d3:Nat))) F M G Xs en per T start (p+i) (p+i) S6 sv0 ry H):=(W7.set2 X (.inr Vi) _ _).set2 H (.inl rfl) _ _;have QJ:Hid (((((u7.setCell ⟨X,0,none⟩ (.int .i64 (l3:Nat))).setCell ⟨X,1,none⟩ (.int .i64 (d3:Nat))).setCell ⟨H,0,none⟩ (.int .i64 (l3:Nat))).setCell ⟨H,1,none⟩ (.int .i64 (d3:Nat))).heap[H]?=some (.cells #[.int .i64 (l3:Nat),.int .i64 (d3:Nat)] 216 (0,0))):=gK ((aag _ ⟨X,1,none⟩ _ _ rx).trans ((aag _ ⟨X,0,none⟩ _ _ rx).trans H7)) _ _;have QL:Hid (jj T.data.toList per (p+i) (min (end_-(p+i)) 258) l3 d3):=Kg;clear Dt Kg BA W7 H7 X7 nI yh ww y0 y1 yf yl hcall;go_wp2
      go_roundw
      case rel=>exact⟨p+i,S6,ry,l3,d3,by go_num,by omega,by omega,HW,QJ,QL⟩
      case measure=>simp[intOf];omega
  ·have hp:p=end_:=by omega
   subst hp;go_wp2
   go_end0
   exact⟨rfl,S,sv,HW.out.fd,HW.out.st,⟨HW.out.fit,HW.out.big⟩,HW.out.ow.2,HW.out.kp⟩
end Go.Proofs.YtmfijackgekioaaGreatDoor
namespace Go.Proofs.YtmfijackgekioaaGreatDoor.Rf
def Bd (T:List UInt8)(i k:Nat):Prop:=k<i/\∀j,j<k->T.getD j 0=T.getD (i-k+j) 0
def Ed (T:List UInt8)(i k:Nat):Prop:=Bd T i k/\∀k',Bd T i k'->k'<=k
def uS (T:List UInt8)(i b:Nat):Prop:=Bd T i b/\∀k,Bd T i k->T.getD k 0=T.getD i 0->k<=b
theorem Ee (T:List UInt8):Ed T 1 0:=⟨⟨by omega,fun j hj=>by omega⟩,fun k hk=>by have:=hk.1;omega⟩
theorem M2 {T:List UInt8}{i k k':Nat}(h:Bd T i k)(h':Bd T i k')(hlt:k'<k):Bd T k k':=by
 refine⟨hlt,fun j hj=>?_⟩;have a:=h'.2 j hj;have b:=h.2 (k-k'+j) (by omega);have:=h.1;rw[a,b,show i-k+(k-k'+j)=i-k'+j by omega]
theorem Vk {T:List UInt8}{i k k':Nat}(h:Bd T i k)(h':Bd T k k'):Bd T i k':=by
 have h1:=h.1;have h2:=h'.1;refine⟨by omega,fun j hj=>?_⟩;rw[h'.2 j hj,h.2 (k-k'+j) (by omega),show i-k+(k-k'+j)=i-k'+j by omega]
theorem M3 {T:List UInt8}{i k:Nat}(h:Bd T i k)(he:T.getD k 0=T.getD i 0):Bd T (i+1) (k+1):=by
 have h1:=h.1;refine⟨by omega,fun j hj=>?_⟩;rw[show i+1-(k+1)+j=i-k+j by omega];by_cases e:j=k
 ·rw[e,he,show i-k+k=i by omega]
 ·exact h.2 j (by omega)
theorem Ef {T:List UInt8}{i k:Nat}(h:Bd T (i+1) (k+1)):Bd T i k/\T.getD k 0=T.getD i 0:=by
 have h1:=h.1;refine⟨⟨by omega,fun j hj=>?_⟩,?_⟩
 ·have:=h.2 j (by omega)
  rwa [show i+1-(k+1)+j=i-k+j by omega]at this
 ·have:=h.2 k (by omega)
  rwa [show i+1-(k+1)+k=i by omega]at this
theorem Ed.Y5 {T:List UInt8}{i b:Nat}(h:Ed T i b):uS T i b:=⟨h.1,fun k hk _=>h.2 k hk⟩
theorem uS.next {T:List UInt8}{i b c:Nat}(h:uS T i b)(hne:T.getD b 0≠T.getD i 0)(hc:Ed T b c):uS T i c:=by
 refine⟨Vk h.1 hc.1,fun k hk he=>?_⟩;have:=h.2 k hk he;have hn:k≠b:=fun e=>hne (e▸he);exact hc.2 k (M2 h.1 hk (by omega))
theorem uS.hit {T:List UInt8}{i b:Nat}(h:uS T i b)(he:T.getD b 0=T.getD i 0):Ed T (i+1) (b+1):=by
 refine⟨M3 h.1 he,fun k hk=>?_⟩;cases k with
 | zero=>omega
 | succ k =>
  obtain⟨h1,h2⟩:=Ef hk;have:=h.2 k h1 h2;omega
theorem uS.miss {T:List UInt8}{i:Nat}(h:uS T i 0)(hne:T.getD 0 0≠T.getD i 0):Ed T (i+1) 0:=by
 refine⟨⟨by omega,fun j hj=>by omega⟩,fun k hk=>?_⟩;cases k with
 | zero=>omega
 | succ k =>
  obtain⟨h1,h2⟩:=Ef hk;have:=h.2 k h1 h2;have:k=0:=by omega
  subst this;exact absurd h2 hne
def Gc (T:List UInt8)(q:Nat):Prop:=∀i,i+q<T.length->T.getD i 0=T.getD (i+q) 0
def ug (T:List UInt8)(per:Nat):Prop:=Gc T per/\∀q,1<=q->Gc T q->per<=q
theorem QM {T:List UInt8}{q:Nat}(h:Gc T q)(h1:1<=q)(h2:q<=T.length):Bd T T.length (T.length-q) :=
 ⟨by omega,fun j hj=>by rw[h j (by omega),show T.length-(T.length-q)+j=j+q by omega]⟩
theorem QN {T:List UInt8}{b:Nat}(h:Bd T T.length b):Gc T (T.length-b):=by
 intro i hi;have h1:=h.1;rw[h.2 i (by omega),show T.length-b+i=i+(T.length-b) by omega]
theorem Ki {T:List UInt8}{b:Nat}(h:Ed T T.length b):ug T (T.length-b):=by
 refine⟨QN h.1,fun q h1 hq=>?_⟩;by_cases h2:q<=T.length
 ·have:=h.2 _ (QM hq h1 h2);omega
 ·omega
theorem Gd {T:List UInt8}(h:T.length=0):ug T 0:=⟨fun i hi=>by omega,fun q _ _=>aaj _⟩
end Go.Proofs.YtmfijackgekioaaGreatDoor.Rf
namespace Go.Proofs.YtmfijackgekioaaGreatDoor
section
open Go.RowKit
theorem Aw (n:Nat)(hn:n<=100000)(Z:List Value)(hZ:Z=List.replicate n (.int .i64 0))(u:World): (Instr.makeSlice 24 (.int .i64 (n:Int)) (.int .i64 (n:Int))).run Tryz.prog u = .ok (.slice (some ⟨u.heap.size,0,none⟩) n n) (u.alloc (.cells Z.toArray 3)):=by
 obtain⟨i0,hi,hz0,hz1,hz2⟩:=aaX Tryz.info3;have h:=run_make (P:=Tryz.prog) u 24 3 i0 (.int .i64 0) Tryz.underlying24 hi hz0 .i64 .i64 (n:Int) (n:Int) (by omega) (abj _) (by rw[hz2];omega) (by omega)
 have e2:(madeCells #[Value.int .i64 0] n)=Z.toArray:=by
  rw[hZ,<-ab7]
 simpa[hz1,Value.cells,e2]using h
def Cw (T:List UInt8)(bs:List Int)(i:Nat):Prop:=∀m:Nat,1<=m->m<=i->∃b:Nat,bs.getD m 0=(b:Int)/\Rf.Ed T m b
theorem Cw.set {T:List UInt8}{bs:List Int}{i:Nat}(h:Cw T bs i)(b:Nat)(hb:Rf.Ed T (i+1) b)(hl:i+1<bs.length):Cw T (bs.set (i+1) (b:Int)) (i+1):=fun m h1 h2=>by
 by_cases e:m=i+1
 ·subst e;exact⟨b,by rw[aaa,List.getElem?_set];simp[hl],hb⟩
 ·obtain⟨c,hc,hm⟩:=h m h1 (by omega);refine⟨c,?_,hm⟩;rw[<-hc,aaa,aaa,aca (by omega)]
def Ax (bs:List Int):Prop:=∀j:Nat,0<=bs.getD j 0/\(1<=j->bs.getD j 0<(j:Int))
theorem Ge (n:Nat):Ax (List.replicate n 0):=fun j=>by
 have:(List.replicate n (0:Int)).getD j 0=0:=by
  rw[aaa,abK];split<;>rfl
 omega
theorem Ax.set {bs:List Int}(h:Ax bs)(i:Nat)(x:Int)(h0:0<=x)(h1:x<(i:Int)):Ax (bs.set i x):=fun j=>by
 have:=h j;rw[aaa]at this ⊢;rw[List.getElem?_set];split
 ·split
  ·simp only[acr];omega
  ·simp;omega
 ·omega
theorem Kj (U:ByteArray)(w:World)(hU:U.size<=65536): Calls Tryz.prog 203 #[.string U] w fun e w'=>∃per:Nat,e=.returned (.int .i64 per)/\(0<U.size->1<=per)/\per<=U.size/\Rf.ug U.data.toList per/\Below w.heap.size w w':=by
 obtain⟨n,hn⟩:∃n,U.size=n:=⟨_,rfl⟩
 obtain⟨n1,hn1⟩:∃n1,n+1=n1:=⟨_,rfl⟩
 obtain⟨Z,hZ⟩:∃Z:List Value,Z=List.replicate n1 (.int .i64 0):=⟨_,rfl⟩
 have hmk:∀u:World,(Instr.makeSlice 24 (.int .i64 (n1:Int)) (.int .i64 (n1:Int))).run Tryz.prog u=.ok (.slice (some ⟨u.heap.size,0,none⟩) n1 n1) (u.alloc (.cells Z.toArray 3)):=fun u=>Aw n1 (by omega) Z hZ u;have HZ:Hid (Z=vals (List.replicate n1 0)):=by show _=_;rw[hZ,aX]
 have hwn:IntKind.i64.wrap ((n:Int)+1)=(n1:Int):=(aah _ (by omega)).trans (by omega);have idx:=fun (j:Nat) (h:j<n) (u:World)=>wP U j (by omega) (j:Int) rfl u;have IDX:Hid (∀(j:Nat) (_:j<n) (u:World),(Instr.index 9 (.string U) (.int .i64 (j:Int))).run Tryz.prog u=.ok (.int .u8 ((U.data.toList.getD j 0).toNat:Nat)) u):=idx;have HUL:Hid (U.data.toList.length=n):=by show _=_;rw[aaN];exact hn
 have EQ:Hid (∀i j:Nat,(U.data.toList.getD i 0).toNat=(U.data.toList.getD j 0).toNat->U.data.toList.getD j 0=U.data.toList.getD i 0):=fun i j h=>(UInt8.toNat_inj.1 h).symm;have NE:Hid (∀i j:Nat,¬(U.data.toList.getD i 0).toNat=(U.data.toList.getD j 0).toNat->U.data.toList.getD j 0≠U.data.toList.getD i 0):=fun i j h e=>h (by rw[e]);clear hZ idx;rw[hn]
 go_enter Tryz.func203,Tryz.ntmps203
 go_wp2
 go_loopw [4,5] (fun bv iv wr=>∃(b i:Nat) (bs:List Int),bv=.int .i64 b/\iv=.int .i64 i/\1<=i/\b<i/\(i<=n\/i=1)/\bs.length=n1/\Hid (Ax bs/\Cw U.data.toList bs i/\Rf.Ed U.data.toList i b)/\Hid (aR wr w.heap.size bs)/\Below w.heap.size w wr) (fun _ iv _=>n-(intOf iv).toNat)
 case atStart =>
  refine⟨0,1,List.replicate n1 0,rfl,rfl,aad _,by omega,.inr rfl,by simp,⟨Ge _,fun m h1 h2=>⟨0,by rw[aaa,abK];split<;>rfl,by rw[show m=1 by omega];exact Rf.Ee _⟩,Rf.Ee _⟩,?_,ag _ _⟩;show _=_;rw[<-HZ.out];exact ak w _
 case round =>
  obtain⟨b,i,bs,rfl,rfl,hi1,hbi,hin,hbl,HB,HL,hbe⟩:=hrel;by_cases hlt:i<n
  ·have Vl:(i:Int)<(n:Int):=by omega
   have ix:=IDX.out i hlt;have EQi:=EQ.out i;have NEi:=NE.out i;generalize (U.data.toList.getD i 0).toNat=x at *;have EQI:Hid (∀j:Nat,x=(U.data.toList.getD j 0).toNat->U.data.toList.getD j 0=U.data.toList.getD i 0):=EQi;have NEI:Hid (∀j:Nat,¬x=(U.data.toList.getD j 0).toNat->U.data.toList.getD j 0≠U.data.toList.getD i 0):=NEi;clear EQi NEi;go_wp2
   go_loopw [4] (fun bv wq=>∃b:Nat,bv=.int .i64 b/\b<i/\Hid (Rf.uS U.data.toList i b)/\Hid (aR wq w.heap.size bs)/\Below w.heap.size w wq) (fun bv _=>(intOf bv).toNat)
   case atStart=>exact⟨b,rfl,hbi,HB.out.2.2.Y5,HL,hbe⟩
   case round =>
    clear HL hbe hbi;obtain⟨b,rfl,hbi,RH,HL,hbe⟩:=hrel;have iy:=IDX.out b (by omega);have EQb:=EQI.out b;have NEb:=NEI.out b;generalize (U.data.toList.getD b 0).toNat=y at *;have Wf:Hid (x=y->U.data.toList.getD b 0=U.data.toList.getD i 0):=EQb;have NEB:Hid (¬x=y->U.data.toList.getD b 0≠U.data.toList.getD i 0):=NEb;clear EQb NEb;by_cases hb0:0<b
    ·have hbd:decide ((b:Int)>0)=true:=by simp;omega
     by_cases hxy:x=y
     ·have hxe:((x:Int) != (y:Int))=false:=by simp[hxy]
      have hxq:((x:Int)==(y:Int))=true:=by simp[hxy]
      have ci:=HL.out.at_ (i+1) (by omega);have fzL:∀j,wr.frozen? ⟨w.heap.size,j,none⟩=false:=fun j=>aaE wr w.heap.size j _ _ HL.out;have hlL:w.heap.size<wr.heap.size:=aab HL.out;have HB2:Hid (Ax (bs.set (i+1) ((b:Int)+1))/\Cw U.data.toList (bs.set (i+1) ((b:Int)+1)) (i+1)/\Rf.Ed U.data.toList (i+1) (b+1)):=⟨HB.out.1.set (i+1) _ (by omega) (by omega),HB.out.2.1.set (b+1) (RH.out.hit (Wf.out hxy)) (by omega),RH.out.hit (Wf.out hxy)⟩
      have HS:∀m,Hid (aR ((wr.drewN m).setCell ⟨w.heap.size,i+1,none⟩ (.int .i64 ((b:Int)+1))) w.heap.size (bs.set (i+1) ((b:Int)+1))):=fun m=>aR.set (w:=wr.drewN m) HL.out (i+1) _;have RA:Hid (∀m,Below w.heap.size w ((wr.drewN m).setCell ⟨w.heap.size,i+1,none⟩ (.int .i64 ((b:Int)+1)))):=fun m=>(aap hbe m).setCell (p:=⟨w.heap.size,i+1,none⟩) (aad _) _;go_wp2
      go_quiet (fail)
      go_wp2
      go_quiet (fail)
      go_wp2
      go_roundw
      case rel=>exact⟨b+1,i+1,bs.set (i+1) ((b:Int)+1),by go_num,by go_num,by omega,by omega,by omega,by rw[aaZ];exact hbl,HB2,HS _,RA.out _⟩
      case measure=>simp[intOf];omega
     ·have hxe:((x:Int) != (y:Int))=true:=by simp;omega
      have hbb:=HB.out.1 b;have K5:=HB.out.2.1 b (by omega) (by omega);have cb:=HL.out.at_ b (by omega);obtain⟨b2,hb2⟩:∃b2:Nat,bs.getD b 0=(b2:Int):=⟨(bs.getD b 0).toNat,by omega⟩
      rw[hb2]at cb hbb K5
      have EZ:Hid (Rf.uS U.data.toList i b2):=by
       obtain⟨c,e,hm⟩:=K5;have:b2=c:=by omega
       subst this;exact RH.out.next (NEB.out hxy) hm
      clear K5;go_wp2
      go_quiet (fail)
      go_wp2
      go_roundw
      case rel=>exact⟨b2,rfl,by omega,EZ,HL,aap hbe _⟩
      case measure=>simp[intOf];omega
    ·have hbd:decide ((b:Int)>0)=false:=by simp;omega
     by_cases hxy:x=y
     ·have hxq:((x:Int)==(y:Int))=true:=by simp[hxy]
      have ci:=HL.out.at_ (i+1) (by omega);have fzL:∀j,wr.frozen? ⟨w.heap.size,j,none⟩=false:=fun j=>aaE wr w.heap.size j _ _ HL.out;have hlL:w.heap.size<wr.heap.size:=aab HL.out;have HB2:Hid (Ax (bs.set (i+1) ((b:Int)+1))/\Cw U.data.toList (bs.set (i+1) ((b:Int)+1)) (i+1)/\Rf.Ed U.data.toList (i+1) (b+1)):=⟨HB.out.1.set (i+1) _ (by omega) (by omega),HB.out.2.1.set (b+1) (RH.out.hit (Wf.out hxy)) (by omega),RH.out.hit (Wf.out hxy)⟩
      have HS:∀m,Hid (aR ((wr.drewN m).setCell ⟨w.heap.size,i+1,none⟩ (.int .i64 ((b:Int)+1))) w.heap.size (bs.set (i+1) ((b:Int)+1))):=fun m=>aR.set (w:=wr.drewN m) HL.out (i+1) _;have RA:Hid (∀m,Below w.heap.size w ((wr.drewN m).setCell ⟨w.heap.size,i+1,none⟩ (.int .i64 ((b:Int)+1)))):=fun m=>(aap hbe m).setCell (p:=⟨w.heap.size,i+1,none⟩) (aad _) _;go_wp2
      go_quiet (fail)
      go_wp2
      go_quiet (fail)
      go_wp2
      go_roundw
      case rel=>exact⟨b+1,i+1,bs.set (i+1) ((b:Int)+1),by go_num,by go_num,by omega,by omega,by omega,by rw[aaZ];exact hbl,HB2,HS _,RA.out _⟩
      case measure=>simp[intOf];omega
     ·have hxq:((x:Int)==(y:Int))=false:=by simp;omega
      have ci:=HL.out.at_ (i+1) (by omega);have fzL:∀j,wr.frozen? ⟨w.heap.size,j,none⟩=false:=fun j=>aaE wr w.heap.size j _ _ HL.out;have hlL:w.heap.size<wr.heap.size:=aab HL.out;have Vm:b=0:=by omega
      have HB2:Hid (Ax (bs.set (i+1) (b:Int))/\Cw U.data.toList (bs.set (i+1) (b:Int)) (i+1)/\Rf.Ed U.data.toList (i+1) b):=by
       have hmx:Rf.Ed U.data.toList (i+1) b:=by
        have h1:=RH.out;have h2:=NEB.out hxy;rw[Vm]at h1 h2 ⊢;exact h1.miss h2
       exact⟨HB.out.1.set (i+1) _ (by omega) (by omega),HB.out.2.1.set b hmx (by omega),hmx⟩
      clear Vm;have HS:∀m,Hid (aR ((wr.drewN m).setCell ⟨w.heap.size,i+1,none⟩ (.int .i64 (b:Int))) w.heap.size (bs.set (i+1) (b:Int))):=fun m=>aR.set (w:=wr.drewN m) HL.out (i+1) _;have RA:Hid (∀m,Below w.heap.size w ((wr.drewN m).setCell ⟨w.heap.size,i+1,none⟩ (.int .i64 (b:Int)))):=fun m=>(aap hbe m).setCell (p:=⟨w.heap.size,i+1,none⟩) (aad _) _;go_wp2
      go_quiet (fail)
      go_wp2
      go_quiet (fail)
      go_wp2
      go_roundw
      case rel=>exact⟨b,i+1,bs.set (i+1) (b:Int),by go_num,by go_num,by omega,by omega,by omega,by rw[aaZ];exact hbl,HB2,HS _,RA.out _⟩
      case measure=>simp[intOf];omega
  ·have Vl:¬(i:Int)<(n:Int):=by omega
   have hwb:IntKind.i64.wrap ((n:Int)-(b:Int))=((n-b:Nat):Int):=(aah _ (by omega)).trans (by omega);go_wp2
   go_ret
   refine⟨n-b,aC (by first|exact hwb|omega),by omega,by omega,?_,hbe⟩;have hul:=HUL.out;by_cases h0:n=0
   ·rw[show n-b=0 by omega];exact Rf.Gd (by omega)
   ·rw[<-hul];refine Rf.Ki ?_;rw[hul,<-show i=n by omega];exact HB.out.2.2
end
theorem Kk (j:Nat)(h:j<256):(Rf.bE.getD j 0).toNat<=9 :=
 (show ∀j,j<256->(Rf.bE.getD j 0).toNat<=9 by decide +kernel) j h
theorem Gf (j:Nat)(h:j<29):(Rf.bE.getD (257+j) 0).toNat<=8 :=
 (show ∀j,j<29->(Rf.bE.getD (257+j) 0).toNat<=8 by decide +kernel) j h
theorem Kl (j:Nat):(dF.getD j 0).toNat<=5:=by
 by_cases h:j<30
 ·exact (show ∀j,j<30->(dF.getD j 0).toNat<=5 by decide +kernel) j h
 ·have:dF.getD j 0=0:=by rw[aaa,aas (by simp[dF];omega)];rfl
  rw[this];decide
def dM (T:List UInt8)(p:Nat)(s:Nat×Nat):Nat:=(aA Rf.bE dF (cZ T p s)).length
theorem Gg (T:List UInt8)(p:Nat)(s:Nat×Nat)(r:List (Nat×Nat)):(aA Rf.bE dF (ax T p (s::r))).length=dM T p s+(aA Rf.bE dF (ax T (p+s.1) r)).length:=by
 rw[ax,dM,aA,List.flatMap_append,aac];rfl
theorem Km (T:List UInt8)(p:Nat):(aA Rf.bE dF (ax T p [])).length=7:=by
 simp only[ax,aA,List.flatMap_cons,List.flatMap_nil,aa9,aac,Rf.bV,Rf.aF];decide +kernel
theorem Kn (T:List UInt8)(p l:Nat):dM T p (l,0)<=9:=by
 simp only[dM,cZ,if_true,aA,List.flatMap_cons,List.flatMap_nil,aa9,aac,Rf.bV,Rf.aF];have:=Kk (T.getD p 0).toNat (T.getD p 0).toNat_lt;simp only[abl,acA];omega
theorem Gh (T:List UInt8)(p l d:Nat)(h1:3<=l)(h2:l<=258)(h3:1<=d)(h4:d<=32768):dM T p (l,d)<=31/\(l=258->dM T p (l,d)<=26):=by
 have l1:=Rf.rZ l h1 h2;have d1:=Rf.sx d h3 h4;have a:=Gf (Rf.fG l) (by omega);have b:=Kl (Rf.gJ d);have c:=Bh _ l1.1;have e:=Bi _ d1.1;have hd:¬d=0:=by omega
 have hc:dM T p (l,d)=(Rf.bE.getD (257+Rf.fG l) 0).toNat+Rf.lb (Rf.fG l)+((dF.getD (Rf.gJ d) 0).toNat+Rf.db (Rf.gJ d)):=by
  simp only[dM,cZ,aae hd,aA,List.flatMap_cons,List.flatMap_nil,aa9,aac,Rf.bV,Rf.aF,abl,acA,if_true]
 rw[hc];refine⟨by omega,fun q=>?_⟩;subst q;have:Rf.lb (Rf.fG 258)=0:=by decide
 omega
def Oq (per q p:Nat):Nat:=if p<per then 11*(per-p)+31+(26*((q-p)/258)+31) else 26*((q-p)/258)+min 31 (16*((q-p)%258))
theorem Eg (U T:List UInt8)(per q:Nat)(hP:Rf.Gc T per)(hp:per<=32768)(hq:q<=T.length):∀(S:List (Nat×Nat)) (u p:Nat),Rf.Fits T p S q->Rf.Au T per q p S->(aA Rf.bE dF (ax U u S)).length<=Oq per q p+7
 | [],u,p,_,_=>by rw[Km];omega
 | (l,d)::r,u,p,hf,hb=>by
  have hl:=jU T hf.2;simp only at hl;have ih:=Eg U T per q hP hp hq r (u+l) (p+l) hf.2 hb.2;rw[Gg];simp only
  have hs:(d=0/\l=1/\dM U u (l,d)<=9)\/(3<=l/\l<=258/\dM U u (l,d)<=31/\(l=258->dM U u (l,d)<=26)):=by
   rcases hf.1 with h|h
   ·obtain⟨rfl,rfl⟩:d=0/\l=1:=⟨h.1,h.2.1⟩
    exact .inl ⟨rfl,rfl,Kn U u 1⟩
   ·obtain⟨a,b,c,e⟩:3<=l/\l<=258/\1<=d/\d<=32768:=⟨h.1,h.2.1,h.2.2.1,h.2.2.2.1⟩
    have:=Gh U u l d a b c e;exact .inr ⟨a,b,this.1,this.2⟩
  generalize dM U u (l,d)=c at *;generalize (aA Rf.bE dF (ax U (u+l) r)).length=R at *;by_cases h1:p<per
  ·unfold Oq at ih ⊢;rw[aaf h1];by_cases h2:p+l<per
   ·rw[aaf h2]at ih;have e1:(q-(p+l))/258<=(q-p)/258:=Nat.div_le_div_right (by omega);rcases hs with h|h<;>omega
   ·rw[aae h2]at ih;have e1:(q-(p+l))/258<=(q-p)/258:=Nat.div_le_div_right (by omega);rcases hs with h|h<;>omega
  ·unfold Oq at ih ⊢;rw[aae h1];rw[aae (by omega)]at ih
   have hbg:l=if 3<=min (q-p) 258 then min (q-p) 258 else 1:=hb.1 (by omega) hp (fun k hk=>by
    have:=hP (p+k-per) (by omega);rw[show p+k-per+per=p+k by omega]at this
    exact this.symm)
   obtain⟨n,hn⟩:∃n,q=p+n:=⟨q-p,by omega⟩
   subst hn;rw[show p+n-p=n by omega]at hbg ⊢;rw[show p+n-(p+l)=n-l by omega]at ih;split at hbg
   ·rcases hs with h|h<;>omega
   ·rcases hs with h|h<;>omega
end Go.Proofs.YtmfijackgekioaaGreatDoor
