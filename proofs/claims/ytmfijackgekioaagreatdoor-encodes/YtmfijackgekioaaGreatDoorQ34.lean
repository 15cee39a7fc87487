import Derived.Test.YtmfijackgekioaaGreatDoorQ31
import Derived.Test.YtmfijackgekioaaGreatDoorQ32
set_option maxHeartbeats 2000000
set_option maxRecDepth 100000
namespace Go.Proofs.YtmfijackgekioaaGreatDoor
open Go.RowKit Go.Maps
structure xT (w:World) (g:Nat) (L:List Ch):Prop where
 lt:g<w.heap.size
 at_:∀j,j<L.length->w.cell? ⟨g,j*2,none⟩=some (.string (dg L j).name)/\w.cell? ⟨g,j*2+1,none⟩=some (.string (dg L j).data)
theorem xT.far {w w':World}{g:Nat}{L:List Ch}(h:xT w g L)(k:w'.heap[g]?=w.heap[g]?)(hz:w.heap.size<=w'.heap.size):xT w' g L :=
 ⟨aar h.lt hz,fun j hj=>⟨(aaT (w:=w) (a:=⟨g,j*2,none⟩) k).trans (h.at_ j hj).1,(aaT (w:=w) (a:=⟨g,j*2+1,none⟩) k).trans (h.at_ j hj).2⟩⟩
theorem xT.below {w w':World}{g:Nat}{L:List Ch}(h:xT w g L)(k:Below w.heap.size w w'):xT w' g L:=h.far (k.block g h.lt) k.size
theorem xT.YD {w:World}{g cap:Nat}{L:List Ch}(h:xT w g L)(hc:L.length<=cap):Rx w (.slice (some ⟨g,0,none⟩) L.length cap) L:=⟨.inr ⟨g,cap,rfl,h.lt,hc,h.at_⟩⟩
theorem MG (b:ByteArray)(w:World)(hs:b.size<=60000000)(L:List Ch)(hL:aL b=some L)(hn:0<L.length): Calls Tryz.prog 34 #[.string b] w fun e w'=>∃g cap,e=.returned (.tuple #[.slice (some ⟨g,0,none⟩) L.length cap,.bool true])/\L.length<=cap/\w.heap.size<=g/\xT w' g L/\Below w.heap.size w w':=by
 refine (Mv b w hs).mono fun e w' he=>?_;cases he with
 | no h _=>rw[hL]at h;cases h
 | @ok _ L' v h ho k =>
  obtain rfl:L=L':=aay (hL.symm.trans h);rcases ho.2 with⟨_,h0⟩|⟨g,cap,cur,hv,hg,hblk,hnc,_,_,_⟩
  ·exact absurd h0 (by omega)
  ·refine⟨g,cap,by rw[hv],hnc,hg,?_,k⟩;rcases (Mw ho).shape with⟨h0,_⟩|⟨g',cap',e',h1,_,h2⟩
   ·rw[h0]at hn;exact absurd hn (Nat.lt_irrefl _)
   ·rw[hv]at e';injection e' with e1 _ _;injection e1 with e1;injection e1 with e1 _ _;subst e1;exact⟨h1,h2⟩
theorem Uv (b:ByteArray)(h:Hd)(w:World)(h1:nN b=true)(h2:uP b=h): Calls Tryz.prog 36 #[.string b] w fun e w'=>e=.returned (.tuple #[.agg (gE h),.bool true])/\Below w.heap.size w w':=by
 refine (Ua b w).mono fun e w' he=>?_;cases he with
 | no h3 _=>rw[h1]at h3;cases h3
 | ok _ k=>rw[h2];exact⟨rfl,k⟩
theorem JE (W H kd:Int)(D:Nat)(ps:Bool)(L:List Ch)(p:Option ByteArray)(g cap:Nat)(aK:List Int)(w:World)(hv:xT w g L)(hc:L.length<=cap)(hL:L.length<=6000000)(hs:mH L<=60000000)(hjn:dx bQ L=zW p)(hjs:cK bQ L=p.getD ⟨#[]⟩)(hch:Pm.chan kd D≠0)(hps:∀q,p=some q->q.size<=60000000)(h1:fF kd D p=true)(h2:jP kd p=aK): Calls Tryz.prog 37 #[img W H kd D ps (.slice none 0 0) (.slice none 0 0),.slice (some ⟨g,0,none⟩) L.length cap] w fun e w'=>∃pa pc,e=.returned (.tuple #[.slice pa aK.length pc,.bool true])/\pB w' w.heap.size (.slice pa aK.length pc) aK/\Below w.heap.size w w':=by
 refine (Jv W H kd D ps _ _ L p _ w (hv.YD hc) hL hs hjn hjs hch hps ⟨_,_,_,rfl⟩).mono fun e w' he=>?_;cases he with
 | no h3 _=>rw[h1]at h3;cases h3
 | ok _ ho k =>
  rw[h2]at ho;have hi:=pC ho;obtain⟨pa,pc,e1,_⟩:=hi.ex;rw[e1]at hi;exact⟨pa,pc,by rw[e1],hi,k⟩
structure DY (w u:World):Prop where
 be:Below w.heap.size w u
 r:u.heap[w.heap.size]?=some (.cells bm 30 (0,0))
theorem DY.below {w u u':World}(h:DY w u)(k:Below u.heap.size u u'):DY w u' :=
 ⟨h.be.trans (k.mono h.be.size),(k.block _ (aab h.r)).trans h.r⟩
inductive Oa (W H D:Nat) (kd:Int) (ps:Bool) (aK S:List Int) (L:List Ch) (T:ByteArray) (w:World):Ending->World->Prop
 | ok {w' pa pc G g cap}:Ints w' pa aK->(∀a,pa=some a->aK≠[]->a.block<w'.heap.size)->aR w' G S->xT w' g L->Below w.heap.size w w'->Oa W H D kd ps aK S L T w (.returned (.tuple #[img W H kd D ps (.slice pa aK.length pc) (.slice (some ⟨G,0,none⟩) S.length S.length),.int .i64 0,.slice (some ⟨g,0,none⟩) L.length cap,.string T])) w'
abbrev Cb (u:World)(MB X W H D:Nat)(kd:Int)(ps:Bool)(f g:Value):World:=ri ((u.setCell ⟨MB,5,none⟩ f).setCell ⟨MB,6,none⟩ g) X (.int .i64 (W:Nat)) (.int .i64 (H:Nat)) (.int .i64 kd) (.int .i64 (D:Nat)) (.bool ps) f g
theorem JF {w u:World}{MB G g W H D:Nat}{kd:Int}{ps:Bool}{pa:Option Addr}{pc:Nat}{pl l:List Int}{L:List Ch}(D6:DY w u)(hp:pB u (MB+1) (.slice pa pl.length pc) pl)(hl:aR u G l)(hG:MB<G)(hM:w.heap.size+1<MB)(hc:xT u g L)(hg:w.heap.size<g)(hgM:g<MB): (Cb u MB w.heap.size W H D kd ps (.slice pa pl.length pc) (.slice (some ⟨G,0,none⟩) l.length l.length)).heap[w.heap.size]?=some (.cells #[.int .i64 (W:Nat),.int .i64 (H:Nat),.int .i64 kd,.int .i64 (D:Nat),.bool ps,.slice pa pl.length pc,.slice (some ⟨G,0,none⟩) l.length l.length] 30 (0,0)) /\ Below w.heap.size w (Cb u MB w.heap.size W H D kd ps (.slice pa pl.length pc) (.slice (some ⟨G,0,none⟩) l.length l.length)) /\ Ints (Cb u MB w.heap.size W H D kd ps (.slice pa pl.length pc) (.slice (some ⟨G,0,none⟩) l.length l.length)) pa pl /\ (∀a,pa=some a->pl≠[]->a.block<(Cb u MB w.heap.size W H D kd ps (.slice pa pl.length pc) (.slice (some ⟨G,0,none⟩) l.length l.length)).heap.size) /\ aR (Cb u MB w.heap.size W H D kd ps (.slice pa pl.length pc) (.slice (some ⟨G,0,none⟩) l.length l.length)) G l /\ xT (Cb u MB w.heap.size W H D kd ps (.slice pa pl.length pc) (.slice (some ⟨G,0,none⟩) l.length l.length)) g L:=by
 have f1:=fun k (hk:k≠MB)=>(cQ (u.setCell ⟨MB,5,none⟩ (.slice pa pl.length pc)) MB 6 (.slice (some ⟨G,0,none⟩) l.length l.length) k hk).trans (cQ u MB 5 (.slice pa pl.length pc) k hk);have hfr:=fun k (hk:k≠w.heap.size) (hk2:k≠MB)=>(mJ ((u.setCell ⟨MB,5,none⟩ (.slice pa pl.length pc)).setCell ⟨MB,6,none⟩ (.slice (some ⟨G,0,none⟩) l.length l.length)) w.heap.size (.int .i64 (W:Nat)) (.int .i64 (H:Nat)) (.int .i64 kd) (.int .i64 (D:Nat)) (.bool ps) (.slice pa pl.length pc) (.slice (some ⟨G,0,none⟩) l.length l.length) k hk).trans (f1 k hk2);have z8:=(f1 w.heap.size (by omega)).trans D6.r;have B8:=(D6.be.setCell (p:=⟨MB,5,none⟩) (by dsimp only;omega) (.slice pa pl.length pc)).setCell (p:=⟨MB,6,none⟩) (by dsimp only;omega) (.slice (some ⟨G,0,none⟩) l.length l.length);have hz:(Cb u MB w.heap.size W H D kd ps (.slice pa pl.length pc) (.slice (some ⟨G,0,none⟩) l.length l.length)).heap.size=u.heap.size:=by simp
 obtain⟨ao,cap,e,hi,ha⟩:=hp.ex;injection e with e _ _;subst e;refine⟨mI z8 _ _ _ _ _ _ _,iQ B8 w.heap.size (aad _) _ _ _ _ _ _ _,fun j hj=>?_,fun a ea hne=>by rw[hz];exact (ha a ea hne).2,(hfr G (by omega) (by omega)).trans hl,hc.far (hfr g (by omega) (by omega)) (Nat.le_of_eq hz.symm)⟩;obtain⟨b,off,eb,hcl⟩:=hi j hj;have hb:=ha ⟨b,off,none⟩ eb (ne_of_lt hj);exact⟨b,off,eb,(aaT (w:=u) (a:=⟨b,off+j,none⟩) (hfr b (by dsimp only at hb;omega) (by dsimp only at hb;omega))).trans hcl⟩
structure Ob (b:ByteArray) (L:List Ch) (P:vV) (W H D n:Nat) (kd:Int) (ps:Bool) (aK S:List Int) (T:ByteArray):Prop where
 size:b.size<=60000000
 sig:zV b=true
 chunks:aL (b.extract 8 b.size)=some L
 ord:pk L=some P
 first:(dg L 0).data=P.head
 some_:0<L.length
 hok:nN P.head=true
 hd:uP P.head=⟨W,H,kd,D,ps⟩
 wd:1<=W/\W<=5000
 ht:1<=H/\H<=5000
 ch:Pm.chan kd D=(n:Int)
 n4:1<=n/\n<=4
 raw:mM ⟨W,H,kd,D,ps⟩=(T.size:Int)
 few:T.size<=4194304
 pok:fF kd D P.aK=true
 pof:jP kd P.aK=aK
 psz:∀q,P.aK=some q->q.size<=60000000
 dsz:P.data.size<=5000000
 code:jM P.data (T.size:Int)=0
 text:nZ P.data (T.size:Int)=T
 fine:DQ P.data (T.size:Int)
 nJ:Pm.nJ ⟨W,H,n,D⟩ (ae T) ps=some S
 idx:kd=3->Pm.fQ S ((aK.length:Int)/3)=true
 Uw:aK.length<=5000000
theorem MH (b:ByteArray)(L:List Ch)(P:vV)(W H D n:Nat)(kd:Int)(ps:Bool)(aK S:List Int)(T:ByteArray)(w:World)(K:Ob b L P W H D n kd ps aK S T): Calls Tryz.prog 12 #[.string b,.int .i64 4194304] w fun e w'=>Oa W H D kd ps aK S L T w e w':=by
 obtain⟨k0,q0,q1⟩:=bO w (.cells bm 30) (.cells bm 30);have HD0:Hid (DY w ((w.alloc (.cells bm 30)).alloc (.cells bm 30))):=⟨k0,q0⟩
 obtain⟨a0,a1,a2,a3,a4,a5,a6,af,al⟩:=gF q0;obtain⟨n0,n1,n2,n3,n4,n5,n6,nf,nl⟩:=gF q1;clear k0 q0 q1
 have h8:8<=b.size:=by
  have h:=K.sig;simp only[zV,aaJ,aaH]at h;exact h.1
 have aeg:((b.extract 0 8).toList==[137,80,78,71,13,10,26,10])=true:=by
  have h:=K.sig;simp only[zV,aaJ]at h;exact h.2
 have hn8:¬(b.size:Int)<8:=by omega
 have h8i:(8:Int)<=(b.size:Int):=by omega
 have hcs:=px K.chunks;have V3:(b.extract 8 b.size).size<=60000000:=by rw[aa7];have:=K.size;omega
 have hck:=fun u=>MG (b.extract 8 b.size) u V3 L K.chunks K.some_;have I4:L.length<=6000000:=by omega
 have hsum:mH L<=60000000:=by omega
 have hor:=fun g cap u (hu:xT u g L) (hc:L.length<=cap)=>Js L _ u (hu.YD hc) I4 (fun c hc=>(hcs.2 c hc).1);rw[Ms L (fun c hc=>(hcs.2 c hc).2),K.ord]at hor;have HOR:Hid (_):=hor;have hhr:=fun u=>Uv P.head _ u K.hok K.hd;have hdp:=Pm.bp kd D (by rw[K.ch];have:=K.n4;omega);have hrw:=fun u=>N0 W H kd D ps u K.wd K.ht hdp;rw[Pm.Dv W H K.wd.1,show Pm.raw W H (Pm.chan kd D*D) ps=mM ⟨W,H,kd,D,ps⟩ from rfl,K.raw]at hrw;have hjp:=tX K.ord;have hcl:=fun g cap u (hu:xT u g L) (hc:L.length<=cap)=>JE W H kd D ps L P.aK g cap aK u hu hc I4 hsum hjp.2.1 hjp.2.2 (by rw[K.ch];have:=K.n4;omega) K.psz K.pok K.pof;have Q9:Hid (_):=hcl;have hjd:=fun g cap u (hu:xT u g L) (hc:L.length<=cap)=>DU ⟨#[73,68,65,84]⟩ aP (by rw[ab3]) L _ u (hu.YD hc) I4 hsum;rw[hjp.1]at hjd;have HJD:Hid (_):=hjd;have YE:=fun u=>Jk P.data (T.size:Int) u K.dsz K.fine;rw[K.code,K.text]at YE;have hpc:=fun u=>Jx W H n D kd ps (.slice none 0 0) (.slice none 0 0) T u (by have h:=K.raw;unfold mM at h;dsimp only at h;rw[K.ch]at h;rw[<-h];push_cast;rfl) (by have:=K.few;omega) K.ch K.n4 K.wd K.ht;have hh0:=K.first;have hL0:=K.some_;have hLi:(0:Int)<(L.length:Int):=by omega
 have hTz:=K.few;have hb1:¬(4194304:Int)<(T.size:Int):=by omega
 have htz:((T.size:Int) != (T.size:Int))=false:=by simp
 have HK:Hid (_):=K;have hjn:dx aP L<=6000000:=aaz (t9 _ _) I4;generalize dx aP L=jn at *;clear K hcs hor hcl hjd hjp h8 V3 hsum
 go_enter Tryz.func12,Tryz.ntmps12
 go_wp2_with fail;refine (hck _).mono ?_;rintro e w1 ⟨g,xS,rfl,hcap,hg,C1,b1⟩;simp only[aaC]at hg;have D1:=HD0.out.below b1;have Ux:=HOR.out g xS w1 C1 hcap
 have gc:w1.cell? ⟨g,1,none⟩=some (.string P.head):=by
  have h:=(C1.at_ 0 hL0).2;rw[abz,aaF,hh0]at h;exact h
 have HW1:Hid (_/\_):=⟨D1,C1⟩
 have lw1:w.heap.size+2<=w1.heap.size:=by have:=C1.lt;omega
 clear hck a0 a1 a2 a3 a4 a5 a6 af al n0 n1 n2 n3 n4 n5 n6 nf nl b1 D1 C1 HD0 HOR hh0;go_wp2_with fail;refine Ux.mono ?_;rintro e w' ⟨rfl,hw'⟩;subst w';clear Ux;go_wp2_with fail;refine (hhr _).mono ?_;rintro e w2 ⟨rfl,b2⟩;have gM:g<w2.heap.size:=aar HW1.out.2.lt b2.size;have D2:=(HW1.out.1.below b2).below (ag w2 (.cells (gE ⟨W,H,kd,D,ps⟩) 30));have C2:=(HW1.out.2.below b2).below (ag w2 (.cells (gE ⟨W,H,kd,D,ps⟩) 30));have m2:=ak w2 (.cells (gE ⟨W,H,kd,D,ps⟩) 30);have lw2:w.heap.size+2<=w2.heap.size:=aaz lw1 b2.size;obtain⟨y0,y1,y2,y3,y4,y5,y6⟩:=aI m2;have HW2:Hid (_/\_/\_):=⟨D2,C2,m2⟩
 clear hhr HW1 b2 D2 C2 m2 gc lw1;go_wp2_with fail;refine (hrw _).mono ?_;rintro e w3 ⟨rfl,b3⟩;clear hrw y0 y1 y2 y3 y4 y5 y6;have D3:=HW2.out.1.below b3;have C3:=HW2.out.2.1.below b3;have m3:=(b3.block w2.heap.size (aab HW2.out.2.2)).trans HW2.out.2.2;have hcl:=Q9.out g xS w3 C3 hcap;have z3:=aab m3;obtain⟨y0,y1,y2,y3,y4,y5,y6⟩:=aI m3;have HW3:Hid (_/\_/\_):=⟨D3,C3,m3⟩
 clear Q9 HW2 b3 D3 C3 m3;go_wp2_with fail;refine hcl.mono ?_;rintro e w4 ⟨pa,pc,rfl,hip,b4⟩;clear hcl y0 y1 y2 y3 y4 y5 y6;have D4:=HW3.out.1.below b4;have C4:=HW3.out.2.1.below b4;have m4:=(b4.block w2.heap.size z3).trans HW3.out.2.2;have hjd:=HJD.out g xS w4 C4 hcap;have JG:Hid (_/\_/\_/\_):=⟨D4,C4,m4,hip.mono (B':=w2.heap.size+1) (by omega)⟩
 clear HJD HW3 b4 D4 C4 m4 hip z3;go_wp2_with fail;refine hjd.mono ?_;rintro e w' ⟨rfl,hw'⟩;subst w';clear hjd;go_wp2_with fail;refine (YE _).mono ?_;rintro e w5 ⟨rfl,b5⟩;clear YE;have m5:=(b5.block w2.heap.size (aab JG.out.2.2.1)).trans JG.out.2.2.1;have z5:=aab m5;obtain⟨y0,y1,y2,y3,y4,y5,y6⟩:=aI m5;have Oc:Hid (_/\_/\_/\_):=⟨JG.out.1.below b5,JG.out.2.1.below b5,m5,JG.out.2.2.2.below b5⟩
 clear JG b5 m5;go_wp2_with fail;refine (hpc _).mono ?_;intro e w6 he;clear hpc y0 y1 y2 y3 y4 y5 y6;cases he with
 | no h1 _=>rw[HK.out.nJ]at h1;cases h1
 | @ok _ l G h1 h5 h6 b6 =>
  obtain rfl:S=l:=aay (HK.out.nJ.symm.trans h1);have hfl:=Pm.Fo _ _ _ _ h1
  have hlb:S.length<=100000000:=by
   rw[hfl.1];show W*H*n<=_;have:W*H*n<=5000*5000*4:=aaA (aaA HK.out.wd.2 HK.out.ht.2) HK.out.n4.2;omega
  have m6:=(b6.block w2.heap.size z5).trans Oc.out.2.2.1;have D6:=Oc.out.1.below b6;have Ad:Hid (_):=JF (W:=W) (H:=H) (D:=D) (kd:=kd) (ps:=ps) (MB:=w2.heap.size) D6 (Oc.out.2.2.2.below b6) h5 (by omega) (by omega) (Oc.out.2.1.below b6) (by omega) gM;have IZ:Hid (Ints w6 (some ⟨G,0,none⟩) S/\∀y∈S,0<=y):=⟨aR.ints h5,hfl.2⟩
  have aeh:=HK.out.Uw;have nMB:w.heap.size≠w2.heap.size:=by omega
  obtain⟨y0,y1,y2,y3,y4,y5,y6,yf,yl⟩:=gF m6;obtain⟨x0,x1,x2,x3,x4,x5,x6,xf,xl⟩:=gF D6.r;clear h1 h5 h6 b6 hfl m6 D6 Oc;go_wp2
  go_loop [19] (fun ix=>∃k:Nat,k<=S.length/\ix=.int .i64 k) (fun ix=>S.length-(intOf ix).toNat)
  case atStart=>exact⟨0,aaj _,rfl⟩
  case round =>
   obtain⟨k,hk,rfl⟩:=hrel;by_cases k3:kd=3
   ·have YF:(kd==3)=true:=abs.2 k3;by_cases hlt:k<S.length
    ·have hlt':(k:Int)<(S.length:Int):=by omega
     obtain⟨gb,go,ge,Uy⟩:=IZ.out.1 k hlt;injection ge with ge;injection ge with ge1 ge2;subst ge1 ge2;rw[aaF]at Uy;have hx:=HK.out.idx k3;unfold Pm.fQ at hx;rw[List.all_eq_true]at hx;have hx:=hx _ (aaR hlt);simp only[aaJ,aaH]at hx;generalize S[k]=x at *;have hge':¬x≥(aK.length:Int)/3:=by omega
     clear Ad k3;go_wp2
     go_round
     case rel=>exact⟨k+1,by omega,by go_num⟩
     case measure=>simp[intOf];omega
    ·have hnlt:¬(k:Int)<(S.length:Int):=by omega
     clear k3;obtain⟨hend,hbe,i1,i2,i3,i4⟩:=Ad.out;obtain⟨r0,r1,r2,r3,r4,r5,r6⟩:=aI hend;have HE:Hid (_/\_/\_/\_/\_):=⟨i1,i2,i3,i4,hbe⟩
     clear hend hbe i1 i2 i3 i4 Ad;go_wp2;exact aal (v:=.tuple #[img W H kd D ps (.slice pa aK.length pc) (.slice (some ⟨G,0,none⟩) S.length S.length),.int .i64 0,.slice (some ⟨g,0,none⟩) L.length xS,.string T]) (by simp[results,Tryz.results12,go_sem,r0,r1,r2,r3,r4,r5,r6]) rfl (.ok HE.out.1 HE.out.2.1 HE.out.2.2.1 HE.out.2.2.2.1 HE.out.2.2.2.2)
   ·have YF:(kd==3)=false:=aam.2 k3;clear k3;obtain⟨hend,hbe,i1,i2,i3,i4⟩:=Ad.out;obtain⟨r0,r1,r2,r3,r4,r5,r6⟩:=aI hend;have HE:Hid (_/\_/\_/\_/\_):=⟨i1,i2,i3,i4,hbe⟩
    clear hend hbe i1 i2 i3 i4 Ad;rcases aaL k S.length with hlt|hlt
    ·have hlt':(k:Int)<(S.length:Int):=by omega
     go_wp2;exact aal (v:=.tuple #[img W H kd D ps (.slice pa aK.length pc) (.slice (some ⟨G,0,none⟩) S.length S.length),.int .i64 0,.slice (some ⟨g,0,none⟩) L.length xS,.string T]) (by simp[results,Tryz.results12,go_sem,r0,r1,r2,r3,r4,r5,r6]) rfl (.ok HE.out.1 HE.out.2.1 HE.out.2.2.1 HE.out.2.2.2.1 HE.out.2.2.2.2)
    ·have hnlt:¬(k:Int)<(S.length:Int):=by omega
     go_wp2;exact aal (v:=.tuple #[img W H kd D ps (.slice pa aK.length pc) (.slice (some ⟨G,0,none⟩) S.length S.length),.int .i64 0,.slice (some ⟨g,0,none⟩) L.length xS,.string T]) (by simp[results,Tryz.results12,go_sem,r0,r1,r2,r3,r4,r5,r6]) rfl (.ok HE.out.1 HE.out.2.1 HE.out.2.2.1 HE.out.2.2.2.1 HE.out.2.2.2.2)
end Go.Proofs.YtmfijackgekioaaGreatDoor
