import Derived.Test.YtmfijackgekioaaGreatDoorQ42
import Derived.Test.YtmfijackgekioaaGreatDoorQ45
set_option maxHeartbeats 1000000
set_option maxRecDepth 100000
namespace Go.Proofs.YtmfijackgekioaaGreatDoor
open Go.RowKit Go.Maps
theorem Gk (args:Array Value)(w:World):(callFunc 64 args).run Tryz.prog w=.ok (.enter 64 args) w:=by kernel_rfl
theorem lu.is {w:World}{B b:Nat}{l:List UInt8}{v:Value}(h:lu w B b l v):Lib.IsBuilder 134 5 B b (Lib.byteCells l) w:=by
 obtain⟨p,hb,hp⟩:=h.blk;have ho:w.ownsRow B 5 1 v (Lib.byteCells l).length (Lib.byteCells l):=by rw[Lib.byteCells_length];exact h.own
 rcases hp with rfl|rfl
 ·exact .inl ⟨h.low,v,hb,ho,h.ne hb (by decide)⟩
 ·exact .inr ⟨h.low,v,hb,ho,h.ne hb (by decide)⟩
theorem AC (M bW bS:Nat)(h:Hd)(aK:List Int)(pa:Option Addr)(pc:Nat)(sv:Value)(X:ByteArray)(lv fl:Int)(ck:Nat)(w:World)(hm:w.heap[M]?=some (.cells (dD h (.slice pa aK.length pc) sv) 30 (0,0)))(hW:bM w bW (.string X) 9)(hS:w.heap[bS]?=some (.cells #[.int .i64 lv,.int .i64 fl,.int .i64 ck] 32 (0,0)))(hf:qm h)(hpa:Ints w pa aK)(hpl:∀a,pa=some a->aK≠[]->a.block<w.heap.size)(hpb:h.kd=3->Pm.fQ aK 256=true)(hpn:aK.length<=1000000)(hX:X.size<=10000000)(hck:1<=ck/\ck<=1048576): Calls Tryz.prog 63 #[.func (.func 64) #[] #[.pointer (some ⟨M,0,none⟩),.pointer (some ⟨bW,0,none⟩),.pointer (some ⟨bS,0,none⟩)]] w fun e w'=>∃ds b,e=.returned (.string b)/\Ec X X.size ck ds/\b.data.toList=qY h aK ds/\Below w.heap.size w w':=by
 have hcall:=Gk;have k0:=ag w (.cells #[.pointer none,.slice none 0 0] 134);have q0:=ak w (.cells #[.pointer none,.slice none 0 0] 134);have z0:(w.alloc (.cells #[.pointer none,.slice none 0 0] 134)).heap.size=w.heap.size+1:=by simp
 have lM:=aab hm;have lW:=aab hW;have lS:=aab hS;have b0:lu (w.alloc (.cells #[.pointer none,.slice none 0 0] 134)) w.heap.size w.heap.size [] (.slice none 0 0):=⟨aad _,⟨_,q0,.inl rfl⟩,⟨rfl,.inl ⟨rfl,rfl⟩⟩⟩
 have hws:=jS w.heap.size w.heap.size [] ⟨#[137,80,78,71,13,10,26,10]⟩ (.slice none 0 0) _ b0 (by omega) (by show 0+8<=_;omega);have HH:Hid (_/\_/\_/\_/\_/\_):=⟨hm,hW,hS,hpa,k0,b0⟩
 have HP:Hid (_/\_/\_):=⟨hf,hpl,hpb⟩
 clear hm hW hS hpa k0 q0 b0 hf hpl hpb
 go_enter Tryz.func63,Tryz.ntmps63
 go_wp2_with fail;refine hws.mono ?_;rintro e w1 ⟨rfl,v1,h1,pD,bl1⟩;obtain⟨hm,hW,hS,hpa,k0,b0⟩:=HH.out;obtain⟨hf,hpl,hpb⟩:=HP.out;have t1:jT w.heap.size w.heap.size w w1:=(jT.aJ k0 (aad _)).trans (jT.fW b0 pD bl1);have zz:=t1.size;have KO:=Vc w.heap.size w.heap.size M bW bS _ h aK pa pc sv v1 X lv fl ck w1 h1 (t1.typ _ _ _ _ hm (by decide) (by omega)) (t1.typ _ _ _ _ hW (by decide) (by omega)) (t1.typ _ _ _ _ hS (by decide) (by omega)) ⟨by omega,by omega,by omega⟩ (by omega) hf (hpa.below t1.below hpl) hpl hpb hpn hX hck (by show 0+8<=_;omega);have HT:Hid (_):=t1.below;clear hm hW hS hpa k0 b0 hf hpl hpb h1 pD bl1 t1 hws;go_wp2_with fail;refine KO.mono ?_;rintro e w2 ⟨rfl,ds,v2,hpc,h2,t2⟩;have zz2:=t2.size;have hst:=Tryz.Builder_String_any w.heap.size w.heap.size _ w2 h2.is (by omega);have HF:Hid (_/\_):=⟨hpc,HT.out.trans t2.below⟩
 clear hpc h2 t2 KO;go_wp2_with fail;refine hst.mono ?_;rintro e w3 ⟨rfl,b3⟩;have HG:Hid (_):=HF.out.2.trans b3;clear b3 hst;go_wp2
 go_ret
 exact⟨ds,_,rfl,HF.out.1,rfl,HG.out⟩
theorem QS {P F:Nat->ByteArray->ByteArray->World->Prop}{G:Prop}(h1:(∀a T X u,F a T X u->P a T X u)->G)(h2:∀a T X u,F a T X u->P a T X u):G:=h1 h2
def jV (T X:ByteArray)(lv:Nat):Prop:=∃(P:ByteArray) (Wb ks:List Int),X=bU P T/\Rf.Holds P.data.toList Wb/\Rf.Whole T.data.toList T.data.toList.length Wb ks/\(Wb.length+7)/8<=T.size+5+5*(T.size/65535)/\(∀x∈ks,0<=x/\x<=(lv:Int))
theorem jV.size {T X:ByteArray}{lv:Nat}(h:jV T X lv)(hT:T.size<=4500000):X.size<=10000000/\0<X.size:=by
 obtain⟨P,Wb,ks,rfl,h1,_,h3,_⟩:=h;have e:=cy (bU P T);rw[fB]at e;simp only[aac,aao,abS,cy]at e;have h4:(four (Mx.eg T.data.toList)).length=4:=rfl;have Ou:=h1.1;rw[cy]at Ou;omega
theorem QT (W H n dp lv fl ck:Nat)(kd:Int)(ps:Bool)(aK S:List Int)(pa:Option Addr)(pc G cap:Nat)(w:World)(tt:TypeId)(fr:Nat×Nat)(rK:w.heap[0]?=some (.cells dL tt fr))(hS:gy w G S)(hpf:fk ⟨W,H,kd,dp,ps⟩ aK S)(hcap:S.length<=cap)(hch:Pm.chan kd dp=(n:Int))(hpa:Ints w pa aK)(hpl:∀a,pa=some a->aK≠[]->a.block<w.heap.size)(hlv:lv<=2)(hfl:fl<=5)(hck:1<=ck/\ck<=1048576): Calls Tryz.prog 28 #[.agg (aH W H kd dp ps (.slice pa aK.length pc) (.slice (some ⟨G,0,none⟩) S.length cap)),.agg #[.int .i64 (lv:Nat),.int .i64 (fl:Nat),.int .i64 (ck:Nat)]] w fun e w'=>∃(T X:ByteArray) (ds:List ByteArray) (b:ByteArray),e=.returned (.string b) /\ (T.size:Int)=Pm.raw W H ((n*dp:Nat):Int) ps/\Pm.Written ⟨W,H,n,dp⟩ S (ae T) fl ps/\jV T X lv/\Ec X X.size ck ds/\b.data.toList=qY ⟨W,H,kd,dp,ps⟩ aK ds/\Below w.heap.size w w':=by
 have hfit:=hpf.fits;have hpn:=hpf.few;have hwd:=hpf.hd.wd;have hht:=hpf.hd.ht
 have hn:1<=n/\n<=4:=by
  have h1:=Pm.cm kd dp;have h2:=hpf.hd.ch;have h3:Pm.chan kd dp≠0:=h2;rw[hch]at h1 h3;omega
 have Vu:gT ⟨W,H,kd,dp,ps⟩=⟨W,H,n,dp⟩:=by
  unfold gT;dsimp only;rw[hch];simp
 rw[Vu]at hfit;have eb:Pm.chan kd dp*(dp:Int)=((n*dp:Nat):Int):=by rw[hch];push_cast;rfl
 have hraw:Pm.raw W H ((n*dp:Nat):Int) ps<=4194304:=by
  have:=hpf.raw;unfold mM at this;dsimp only at this;rw[eb]at this;exact this
 obtain⟨k0,q0,q1⟩:=bO w (.cells (aH W H kd dp ps (.slice pa aK.length pc) (.slice (some ⟨G,0,none⟩) S.length cap)) 30) (.cells #[.int .i64 (lv:Nat),.int .i64 (fl:Nat),.int .i64 (ck:Nat)] 32);have hby:=fun u (hu:Below w.heap.size w u)=>QG W H n dp fl kd ps (.slice pa aK.length pc) G S.length cap S u tt fr ((hu.block _ (aab rK)).trans rK) (hS.below hu) hfit rfl hcap (by omega) hfl hch hn (by have:=hwd.1;have:=hwd.2;dsimp only at *;omega) (by have:=hht.1;have:=hht.2;dsimp only at *;omega);have HH:Hid (_/\_/\_/\_/\_/\_/\_/\_):=⟨rK,hS,hpf,hpa,hpl,k0,q0,q1⟩
 have HB:Hid (_):=hby;clear rK hS hpf hpa hpl k0 q0 q1 hby hfit Vu eb
 go_enter Tryz.func28,Tryz.ntmps28
 go_wp2_with fail;apply QS (F:=fun a T X u=>Below w.heap.size w u/\u.heap[w.heap.size]?=some (.cells (aH W H kd dp ps (.slice pa aK.length pc) (.slice (some ⟨G,0,none⟩) S.length cap)) 30 (0,0))/\u.heap[w.heap.size+1]?=some (.cells #[.int .i64 (lv:Nat),.int .i64 (fl:Nat),.int .i64 (ck:Nat)] 32 (0,0))/\bM u a (.string X) 9/\w.heap.size+2<=a/\(T.size:Int)=Pm.raw W H ((n*dp:Nat):Int) ps/\Pm.Written ⟨W,H,n,dp⟩ S (ae T) fl ps/\jV T X lv)
 ·intro rest;have Vv:((w.alloc (.cells (aH W H kd dp ps (.slice pa aK.length pc) (.slice (some ⟨G,0,none⟩) S.length cap)) 30)).alloc (.cells #[.int .i64 (lv:Nat),.int .i64 (fl:Nat),.int .i64 (ck:Nat)] 32)).drew.heap[w.heap.size]?=some (.cells (aH W H kd dp ps (.slice pa aK.length pc) (.slice (some ⟨G,0,none⟩) S.length cap)) 30 (0,0))/\((w.alloc (.cells (aH W H kd dp ps (.slice pa aK.length pc) (.slice (some ⟨G,0,none⟩) S.length cap)) 30)).alloc (.cells #[.int .i64 (lv:Nat),.int .i64 (fl:Nat),.int .i64 (ck:Nat)] 32)).drew.heap[w.heap.size+1]?=some (.cells #[.int .i64 (lv:Nat),.int .i64 (fl:Nat),.int .i64 (ck:Nat)] 32 (0,0)):=⟨HH.out.2.2.2.2.2.2.1,HH.out.2.2.2.2.2.2.2⟩
  have Zc:Below w.heap.size w ((w.alloc (.cells (aH W H kd dp ps (.slice pa aK.length pc) (.slice (some ⟨G,0,none⟩) S.length cap)) 30)).alloc (.cells #[.int .i64 (lv:Nat),.int .i64 (fl:Nat),.int .i64 (ck:Nat)] 32)).drew:=HH.out.2.2.2.2.2.1.drew;have zv0:((w.alloc (.cells (aH W H kd dp ps (.slice pa aK.length pc) (.slice (some ⟨G,0,none⟩) S.length cap)) 30)).alloc (.cells #[.int .i64 (lv:Nat),.int .i64 (fl:Nat),.int .i64 (ck:Nat)] 32)).drew.heap.size=w.heap.size+2:=by simp
  refine aE (fun u=>u.heap[w.heap.size]?=some (.cells (aH W H kd dp ps (.slice pa aK.length pc) (.slice (some ⟨G,0,none⟩) S.length cap)) 30 (0,0))/\u.heap[w.heap.size+1]?=some (.cells #[.int .i64 (lv:Nat),.int .i64 (fl:Nat),.int .i64 (ck:Nat)] 32 (0,0))) 99 ?_;generalize World.drew _=v0 at *;refine am [0,1,2,4,5] ?_
  iterate 5 (refine ff (v:=?_) (T:=?_) ?ht ?hy Vv ?_;(case hy=>intro w hSw;(obtain ⟨s1, s2⟩ := hSw; have KT := aI s1; have VS := fm s2); go_simp;try with_reducible rfl);case ht=>go_simp;try with_reducible rfl)
  refine aj ?_;refine eQ (i:=3) (j:=7) (by kernel_rfl) rfl rfl (fun K hK=>?_) (fun K hK=>?_)
  ·go_simp;refine (HB.out v0 Zc).mono ?_;rintro e v1 ⟨T,rfl,hT1,Vw,Ng⟩;have zv1:=Ng.size;have Nh:v1.heap[w.heap.size]?=some (.cells (aH W H kd dp ps (.slice pa aK.length pc) (.slice (some ⟨G,0,none⟩) S.length cap)) 30 (0,0))/\v1.heap[w.heap.size+1]?=some (.cells #[.int .i64 (lv:Nat),.int .i64 (fl:Nat),.int .i64 (ck:Nat)] 32 (0,0)):=⟨(Ng.block _ (by omega)).trans Vv.1,(Ng.block _ (by omega)).trans Vv.2⟩
   have Vx:Below w.heap.size w v1:=Zc.trans (Ng.mono (by omega));have HT:Hid (_/\_):=⟨hT1,Vw⟩
   have hTs:T.size<=4500000:=by rw[<-Int.ofNat_le];show (T.size:Int)<=4500000;omega
   have hwr:=fun u=>Ov T lv u hlv hTs;clear hT1 Vw;refine hK _ _ (fun _=>Nh) ?_;clear hK K;refine eQ (i:=6) (j:=7) (by kernel_rfl) rfl rfl (fun K hK=>?_) (fun K hK=>?_)
   ·go_simp;refine (hwr _).mono ?_;rintro e v2 ⟨P,Wb,ks,rfl,p1,p2,p3,p4,Cz⟩;have Zd:=Cz.size;have Kx:v2.heap[w.heap.size]?=some (.cells (aH W H kd dp ps (.slice pa aK.length pc) (.slice (some ⟨G,0,none⟩) S.length cap)) 30 (0,0))/\v2.heap[w.heap.size+1]?=some (.cells #[.int .i64 (lv:Nat),.int .i64 (fl:Nat),.int .i64 (ck:Nat)] 32 (0,0)):=⟨(Cz.block _ (by omega)).trans Nh.1,(Cz.block _ (by omega)).trans Nh.2⟩
    have Vy:Below w.heap.size w v2:=Vx.trans (Cz.mono (by omega));have Vz:Hid (jV T (bU P T) lv):=⟨P,Wb,ks,rfl,p1,p2,p3,p4⟩
    clear p1 p2 p3 p4 hwr;generalize bU P T=X at *;refine hK _ _ (fun _=>Kx) ?_;clear hK K;refine ai 7 fun K hK=>?_;go_simp;have AR:=ag v2 (.cells #[.string ⟨#[]⟩] 9);have GE:bM (v2.alloc (.cells #[.string ⟨#[]⟩] 9)) v2.heap.size (.string ⟨#[]⟩) 9:=ak v2 _;have Ze:(v2.alloc (.cells #[.string ⟨#[]⟩] 9)).heap.size=v2.heap.size+1:=by simp
    obtain⟨v3,ev3⟩:∃v,v=v2.alloc (.cells #[.string ⟨#[]⟩] 9):=⟨_,rfl⟩
    rw[<-ev3]at AR GE Ze ⊢;have Ky:v3.heap[w.heap.size]?=some (.cells (aH W H kd dp ps (.slice pa aK.length pc) (.slice (some ⟨G,0,none⟩) S.length cap)) 30 (0,0))/\v3.heap[w.heap.size+1]?=some (.cells #[.int .i64 (lv:Nat),.int .i64 (fl:Nat),.int .i64 (ck:Nat)] 32 (0,0)):=⟨(AR.block _ (by omega)).trans Kx.1,(AR.block _ (by omega)).trans Kx.2⟩
    have VA:Below w.heap.size w v3:=Vy.trans (AR.mono (by omega));clear ev3;refine hK _ _ (fun _=>Ky) ?_;clear hK K;have xf:=GE;refine ai 8 fun K hK=>?_;obtain⟨c0,c1,c2⟩:=one_cell xf;go_simp;have SF:(v3.setCell ⟨v2.heap.size,0,none⟩ (.string X)).heap[w.heap.size]?=some (.cells (aH W H kd dp ps (.slice pa aK.length pc) (.slice (some ⟨G,0,none⟩) S.length cap)) 30 (0,0))/\(v3.setCell ⟨v2.heap.size,0,none⟩ (.string X)).heap[w.heap.size+1]?=some (.cells #[.int .i64 (lv:Nat),.int .i64 (fl:Nat),.int .i64 (ck:Nat)] 32 (0,0)):=⟨(cQ _ _ _ _ _ (by omega)).trans Ky.1,(cQ _ _ _ _ _ (by omega)).trans Ky.2⟩
    have KF:Below w.heap.size w (v3.setCell ⟨v2.heap.size,0,none⟩ (.string X)):=VA.setCell (p:=⟨v2.heap.size,0,none⟩) (by show w.heap.size<=v2.heap.size;omega) _;have XF:bM (v3.setCell ⟨v2.heap.size,0,none⟩ (.string X)) v2.heap.size (.string X) 9:=one_set xf _;refine hK _ _ (fun _=>SF) ?_;clear hK K;refine ar ?_;have hF:Below w.heap.size w (v3.setCell ⟨v2.heap.size,0,none⟩ (.string X))/\(v3.setCell ⟨v2.heap.size,0,none⟩ (.string X)).heap[w.heap.size]?=some (.cells (aH W H kd dp ps (.slice pa aK.length pc) (.slice (some ⟨G,0,none⟩) S.length cap)) 30 (0,0))/\(v3.setCell ⟨v2.heap.size,0,none⟩ (.string X)).heap[w.heap.size+1]?=some (.cells #[.int .i64 (lv:Nat),.int .i64 (fl:Nat),.int .i64 (ck:Nat)] 32 (0,0))/\bM (v3.setCell ⟨v2.heap.size,0,none⟩ (.string X)) v2.heap.size (.string X) 9/\w.heap.size+2<=v2.heap.size/\(T.size:Int)=Pm.raw W H ((n*dp:Nat):Int) ps/\Pm.Written ⟨W,H,n,dp⟩ S (ae T) fl ps/\jV T X lv:=⟨KF,SF.1,SF.2,XF,by omega,HT.out.1,HT.out.2,Vz.out⟩
    clear KF SF XF;revert hF;generalize v3.setCell _ _=u;generalize v2.heap.size=A;intro hF;have r:=rest A T X u hF;exact r
   ·go_simp;have Cz:=ag v1 (.cells #[.string ⟨#[]⟩] 9);have L8:bM (v1.alloc (.cells #[.string ⟨#[]⟩] 9)) v1.heap.size (.string ⟨#[]⟩) 9:=ak v1 _;have Zd:(v1.alloc (.cells #[.string ⟨#[]⟩] 9)).heap.size=v1.heap.size+1:=by simp
    obtain⟨v2,ev2⟩:∃v,v=v1.alloc (.cells #[.string ⟨#[]⟩] 9):=⟨_,rfl⟩
    rw[<-ev2]at Cz L8 Zd ⊢;have Kx:v2.heap[w.heap.size]?=some (.cells (aH W H kd dp ps (.slice pa aK.length pc) (.slice (some ⟨G,0,none⟩) S.length cap)) 30 (0,0))/\v2.heap[w.heap.size+1]?=some (.cells #[.int .i64 (lv:Nat),.int .i64 (fl:Nat),.int .i64 (ck:Nat)] 32 (0,0)):=⟨(Cz.block _ (by omega)).trans Nh.1,(Cz.block _ (by omega)).trans Nh.2⟩
    have Vy:Below w.heap.size w v2:=Vx.trans (Cz.mono (by omega));clear ev2;refine hK _ _ (fun _=>Kx) ?_;clear hK K;refine ai 6 fun K hK=>?_;go_simp;refine (hwr _).mono ?_;rintro e v3 ⟨P,Wb,ks,rfl,p1,p2,p3,p4,AR⟩;have Ze:=AR.size;have Ky:v3.heap[w.heap.size]?=some (.cells (aH W H kd dp ps (.slice pa aK.length pc) (.slice (some ⟨G,0,none⟩) S.length cap)) 30 (0,0))/\v3.heap[w.heap.size+1]?=some (.cells #[.int .i64 (lv:Nat),.int .i64 (fl:Nat),.int .i64 (ck:Nat)] 32 (0,0)):=⟨(AR.block _ (by omega)).trans Kx.1,(AR.block _ (by omega)).trans Kx.2⟩
    have VA:Below w.heap.size w v3:=Vy.trans (AR.mono (by omega));have Vz:Hid (jV T (bU P T) lv):=⟨P,Wb,ks,rfl,p1,p2,p3,p4⟩
    clear p1 p2 p3 p4 hwr;generalize bU P T=X at *;refine hK _ _ (fun _=>Ky) ?_;clear hK K;have xf:bM v3 v1.heap.size (.string ⟨#[]⟩) 9:=(AR.block _ (by omega)).trans L8;refine ai 8 fun K hK=>?_;obtain⟨c0,c1,c2⟩:=one_cell xf;go_simp;have SF:(v3.setCell ⟨v1.heap.size,0,none⟩ (.string X)).heap[w.heap.size]?=some (.cells (aH W H kd dp ps (.slice pa aK.length pc) (.slice (some ⟨G,0,none⟩) S.length cap)) 30 (0,0))/\(v3.setCell ⟨v1.heap.size,0,none⟩ (.string X)).heap[w.heap.size+1]?=some (.cells #[.int .i64 (lv:Nat),.int .i64 (fl:Nat),.int .i64 (ck:Nat)] 32 (0,0)):=⟨(cQ _ _ _ _ _ (by omega)).trans Ky.1,(cQ _ _ _ _ _ (by omega)).trans Ky.2⟩
    have KF:Below w.heap.size w (v3.setCell ⟨v1.heap.size,0,none⟩ (.string X)):=VA.setCell (p:=⟨v1.heap.size,0,none⟩) (by show w.heap.size<=v1.heap.size;omega) _;have XF:bM (v3.setCell ⟨v1.heap.size,0,none⟩ (.string X)) v1.heap.size (.string X) 9:=one_set xf _;refine hK _ _ (fun _=>SF) ?_;clear hK K;refine ar ?_;have hF:Below w.heap.size w (v3.setCell ⟨v1.heap.size,0,none⟩ (.string X))/\(v3.setCell ⟨v1.heap.size,0,none⟩ (.string X)).heap[w.heap.size]?=some (.cells (aH W H kd dp ps (.slice pa aK.length pc) (.slice (some ⟨G,0,none⟩) S.length cap)) 30 (0,0))/\(v3.setCell ⟨v1.heap.size,0,none⟩ (.string X)).heap[w.heap.size+1]?=some (.cells #[.int .i64 (lv:Nat),.int .i64 (fl:Nat),.int .i64 (ck:Nat)] 32 (0,0))/\bM (v3.setCell ⟨v1.heap.size,0,none⟩ (.string X)) v1.heap.size (.string X) 9/\w.heap.size+2<=v1.heap.size/\(T.size:Int)=Pm.raw W H ((n*dp:Nat):Int) ps/\Pm.Written ⟨W,H,n,dp⟩ S (ae T) fl ps/\jV T X lv:=⟨KF,SF.1,SF.2,XF,by omega,HT.out.1,HT.out.2,Vz.out⟩
    clear KF SF XF;revert hF;generalize v3.setCell _ _=u;generalize v1.heap.size=A;intro hF;have r:=rest A T X u hF;exact r
  ·go_simp;have Ng:=ag v0 (.cells #[.string ⟨#[]⟩] 9);have Rn:bM (v0.alloc (.cells #[.string ⟨#[]⟩] 9)) v0.heap.size (.string ⟨#[]⟩) 9:=ak v0 _;have zv1:(v0.alloc (.cells #[.string ⟨#[]⟩] 9)).heap.size=v0.heap.size+1:=by simp
   obtain⟨v1,ev1⟩:∃v,v=v0.alloc (.cells #[.string ⟨#[]⟩] 9):=⟨_,rfl⟩
   rw[<-ev1]at Ng Rn zv1 ⊢;have Nh:v1.heap[w.heap.size]?=some (.cells (aH W H kd dp ps (.slice pa aK.length pc) (.slice (some ⟨G,0,none⟩) S.length cap)) 30 (0,0))/\v1.heap[w.heap.size+1]?=some (.cells #[.int .i64 (lv:Nat),.int .i64 (fl:Nat),.int .i64 (ck:Nat)] 32 (0,0)):=⟨(Ng.block _ (by omega)).trans Vv.1,(Ng.block _ (by omega)).trans Vv.2⟩
   have Vx:Below w.heap.size w v1:=Zc.trans (Ng.mono (by omega));clear ev1;refine hK _ _ (fun _=>Nh) ?_;clear hK K;refine ai 3 fun K hK=>?_;go_simp;refine (HB.out v1 Vx).mono ?_;rintro e v2 ⟨T,rfl,hT1,Vw,Cz⟩;have Zd:=Cz.size;have Kx:v2.heap[w.heap.size]?=some (.cells (aH W H kd dp ps (.slice pa aK.length pc) (.slice (some ⟨G,0,none⟩) S.length cap)) 30 (0,0))/\v2.heap[w.heap.size+1]?=some (.cells #[.int .i64 (lv:Nat),.int .i64 (fl:Nat),.int .i64 (ck:Nat)] 32 (0,0)):=⟨(Cz.block _ (by omega)).trans Nh.1,(Cz.block _ (by omega)).trans Nh.2⟩
   have Vy:Below w.heap.size w v2:=Vx.trans (Cz.mono (by omega));have HT:Hid (_/\_):=⟨hT1,Vw⟩
   have hTs:T.size<=4500000:=by rw[<-Int.ofNat_le];show (T.size:Int)<=4500000;omega
   have hwr:=fun u=>Ov T lv u hlv hTs;clear hT1 Vw;refine hK _ _ (fun _=>Kx) ?_;clear hK K;refine ai 6 fun K hK=>?_;go_simp;refine (hwr _).mono ?_;rintro e v3 ⟨P,Wb,ks,rfl,p1,p2,p3,p4,AR⟩;have Ze:=AR.size;have Ky:v3.heap[w.heap.size]?=some (.cells (aH W H kd dp ps (.slice pa aK.length pc) (.slice (some ⟨G,0,none⟩) S.length cap)) 30 (0,0))/\v3.heap[w.heap.size+1]?=some (.cells #[.int .i64 (lv:Nat),.int .i64 (fl:Nat),.int .i64 (ck:Nat)] 32 (0,0)):=⟨(AR.block _ (by omega)).trans Kx.1,(AR.block _ (by omega)).trans Kx.2⟩
   have VA:Below w.heap.size w v3:=Vy.trans (AR.mono (by omega));have Vz:Hid (jV T (bU P T) lv):=⟨P,Wb,ks,rfl,p1,p2,p3,p4⟩
   clear p1 p2 p3 p4 hwr;generalize bU P T=X at *;refine hK _ _ (fun _=>Ky) ?_;clear hK K;have xf:bM v3 (w.heap.size+2) (.string ⟨#[]⟩) 9:=by rw[<-zv0];exact (AR.block _ (by omega)).trans ((Cz.block _ (by omega)).trans Rn)
   refine ai 8 fun K hK=>?_;obtain⟨c0,c1,c2⟩:=one_cell xf;go_simp;have SF:(v3.setCell ⟨w.heap.size+2,0,none⟩ (.string X)).heap[w.heap.size]?=some (.cells (aH W H kd dp ps (.slice pa aK.length pc) (.slice (some ⟨G,0,none⟩) S.length cap)) 30 (0,0))/\(v3.setCell ⟨w.heap.size+2,0,none⟩ (.string X)).heap[w.heap.size+1]?=some (.cells #[.int .i64 (lv:Nat),.int .i64 (fl:Nat),.int .i64 (ck:Nat)] 32 (0,0)):=⟨(cQ _ _ _ _ _ (by omega)).trans Ky.1,(cQ _ _ _ _ _ (by omega)).trans Ky.2⟩
   have KF:Below w.heap.size w (v3.setCell ⟨w.heap.size+2,0,none⟩ (.string X)):=VA.setCell (p:=⟨w.heap.size+2,0,none⟩) (by show w.heap.size<=w.heap.size+2;omega) _;have XF:bM (v3.setCell ⟨w.heap.size+2,0,none⟩ (.string X)) (w.heap.size+2) (.string X) 9:=one_set xf _;refine hK _ _ (fun _=>SF) ?_;clear hK K;refine ar ?_;have hF:Below w.heap.size w (v3.setCell ⟨w.heap.size+2,0,none⟩ (.string X))/\(v3.setCell ⟨w.heap.size+2,0,none⟩ (.string X)).heap[w.heap.size]?=some (.cells (aH W H kd dp ps (.slice pa aK.length pc) (.slice (some ⟨G,0,none⟩) S.length cap)) 30 (0,0))/\(v3.setCell ⟨w.heap.size+2,0,none⟩ (.string X)).heap[w.heap.size+1]?=some (.cells #[.int .i64 (lv:Nat),.int .i64 (fl:Nat),.int .i64 (ck:Nat)] 32 (0,0))/\bM (v3.setCell ⟨w.heap.size+2,0,none⟩ (.string X)) (w.heap.size+2) (.string X) 9/\w.heap.size+2<=(w.heap.size+2)/\(T.size:Int)=Pm.raw W H ((n*dp:Nat):Int) ps/\Pm.Written ⟨W,H,n,dp⟩ S (ae T) fl ps/\jV T X lv:=⟨KF,SF.1,SF.2,XF,by omega,HT.out.1,HT.out.2,Vz.out⟩
   clear KF SF XF;revert hF;generalize v3.setCell _ _=u;obtain⟨A,hA⟩:∃A,A=w.heap.size+2:=⟨_,rfl⟩
   rw[<-hA];intro hF;obtain⟨f1,f2,f3,f4,f5,f6,f7,f8⟩:=hF;have r:=rest A T X u ⟨f1,f2,f3,f4,by omega,f6,f7,f8⟩;exact r
 ·intro a T X u hu;obtain⟨ku,m1,m2,m3,m4,t1,t2,t3⟩:=hu;obtain⟨rK,hS,hpf,hpa,hpl,k0,q0,q1⟩:=HH.out;have hTs:T.size<=4500000:=by rw[<-Int.ofNat_le];show (T.size:Int)<=4500000;omega
  have VB:=t3.size hTs;have zz:=ku.size
  have hpb:kd=3->Pm.fQ aK 256=true:=fun e=>by
   have h1:=hpf.JT;unfold Pm.iN at h1;rw[aaf e]at h1;simp only[aaJ]at h1;exact h1.2
  have hcf:=AC w.heap.size a (w.heap.size+1) ⟨W,H,kd,dp,ps⟩ aK pa pc (.slice (some ⟨G,0,none⟩) S.length cap) X lv fl ck u m1 m3 m2 hpf.hd (hpa.below ku hpl) (fun x e e2=>by have:=hpl x e e2;omega) hpb (by omega) VB.1 hck;have HF:Hid (_/\_/\_/\_):=⟨ku,t1,t2,t3⟩
  clear rK hS hpf hpa hpl k0 q0 q1 ku m1 m2 m3 t1 t2 t3 HH HB hpb;go_wp2_with fail;refine hcf.mono ?_;rintro e u1 ⟨ds,b,rfl,h1,h2,h3⟩;have HG:Hid (_/\_/\_):=⟨h1,h2,HF.out.1.trans (h3.mono zz)⟩
  clear h1 h2 h3 hcf;go_wp2
  go_ret
  exact⟨T,X,ds,b,rfl,HF.out.2.1,HF.out.2.2.1,HF.out.2.2.2,HG.out.1,HG.out.2.1,HG.out.2.2⟩
theorem Gl {h:Hd}{aK:List Int}{X b:ByteArray}{ds:List ByteArray}{ck:Nat}(hc:Ec X X.size ck ds)(hpl:aK.length<=1000000)(hb:b.data.toList=qY h aK ds):b.size<=57+aK.length+13*X.size:=by
 have e:=cy b;rw[hb]at e;unfold qY bZ at e;have h1:∀(L M:List Ch),(cX (L++M)).length=(cX L).length+(cX M).length:=fun L M=>by rw[Ao,aac]
 have h2:∀(c:Ch) (L:List Ch),(cX (c::L)).length=(n8 c).length+(cX L).length:=fun c L=>by show (n8 c++cX L).length=_;rw[aac]
 rw[aac,h2,h1,h1,Kf]at e;have h3:=yg hc
 have h4:(cX [⟨aO jN,⟨#[]⟩⟩]).length=12:=by
  rw[h2,kM ⟨rfl,rfl,by show 0<=_;omega⟩];rfl
 have h5:(cX (if h.kd=3 then [(⟨aO bQ,cO aK⟩:Ch)] else [])).length<=12+aK.length:=by
  split
  ·have hs:=iU aK;rw[h2,kM ⟨rfl,rfl,by show (cO aK).size<=_;omega⟩];show 12+(cO aK).size+0<=_;omega
  ·exact aaj _
 have h6:Qt.length=8:=rfl;have h7:(cX (ds.map fun d=>(⟨aO aP,d⟩:Ch))).length<=13*X.size:=h3;omega
def dy (lv fl ck:Int):Bool:=(decide (0<=lv)&&decide (lv<=2))&&((decide (0<=fl)&&decide (fl<=5))&&(decide (1<=ck)&&decide (ck<=1048576)))
theorem Gm (n:Int)(w:World):Calls Tryz.prog 59 #[.int .i64 n] w fun e w'=>e=.returned (.bool (decide (0<=n)&&decide (n<=2)))/\w'=w:=by
 go_enter Tryz.func59,Tryz.ntmps59
 go_wp2
 all_goals go_ret
 all_goals refine⟨aG ?_,rfl⟩
 all_goals (rw[aa3];simp;try omega)
theorem CA (n:Int)(w:World):Calls Tryz.prog 60 #[.int .i64 n] w fun e w'=>e=.returned (.bool (decide (0<=n)&&decide (n<=5)))/\w'=w:=by
 go_enter Tryz.func60,Tryz.ntmps60
 go_wp2
 all_goals go_ret
 all_goals refine⟨aG ?_,rfl⟩
 all_goals (rw[aa3];simp;try omega)
theorem yk (lv fl ck:Int)(w:World):Calls Tryz.prog 27 #[.agg #[.int .i64 lv,.int .i64 fl,.int .i64 ck]] w fun e w'=>e=.returned (.bool (dy lv fl ck))/\Below w.heap.size w w':=by
 have h1:=fun u=>Gm lv u;have h2:=fun u=>CA fl u;have HS:Hid (dy lv fl ck=((decide (0<=lv)&&decide (lv<=2))&&((decide (0<=fl)&&decide (fl<=5))&&(decide (1<=ck)&&decide (ck<=1048576))))):=rfl;generalize (decide (0<=lv)&&decide (lv<=2))=a at *;generalize (decide (0<=fl)&&decide (fl<=5))=b at *;have kb:=ag w (.cells #[.int .i64 lv,.int .i64 fl,.int .i64 ck] 32);have HK:Hid (_):=kb;clear kb;cases a
 ·go_enter Tryz.func27,Tryz.ntmps27
  go_wp2_with fail;refine (h1 _).mono ?_;rintro e w' ⟨rfl,rfl⟩;go_wp2
  go_ret
  exact⟨aG (by rw[HS.out];rfl),HK.out⟩
 ·cases b
  ·go_enter Tryz.func27,Tryz.ntmps27
   go_wp2_with fail;refine (h1 _).mono ?_;rintro e w' ⟨rfl,rfl⟩;go_wp2_with fail;refine (h2 _).mono ?_;rintro e w' ⟨rfl,rfl⟩;go_wp2
   go_ret
   exact⟨aG (by rw[HS.out];rfl),HK.out⟩
  ·by_cases hc:1<=ck
   all_goals
    go_enter Tryz.func27,Tryz.ntmps27
    go_wp2_with fail;refine (h1 _).mono ?_;rintro e w' ⟨rfl,rfl⟩;go_wp2_with fail;refine (h2 _).mono ?_;rintro e w' ⟨rfl,rfl⟩;go_wp2
    go_ret
    exact⟨aG (by rw[HS.out,aa3];first|(simp[hc];done)|(simp;omega)),HK.out⟩
def CC (h:Hd)(aK S:List Int)(lv fl ck:Int)(w:World)(e:Ending)(w':World):Prop :=
 ((Pm.check h.wd h.ht h.kd h.dp h.ps aK S≠0/\e=.returned (.tuple #[.string ⟨#[]⟩,.int .i64 (Pm.check h.wd h.ht h.kd h.dp h.ps aK S)])) \/
  (fk h aK S/\dy lv fl ck=false/\e=.returned (.tuple #[.string ⟨#[]⟩,.int .i64 5])) \/
  (fk h aK S/\dy lv fl ck=true/\∃(T X:ByteArray) (ds:List ByteArray) (b:ByteArray),e=.returned (.tuple #[.string b,.int .i64 0])/\(T.size:Int)=mM h/\Pm.Written (gT h) S (ae T) fl.toNat h.ps/\jV T X lv.toNat/\Ec X X.size ck.toNat ds/\b.data.toList=qY h aK ds))/\Below w.heap.size w w'
theorem Ni (h:Hd)(lv fl ck:Int)(aK S:List Int)(pa:Option Addr)(pc G cap:Nat)(w:World)(tt:TypeId)(fr:Nat×Nat)(hl:tM w pa aK (some ⟨G,0,none⟩) S tt fr)(hG:G<w.heap.size)(hcap:S.length<=cap): Calls Tryz.prog 8 #[.agg (dD h (.slice pa aK.length pc) (.slice (some ⟨G,0,none⟩) S.length cap)),.agg #[.int .i64 lv,.int .i64 fl,.int .i64 ck]] w fun e w'=>CC h aK S lv fl ck w e w':=by
 obtain⟨k0,q0,q1⟩:=bO w (.cells (dD h (.slice pa aK.length pc) (.slice (some ⟨G,0,none⟩) S.length cap)) 30) (.cells #[.int .i64 lv,.int .i64 fl,.int .i64 ck] 32);have hck:=Mq h.wd h.ht h.kd h.dp h.ps pa pc aK (some ⟨G,0,none⟩) cap S _ tt fr (hl.later k0);have hsf:=fun u=>yk lv fl ck u;have z2:((w.alloc (.cells (dD h (.slice pa aK.length pc) (.slice (some ⟨G,0,none⟩) S.length cap)) 30)).alloc (.cells #[.int .i64 lv,.int .i64 fl,.int .i64 ck] 32)).heap.size=w.heap.size+2:=by simp
 obtain⟨x0,x1,x2,x3,x4,x5,x6⟩:=aI q0;have HH:Hid (_/\_/\_/\_):=⟨hl,k0,q0,q1⟩
 have HC:Hid (_):=(uk h aK S)
 clear hl k0 q0 q1;obtain⟨c,hc⟩:∃c,c=Pm.check h.wd h.ht h.kd h.dp h.ps aK S:=⟨_,rfl⟩
 have Zf:Hid (c=Pm.check h.wd h.ht h.kd h.dp h.ps aK S):=hc;rw[<-hc]at hck;clear hc;by_cases h0:c=0
 ·subst h0;have hpf:fk h aK S:=HC.out.1 Zf.out.symm;have RK:Hid (_):=hpf;clear hpf;obtain⟨st,hst⟩:∃st,st=dy lv fl ck:=⟨_,rfl⟩
  rw[<-hst]at hsf;have HST:Hid (st=dy lv fl ck):=hst;clear hst;cases st
  ·go_enter Tryz.func8,Tryz.ntmps8
   go_wp2_with fail;refine hck.mono ?_;rintro e w1 ⟨rfl,b1⟩;have q1:=(b1.block (w.heap.size+1) (by omega)).trans HH.out.2.2.2;obtain⟨y0,y1,y2⟩:=fm q1;have HB:Hid (_):=HH.out.2.1.trans (b1.mono (by omega));have zz:=b1.size;clear q1 b1 hck;go_wp2_with fail;refine (hsf _).mono ?_;rintro e w2 ⟨rfl,b2⟩;have HB2:Hid (_):=HB.out.trans (b2.mono (by omega));clear b2 hsf;go_wp2;refine aal (v:=.tuple #[.string ⟨#[]⟩,.int .i64 5]) (by simp[results,Tryz.results8,go_sem]) rfl ⟨.inr (.inl ⟨RK.out,HST.out.symm,rfl⟩),HB2.out⟩
  ·obtain⟨W,hW⟩:∃W:Nat,h.wd=(W:Int):=⟨h.wd.toNat,by have:=RK.out.hd.wd;omega⟩
   obtain⟨H,hH⟩:∃H:Nat,h.ht=(H:Int):=⟨h.ht.toNat,by have:=RK.out.hd.ht;omega⟩
   have hdd:=Pm.bp _ _ RK.out.hd.ch;obtain⟨dp,hdp⟩:∃dp:Nat,h.dp=(dp:Int):=⟨h.dp.toNat,by omega⟩
   obtain⟨wd0,ht0,kd,dp0,ps⟩:=h;simp only at hW hH hdp;subst hW hH hdp;obtain⟨n,hn⟩:∃n:Nat,Pm.chan kd dp=(n:Int):=⟨(Pm.chan kd dp).toNat,by have:=(Pm.cm kd dp).1;omega⟩
   have hsb:=HST.out.symm;simp only[dy,aaJ,aaH]at hsb;obtain⟨⟨a1,a2⟩,⟨a3,a4⟩,a5,a6⟩:=hsb;obtain⟨Ow,rfl⟩:∃x:Nat,lv=(x:Int):=⟨lv.toNat,by omega⟩
   obtain⟨Ei,rfl⟩:∃x:Nat,fl=(x:Int):=⟨fl.toNat,by omega⟩
   obtain⟨Wk,rfl⟩:∃x:Nat,ck=(x:Int):=⟨ck.toNat,by omega⟩
   have hwr:=fun u (hu:Below w.heap.size w u)=>QT W H n dp Ow Ei Wk kd ps aK S pa pc G cap u tt fr (HH.out.1.later hu).tab ⟨fun j hj=>by
     obtain⟨b,off,e1,e2⟩:=(HH.out.1.later hu).hs j hj;have e3:(⟨G,0,none⟩:Addr)=⟨b,off,none⟩:=aay e1;have e4:G=b:=abq Addr.block e3;have e5:0=off:=abq Addr.off e3;subst e4 e5;rw[aaF]at e2;rw[e2];unfold Pm.ap;rw[aaa,aai hj]
     rfl,aar hG hu.size⟩ RK.out hcap hn (HH.out.1.later hu).hp (HH.out.1.later hu).hpa (by omega) (by omega) (by omega)
   have GI:Hid (_):=hwr
   have HRW:Hid (Pm.raw W H ((n*dp:Nat):Int) ps=mM ⟨W,H,kd,dp,ps⟩/\gT ⟨W,H,kd,dp,ps⟩=⟨W,H,n,dp⟩):=by
    have eb:Pm.chan kd dp*(dp:Int)=((n*dp:Nat):Int):=by rw[hn];push_cast;rfl
    refine⟨by unfold mM;dsimp only;rw[eb],?_⟩;unfold gT;dsimp only;rw[hn];simp
   clear hwr
   go_enter Tryz.func8,Tryz.ntmps8
   go_wp2_with fail;refine hck.mono ?_;rintro e w1 ⟨rfl,b1⟩;have q0:=(b1.block w.heap.size (by omega)).trans HH.out.2.2.1;have q1:=(b1.block (w.heap.size+1) (by omega)).trans HH.out.2.2.2;obtain⟨y0,y1,y2⟩:=fm q1;have HB:Hid (_/\_/\_):=⟨HH.out.2.1.trans (b1.mono (by omega)),q0,q1⟩
   have zz:=b1.size;clear q0 q1 b1 hck;go_wp2_with fail;refine (hsf _).mono ?_;rintro e w2 ⟨rfl,b2⟩;have q0:=(b2.block w.heap.size (by omega)).trans HB.out.2.1;have q1:=(b2.block (w.heap.size+1) (by omega)).trans HB.out.2.2;obtain⟨y0,y1,y2⟩:=fm q1;obtain⟨x0,x1,x2,x3,x4,x5,x6⟩:=aI q0;have k2:=HB.out.1.trans (b2.mono (by omega));have hw:=GI.out w2 k2;have KL:Hid (_):=k2;clear q0 q1 b2 hsf k2;go_wp2_with fail;refine hw.mono ?_;rintro e w3 ⟨T,X,ds,b,rfl,t1,t2,t3,t4,t5,b3⟩;have HF:Hid (_/\_/\_/\_/\_/\_):=⟨t1,t2,t3,t4,t5,KL.out.trans (b3.mono KL.out.size)⟩
   clear t1 t2 t3 t4 t5 b3 hw;go_wp2;refine aal (v:=.tuple #[.string b,.int .i64 0]) (by simp[results,Tryz.results8,go_sem]) rfl ⟨.inr (.inr ⟨RK.out,HST.out.symm,T,X,ds,b,rfl,HF.out.1.trans HRW.out.1,?_,HF.out.2.2.1,HF.out.2.2.2.1,HF.out.2.2.2.2.1⟩),HF.out.2.2.2.2.2⟩;rw[HRW.out.2];exact HF.out.2.1
 ·have h0':(c==0)=false:=aam.2 h0;have HN0:Hid (c≠0):=h0;clear h0
  go_enter Tryz.func8,Tryz.ntmps8
  go_wp2_with fail;refine hck.mono ?_;rintro e w1 ⟨rfl,b1⟩;have HB:Hid (_):=HH.out.2.1.trans (b1.mono (by omega));clear b1 hck;go_wp2;refine aal (v:=.tuple #[.string ⟨#[]⟩,.int .i64 c]) (by simp[results,Tryz.results8,go_sem]) rfl ⟨.inl ⟨by rw[<-Zf.out];exact HN0.out,by rw[<-Zf.out]⟩,HB.out⟩
end Go.Proofs.YtmfijackgekioaaGreatDoor
