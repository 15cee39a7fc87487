import Derived.Test.YtmfijackgekioabGreatDoorQ41
import Derived.Test.YtmfijackgekioabGreatDoorQ44
set_option maxHeartbeats 1000000
set_option maxRecDepth 100000
namespace Go.Proofs.YtmfijackgekioabGreatDoor
open Go.RowKit Go.Maps
theorem ID (args:Array Value)(w:World):(callFunc 49 args).run Tryz.prog w=.ok (.enter 49 args) w:=by kernel_rfl
theorem mG.is {w:World}{B b:Nat}{l:List UInt8}{v:Value}(h:mG w B b l v):Lib.IsBuilder 132 5 B b (Lib.byteCells l) w:=by
 obtain⟨p,hb,hp⟩:=h.blk;have ho:w.ownsRow B 5 1 v (Lib.byteCells l).length (Lib.byteCells l):=by rw[Lib.byteCells_length];exact h.own
 rcases hp with rfl|rfl
 ·exact .inl ⟨h.low,v,hb,ho,h.ne hb (by decide)⟩
 ·exact .inr ⟨h.low,v,hb,ho,h.ne hb (by decide)⟩
theorem BG (M bW bS:Nat)(h:Hd)(aq:List Int)(pa:Option Addr)(pc:Nat)(sv:Value)(X:ByteArray)(lv fl:Int)(ck:Nat)(w:World)(hm:w.heap[M]?=some (.cells (bq h (.slice pa aq.length pc) sv) 24 (0,0)))(hW:bG w bW (.string X) 9)(hS:w.heap[bS]?=some (.cells #[.int .i64 lv,.int .i64 fl,.int .i64 ck] 29 (0,0)))(hf:ma h)(hpa:Ints w pa aq)(hpl:∀a,pa=some a->aq≠[]->a.block<w.heap.size)(hpb:h.kd=3->Pm.eu aq 256=true)(hpn:aq.length<=1000000)(hX:X.size<=10000000)(hck:1<=ck/\ck<=1048576): Calls Tryz.prog 48 #[.func (.func 49) #[] #[.pointer (some ⟨M,0,none⟩),.pointer (some ⟨bW,0,none⟩),.pointer (some ⟨bS,0,none⟩)]] w fun e w'=>∃ds b,e=.returned (.string b)/\Ir X X.size ck ds/\b.data.toList=iQ h aq ds/\Below w.heap.size w w':=by
 have hcall:=ID;have k0:=ae w (.cells #[.pointer none,.slice none 0 0] 132);have q0:=ah w (.cells #[.pointer none,.slice none 0 0] 132);have z0:(w.alloc (.cells #[.pointer none,.slice none 0 0] 132)).heap.size=w.heap.size+1:=by simp
 have lM:=aaa hm;have lW:=aaa hW;have lS:=aaa hS;have b0:mG (w.alloc (.cells #[.pointer none,.slice none 0 0] 132)) w.heap.size w.heap.size [] (.slice none 0 0):=⟨aah _,⟨_,q0,.inl rfl⟩,⟨rfl,.inl ⟨rfl,rfl⟩⟩⟩
 have hws:=kJ w.heap.size w.heap.size [] ⟨#[137,80,78,71,13,10,26,10]⟩ (.slice none 0 0) _ b0 (by omega) (by show 0+8<=_;omega);have HH:Hid (_/\_/\_/\_/\_/\_):=⟨hm,hW,hS,hpa,k0,b0⟩
 have HP:Hid (_/\_/\_):=⟨hf,hpl,hpb⟩
 clear hm hW hS hpa k0 q0 b0 hf hpl hpb
 go_enter Tryz.func48,Tryz.ntmps48
 go_wp2_with fail;refine hws.mono ?_;rintro e w1 ⟨rfl,v1,h1,kQ,bl1⟩;obtain⟨hm,hW,hS,hpa,k0,b0⟩:=HH.out;obtain⟨hf,hpl,hpb⟩:=HP.out;have t1:kK w.heap.size w.heap.size w w1:=(kK.aF k0 (aah _)).trans (kK.jx b0 kQ bl1);have zz:=t1.size;have MJ:=XR w.heap.size w.heap.size M bW bS _ h aq pa pc sv v1 X lv fl ck w1 h1 (t1.typ _ _ _ _ hm (by decide) (by omega)) (t1.typ _ _ _ _ hW (by decide) (by omega)) (t1.typ _ _ _ _ hS (by decide) (by omega)) ⟨by omega,by omega,by omega⟩ (by omega) hf (hpa.below t1.below hpl) hpl hpb hpn hX hck (by show 0+8<=_;omega);have HT:Hid (_):=t1.below;clear hm hW hS hpa k0 b0 hf hpl hpb h1 kQ bl1 t1 hws;go_wp2_with fail;refine MJ.mono ?_;rintro e w2 ⟨rfl,ds,v2,hpc,h2,t2⟩;have zz2:=t2.size;have hst:=Tryz.Builder_String_any w.heap.size w.heap.size _ w2 h2.is (by omega);have HF:Hid (_/\_):=⟨hpc,HT.out.trans t2.below⟩
 clear hpc h2 t2 MJ;go_wp2_with fail;refine hst.mono ?_;rintro e w3 ⟨rfl,b3⟩;have HG:Hid (_):=HF.out.2.trans b3;clear b3 hst;go_wp2
 go_ret
 exact⟨ds,_,rfl,HF.out.1,rfl,HG.out⟩
theorem TS {P F:Nat->ByteArray->ByteArray->World->Prop}{G:Prop}(h1:(∀a T X u,F a T X u->P a T X u)->G)(h2:∀a T X u,F a T X u->P a T X u):G:=h1 h2
def jO (T X:ByteArray)(lv:Nat):Prop:=∃(P:ByteArray) (Wb ks:List Int),X=dH P T/\Rf.Holds P.data.toList Wb/\Rf.Whole T.data.toList T.data.toList.length Wb ks/\(Wb.length+7)/8<=T.size+5+5*(T.size/65535)/\(∀x∈ks,0<=x/\x<=(lv:Int))
theorem jO.size {T X:ByteArray}{lv:Nat}(h:jO T X lv)(hT:T.size<=4500000):X.size<=10000000/\0<X.size:=by
 obtain⟨P,Wb,ks,rfl,h1,_,h3,_⟩:=h;have e:=cj (dH P T);rw[ib]at e;simp only[aac,aaA,acH,cj]at e;have h4:(four (Mx.ew T.data.toList)).length=4:=rfl;have Yf:=h1.1;rw[cj]at Yf;omega
theorem TT (W H n dp lv fl ck:Nat)(kd:Int)(ps:Bool)(aq S:List Int)(pa:Option Addr)(pc G cap:Nat)(w:World)(tt:TypeId)(fr:Nat×Nat)(jI:w.heap[0]?=some (.cells cX tt fr))(hS:gZ w G S)(hpf:du ⟨W,H,kd,dp,ps⟩ aq S)(hcap:S.length<=cap)(hch:Pm.chan kd dp=(n:Int))(hpa:Ints w pa aq)(hpl:∀a,pa=some a->aq≠[]->a.block<w.heap.size)(hlv:lv<=2)(hfl:fl<=5)(hck:1<=ck/\ck<=1048576): Calls Tryz.prog 29 #[.agg (aD W H kd dp ps (.slice pa aq.length pc) (.slice (some ⟨G,0,none⟩) S.length cap)),.agg #[.int .i64 (lv:Nat),.int .i64 (fl:Nat),.int .i64 (ck:Nat)]] w fun e w'=>∃(T X:ByteArray) (ds:List ByteArray) (b:ByteArray),e=.returned (.string b) /\ (T.size:Int)=Pm.raw W H ((n*dp:Nat):Int) ps/\Pm.Written ⟨W,H,n,dp⟩ S (af T) fl ps/\jO T X lv/\Ir X X.size ck ds/\b.data.toList=iQ ⟨W,H,kd,dp,ps⟩ aq ds/\Below w.heap.size w w':=by
 have hfit:=hpf.fits;have hpn:=hpf.few;have hwd:=hpf.hd.wd;have hht:=hpf.hd.ht
 have hn:1<=n/\n<=4:=by
  have h1:=Pm.cS kd dp;have h2:=hpf.hd.ch;have h3:Pm.chan kd dp≠0:=h2;rw[hch]at h1 h3;omega
 have Yj:gK ⟨W,H,kd,dp,ps⟩=⟨W,H,n,dp⟩:=by
  unfold gK;dsimp only;rw[hch];simp
 rw[Yj]at hfit;have eb:Pm.chan kd dp*(dp:Int)=((n*dp:Nat):Int):=by rw[hch];push_cast;rfl
 have hraw:Pm.raw W H ((n*dp:Nat):Int) ps<=4194304:=by
  have:=hpf.raw;unfold bY at this;dsimp only at this;rw[eb]at this;exact this
 obtain⟨k0,q0,q1⟩:=bH w (.cells (aD W H kd dp ps (.slice pa aq.length pc) (.slice (some ⟨G,0,none⟩) S.length cap)) 24) (.cells #[.int .i64 (lv:Nat),.int .i64 (fl:Nat),.int .i64 (ck:Nat)] 29);have hby:=fun u (hu:Below w.heap.size w u)=>Tt W H n dp fl kd ps (.slice pa aq.length pc) G S.length cap S u tt fr ((hu.block _ (aaa jI)).trans jI) (hS.below hu) hfit rfl hcap (by omega) hfl hch hn (by have:=hwd.1;have:=hwd.2;dsimp only at *;omega) (by have:=hht.1;have:=hht.2;dsimp only at *;omega);have HH:Hid (_/\_/\_/\_/\_/\_/\_/\_):=⟨jI,hS,hpf,hpa,hpl,k0,q0,q1⟩
 have HB:Hid (_):=hby;clear jI hS hpf hpa hpl k0 q0 q1 hby hfit Yj eb
 go_enter Tryz.func29,Tryz.ntmps29
 go_wp2_with fail;apply TS (F:=fun a T X u=>Below w.heap.size w u/\u.heap[w.heap.size]?=some (.cells (aD W H kd dp ps (.slice pa aq.length pc) (.slice (some ⟨G,0,none⟩) S.length cap)) 24 (0,0))/\u.heap[w.heap.size+1]?=some (.cells #[.int .i64 (lv:Nat),.int .i64 (fl:Nat),.int .i64 (ck:Nat)] 29 (0,0))/\bG u a (.string X) 9/\w.heap.size+2<=a/\(T.size:Int)=Pm.raw W H ((n*dp:Nat):Int) ps/\Pm.Written ⟨W,H,n,dp⟩ S (af T) fl ps/\jO T X lv)
 ·intro rest;have Yk:((w.alloc (.cells (aD W H kd dp ps (.slice pa aq.length pc) (.slice (some ⟨G,0,none⟩) S.length cap)) 24)).alloc (.cells #[.int .i64 (lv:Nat),.int .i64 (fl:Nat),.int .i64 (ck:Nat)] 29)).drew.heap[w.heap.size]?=some (.cells (aD W H kd dp ps (.slice pa aq.length pc) (.slice (some ⟨G,0,none⟩) S.length cap)) 24 (0,0))/\((w.alloc (.cells (aD W H kd dp ps (.slice pa aq.length pc) (.slice (some ⟨G,0,none⟩) S.length cap)) 24)).alloc (.cells #[.int .i64 (lv:Nat),.int .i64 (fl:Nat),.int .i64 (ck:Nat)] 29)).drew.heap[w.heap.size+1]?=some (.cells #[.int .i64 (lv:Nat),.int .i64 (fl:Nat),.int .i64 (ck:Nat)] 29 (0,0)):=⟨HH.out.2.2.2.2.2.2.1,HH.out.2.2.2.2.2.2.2⟩
  have Kv0:Below w.heap.size w ((w.alloc (.cells (aD W H kd dp ps (.slice pa aq.length pc) (.slice (some ⟨G,0,none⟩) S.length cap)) 24)).alloc (.cells #[.int .i64 (lv:Nat),.int .i64 (fl:Nat),.int .i64 (ck:Nat)] 29)).drew:=HH.out.2.2.2.2.2.1.drew;have zv0:((w.alloc (.cells (aD W H kd dp ps (.slice pa aq.length pc) (.slice (some ⟨G,0,none⟩) S.length cap)) 24)).alloc (.cells #[.int .i64 (lv:Nat),.int .i64 (fl:Nat),.int .i64 (ck:Nat)] 29)).drew.heap.size=w.heap.size+2:=by simp
  refine ax (fun u=>u.heap[w.heap.size]?=some (.cells (aD W H kd dp ps (.slice pa aq.length pc) (.slice (some ⟨G,0,none⟩) S.length cap)) 24 (0,0))/\u.heap[w.heap.size+1]?=some (.cells #[.int .i64 (lv:Nat),.int .i64 (fl:Nat),.int .i64 (ck:Nat)] 29 (0,0))) 99 ?_;generalize World.drew _=v0 at *;refine ap [0,1,2,4,5] ?_
  iterate 5 (refine bU (v:=?_) (T:=?_) ?ht ?hy Yk ?_;(case hy=>intro w hSw;(obtain ⟨s1, s2⟩ := hSw; have xr := aP s1; have Y0 := n9 s2); go_simp;try with_reducible rfl);case ht=>go_simp;try with_reducible rfl)
  refine aj ?_;refine fp (i:=3) (j:=7) (by kernel_rfl) rfl rfl (fun K hK=>?_) (fun K hK=>?_)
  ·go_simp;refine (HB.out v0 Kv0).mono ?_;rintro e v1 ⟨T,rfl,hT1,IR,Po⟩;have zv1:=Po.size;have Pp:v1.heap[w.heap.size]?=some (.cells (aD W H kd dp ps (.slice pa aq.length pc) (.slice (some ⟨G,0,none⟩) S.length cap)) 24 (0,0))/\v1.heap[w.heap.size+1]?=some (.cells #[.int .i64 (lv:Nat),.int .i64 (fl:Nat),.int .i64 (ck:Nat)] 29 (0,0)):=⟨(Po.block _ (by omega)).trans Yk.1,(Po.block _ (by omega)).trans Yk.2⟩
   have Yl:Below w.heap.size w v1:=Kv0.trans (Po.mono (by omega));have HT:Hid (_/\_):=⟨hT1,IR⟩
   have hTs:T.size<=4500000:=by rw[<-Int.ofNat_le];show (T.size:Int)<=4500000;omega
   have hwr:=fun u=>QD T lv u hlv hTs;clear hT1 IR;refine hK _ _ (fun _=>Pp) ?_;clear hK K;refine fp (i:=6) (j:=7) (by kernel_rfl) rfl rfl (fun K hK=>?_) (fun K hK=>?_)
   ·go_simp;refine (hwr _).mono ?_;rintro e v2 ⟨P,Wb,ks,rfl,p1,p2,p3,p4,Ef⟩;have zv2:=Ef.size;have Mv:v2.heap[w.heap.size]?=some (.cells (aD W H kd dp ps (.slice pa aq.length pc) (.slice (some ⟨G,0,none⟩) S.length cap)) 24 (0,0))/\v2.heap[w.heap.size+1]?=some (.cells #[.int .i64 (lv:Nat),.int .i64 (fl:Nat),.int .i64 (ck:Nat)] 29 (0,0)):=⟨(Ef.block _ (by omega)).trans Pp.1,(Ef.block _ (by omega)).trans Pp.2⟩
    have Ym:Below w.heap.size w v2:=Yl.trans (Ef.mono (by omega));have Yn:Hid (jO T (dH P T) lv):=⟨P,Wb,ks,rfl,p1,p2,p3,p4⟩
    clear p1 p2 p3 p4 hwr;generalize dH P T=X at *;refine hK _ _ (fun _=>Mv) ?_;clear hK K;refine ag 7 fun K hK=>?_;go_simp;have BX:=ae v2 (.cells #[.string ⟨#[]⟩] 9);have I0:bG (v2.alloc (.cells #[.string ⟨#[]⟩] 9)) v2.heap.size (.string ⟨#[]⟩) 9:=ah v2 _;have zv3:(v2.alloc (.cells #[.string ⟨#[]⟩] 9)).heap.size=v2.heap.size+1:=by simp
    obtain⟨v3,ev3⟩:∃v,v=v2.alloc (.cells #[.string ⟨#[]⟩] 9):=⟨_,rfl⟩
    rw[<-ev3]at BX I0 zv3 ⊢;have Mw:v3.heap[w.heap.size]?=some (.cells (aD W H kd dp ps (.slice pa aq.length pc) (.slice (some ⟨G,0,none⟩) S.length cap)) 24 (0,0))/\v3.heap[w.heap.size+1]?=some (.cells #[.int .i64 (lv:Nat),.int .i64 (fl:Nat),.int .i64 (ck:Nat)] 29 (0,0)):=⟨(BX.block _ (by omega)).trans Mv.1,(BX.block _ (by omega)).trans Mv.2⟩
    have Yo:Below w.heap.size w v3:=Ym.trans (BX.mono (by omega));clear ev3;refine hK _ _ (fun _=>Mw) ?_;clear hK K;have xf:=I0;refine ag 8 fun K hK=>?_;obtain⟨c0,c1,c2⟩:=one_cell xf;go_simp;have SF:(v3.setCell ⟨v2.heap.size,0,none⟩ (.string X)).heap[w.heap.size]?=some (.cells (aD W H kd dp ps (.slice pa aq.length pc) (.slice (some ⟨G,0,none⟩) S.length cap)) 24 (0,0))/\(v3.setCell ⟨v2.heap.size,0,none⟩ (.string X)).heap[w.heap.size+1]?=some (.cells #[.int .i64 (lv:Nat),.int .i64 (fl:Nat),.int .i64 (ck:Nat)] 29 (0,0)):=⟨(aG _ _ _ _ _ (by omega)).trans Mw.1,(aG _ _ _ _ _ (by omega)).trans Mw.2⟩
    have KF:Below w.heap.size w (v3.setCell ⟨v2.heap.size,0,none⟩ (.string X)):=Yo.setCell (p:=⟨v2.heap.size,0,none⟩) (by show w.heap.size<=v2.heap.size;omega) _;have XF:bG (v3.setCell ⟨v2.heap.size,0,none⟩ (.string X)) v2.heap.size (.string X) 9:=one_set xf _;refine hK _ _ (fun _=>SF) ?_;clear hK K;refine am ?_;have hF:Below w.heap.size w (v3.setCell ⟨v2.heap.size,0,none⟩ (.string X))/\(v3.setCell ⟨v2.heap.size,0,none⟩ (.string X)).heap[w.heap.size]?=some (.cells (aD W H kd dp ps (.slice pa aq.length pc) (.slice (some ⟨G,0,none⟩) S.length cap)) 24 (0,0))/\(v3.setCell ⟨v2.heap.size,0,none⟩ (.string X)).heap[w.heap.size+1]?=some (.cells #[.int .i64 (lv:Nat),.int .i64 (fl:Nat),.int .i64 (ck:Nat)] 29 (0,0))/\bG (v3.setCell ⟨v2.heap.size,0,none⟩ (.string X)) v2.heap.size (.string X) 9/\w.heap.size+2<=v2.heap.size/\(T.size:Int)=Pm.raw W H ((n*dp:Nat):Int) ps/\Pm.Written ⟨W,H,n,dp⟩ S (af T) fl ps/\jO T X lv:=⟨KF,SF.1,SF.2,XF,by omega,HT.out.1,HT.out.2,Yn.out⟩
    clear KF SF XF;revert hF;generalize v3.setCell _ _=u;generalize v2.heap.size=A;intro hF;have r:=rest A T X u hF;exact r
   ·go_simp;have Ef:=ae v1 (.cells #[.string ⟨#[]⟩] 9);have N8:bG (v1.alloc (.cells #[.string ⟨#[]⟩] 9)) v1.heap.size (.string ⟨#[]⟩) 9:=ah v1 _;have zv2:(v1.alloc (.cells #[.string ⟨#[]⟩] 9)).heap.size=v1.heap.size+1:=by simp
    obtain⟨v2,ev2⟩:∃v,v=v1.alloc (.cells #[.string ⟨#[]⟩] 9):=⟨_,rfl⟩
    rw[<-ev2]at Ef N8 zv2 ⊢;have Mv:v2.heap[w.heap.size]?=some (.cells (aD W H kd dp ps (.slice pa aq.length pc) (.slice (some ⟨G,0,none⟩) S.length cap)) 24 (0,0))/\v2.heap[w.heap.size+1]?=some (.cells #[.int .i64 (lv:Nat),.int .i64 (fl:Nat),.int .i64 (ck:Nat)] 29 (0,0)):=⟨(Ef.block _ (by omega)).trans Pp.1,(Ef.block _ (by omega)).trans Pp.2⟩
    have Ym:Below w.heap.size w v2:=Yl.trans (Ef.mono (by omega));clear ev2;refine hK _ _ (fun _=>Mv) ?_;clear hK K;refine ag 6 fun K hK=>?_;go_simp;refine (hwr _).mono ?_;rintro e v3 ⟨P,Wb,ks,rfl,p1,p2,p3,p4,BX⟩;have zv3:=BX.size;have Mw:v3.heap[w.heap.size]?=some (.cells (aD W H kd dp ps (.slice pa aq.length pc) (.slice (some ⟨G,0,none⟩) S.length cap)) 24 (0,0))/\v3.heap[w.heap.size+1]?=some (.cells #[.int .i64 (lv:Nat),.int .i64 (fl:Nat),.int .i64 (ck:Nat)] 29 (0,0)):=⟨(BX.block _ (by omega)).trans Mv.1,(BX.block _ (by omega)).trans Mv.2⟩
    have Yo:Below w.heap.size w v3:=Ym.trans (BX.mono (by omega));have Yn:Hid (jO T (dH P T) lv):=⟨P,Wb,ks,rfl,p1,p2,p3,p4⟩
    clear p1 p2 p3 p4 hwr;generalize dH P T=X at *;refine hK _ _ (fun _=>Mw) ?_;clear hK K;have xf:bG v3 v1.heap.size (.string ⟨#[]⟩) 9:=(BX.block _ (by omega)).trans N8;refine ag 8 fun K hK=>?_;obtain⟨c0,c1,c2⟩:=one_cell xf;go_simp;have SF:(v3.setCell ⟨v1.heap.size,0,none⟩ (.string X)).heap[w.heap.size]?=some (.cells (aD W H kd dp ps (.slice pa aq.length pc) (.slice (some ⟨G,0,none⟩) S.length cap)) 24 (0,0))/\(v3.setCell ⟨v1.heap.size,0,none⟩ (.string X)).heap[w.heap.size+1]?=some (.cells #[.int .i64 (lv:Nat),.int .i64 (fl:Nat),.int .i64 (ck:Nat)] 29 (0,0)):=⟨(aG _ _ _ _ _ (by omega)).trans Mw.1,(aG _ _ _ _ _ (by omega)).trans Mw.2⟩
    have KF:Below w.heap.size w (v3.setCell ⟨v1.heap.size,0,none⟩ (.string X)):=Yo.setCell (p:=⟨v1.heap.size,0,none⟩) (by show w.heap.size<=v1.heap.size;omega) _;have XF:bG (v3.setCell ⟨v1.heap.size,0,none⟩ (.string X)) v1.heap.size (.string X) 9:=one_set xf _;refine hK _ _ (fun _=>SF) ?_;clear hK K;refine am ?_;have hF:Below w.heap.size w (v3.setCell ⟨v1.heap.size,0,none⟩ (.string X))/\(v3.setCell ⟨v1.heap.size,0,none⟩ (.string X)).heap[w.heap.size]?=some (.cells (aD W H kd dp ps (.slice pa aq.length pc) (.slice (some ⟨G,0,none⟩) S.length cap)) 24 (0,0))/\(v3.setCell ⟨v1.heap.size,0,none⟩ (.string X)).heap[w.heap.size+1]?=some (.cells #[.int .i64 (lv:Nat),.int .i64 (fl:Nat),.int .i64 (ck:Nat)] 29 (0,0))/\bG (v3.setCell ⟨v1.heap.size,0,none⟩ (.string X)) v1.heap.size (.string X) 9/\w.heap.size+2<=v1.heap.size/\(T.size:Int)=Pm.raw W H ((n*dp:Nat):Int) ps/\Pm.Written ⟨W,H,n,dp⟩ S (af T) fl ps/\jO T X lv:=⟨KF,SF.1,SF.2,XF,by omega,HT.out.1,HT.out.2,Yn.out⟩
    clear KF SF XF;revert hF;generalize v3.setCell _ _=u;generalize v1.heap.size=A;intro hF;have r:=rest A T X u hF;exact r
  ·go_simp;have Po:=ae v0 (.cells #[.string ⟨#[]⟩] 9);have Ut:bG (v0.alloc (.cells #[.string ⟨#[]⟩] 9)) v0.heap.size (.string ⟨#[]⟩) 9:=ah v0 _;have zv1:(v0.alloc (.cells #[.string ⟨#[]⟩] 9)).heap.size=v0.heap.size+1:=by simp
   obtain⟨v1,ev1⟩:∃v,v=v0.alloc (.cells #[.string ⟨#[]⟩] 9):=⟨_,rfl⟩
   rw[<-ev1]at Po Ut zv1 ⊢;have Pp:v1.heap[w.heap.size]?=some (.cells (aD W H kd dp ps (.slice pa aq.length pc) (.slice (some ⟨G,0,none⟩) S.length cap)) 24 (0,0))/\v1.heap[w.heap.size+1]?=some (.cells #[.int .i64 (lv:Nat),.int .i64 (fl:Nat),.int .i64 (ck:Nat)] 29 (0,0)):=⟨(Po.block _ (by omega)).trans Yk.1,(Po.block _ (by omega)).trans Yk.2⟩
   have Yl:Below w.heap.size w v1:=Kv0.trans (Po.mono (by omega));clear ev1;refine hK _ _ (fun _=>Pp) ?_;clear hK K;refine ag 3 fun K hK=>?_;go_simp;refine (HB.out v1 Yl).mono ?_;rintro e v2 ⟨T,rfl,hT1,IR,Ef⟩;have zv2:=Ef.size;have Mv:v2.heap[w.heap.size]?=some (.cells (aD W H kd dp ps (.slice pa aq.length pc) (.slice (some ⟨G,0,none⟩) S.length cap)) 24 (0,0))/\v2.heap[w.heap.size+1]?=some (.cells #[.int .i64 (lv:Nat),.int .i64 (fl:Nat),.int .i64 (ck:Nat)] 29 (0,0)):=⟨(Ef.block _ (by omega)).trans Pp.1,(Ef.block _ (by omega)).trans Pp.2⟩
   have Ym:Below w.heap.size w v2:=Yl.trans (Ef.mono (by omega));have HT:Hid (_/\_):=⟨hT1,IR⟩
   have hTs:T.size<=4500000:=by rw[<-Int.ofNat_le];show (T.size:Int)<=4500000;omega
   have hwr:=fun u=>QD T lv u hlv hTs;clear hT1 IR;refine hK _ _ (fun _=>Mv) ?_;clear hK K;refine ag 6 fun K hK=>?_;go_simp;refine (hwr _).mono ?_;rintro e v3 ⟨P,Wb,ks,rfl,p1,p2,p3,p4,BX⟩;have zv3:=BX.size;have Mw:v3.heap[w.heap.size]?=some (.cells (aD W H kd dp ps (.slice pa aq.length pc) (.slice (some ⟨G,0,none⟩) S.length cap)) 24 (0,0))/\v3.heap[w.heap.size+1]?=some (.cells #[.int .i64 (lv:Nat),.int .i64 (fl:Nat),.int .i64 (ck:Nat)] 29 (0,0)):=⟨(BX.block _ (by omega)).trans Mv.1,(BX.block _ (by omega)).trans Mv.2⟩
   have Yo:Below w.heap.size w v3:=Ym.trans (BX.mono (by omega));have Yn:Hid (jO T (dH P T) lv):=⟨P,Wb,ks,rfl,p1,p2,p3,p4⟩
   clear p1 p2 p3 p4 hwr;generalize dH P T=X at *;refine hK _ _ (fun _=>Mw) ?_;clear hK K;have xf:bG v3 (w.heap.size+2) (.string ⟨#[]⟩) 9:=by rw[<-zv0];exact (BX.block _ (by omega)).trans ((Ef.block _ (by omega)).trans Ut)
   refine ag 8 fun K hK=>?_;obtain⟨c0,c1,c2⟩:=one_cell xf;go_simp;have SF:(v3.setCell ⟨w.heap.size+2,0,none⟩ (.string X)).heap[w.heap.size]?=some (.cells (aD W H kd dp ps (.slice pa aq.length pc) (.slice (some ⟨G,0,none⟩) S.length cap)) 24 (0,0))/\(v3.setCell ⟨w.heap.size+2,0,none⟩ (.string X)).heap[w.heap.size+1]?=some (.cells #[.int .i64 (lv:Nat),.int .i64 (fl:Nat),.int .i64 (ck:Nat)] 29 (0,0)):=⟨(aG _ _ _ _ _ (by omega)).trans Mw.1,(aG _ _ _ _ _ (by omega)).trans Mw.2⟩
   have KF:Below w.heap.size w (v3.setCell ⟨w.heap.size+2,0,none⟩ (.string X)):=Yo.setCell (p:=⟨w.heap.size+2,0,none⟩) (by show w.heap.size<=w.heap.size+2;omega) _;have XF:bG (v3.setCell ⟨w.heap.size+2,0,none⟩ (.string X)) (w.heap.size+2) (.string X) 9:=one_set xf _;refine hK _ _ (fun _=>SF) ?_;clear hK K;refine am ?_;have hF:Below w.heap.size w (v3.setCell ⟨w.heap.size+2,0,none⟩ (.string X))/\(v3.setCell ⟨w.heap.size+2,0,none⟩ (.string X)).heap[w.heap.size]?=some (.cells (aD W H kd dp ps (.slice pa aq.length pc) (.slice (some ⟨G,0,none⟩) S.length cap)) 24 (0,0))/\(v3.setCell ⟨w.heap.size+2,0,none⟩ (.string X)).heap[w.heap.size+1]?=some (.cells #[.int .i64 (lv:Nat),.int .i64 (fl:Nat),.int .i64 (ck:Nat)] 29 (0,0))/\bG (v3.setCell ⟨w.heap.size+2,0,none⟩ (.string X)) (w.heap.size+2) (.string X) 9/\w.heap.size+2<=(w.heap.size+2)/\(T.size:Int)=Pm.raw W H ((n*dp:Nat):Int) ps/\Pm.Written ⟨W,H,n,dp⟩ S (af T) fl ps/\jO T X lv:=⟨KF,SF.1,SF.2,XF,by omega,HT.out.1,HT.out.2,Yn.out⟩
   clear KF SF XF;revert hF;generalize v3.setCell _ _=u;obtain⟨A,hA⟩:∃A,A=w.heap.size+2:=⟨_,rfl⟩
   rw[<-hA];intro hF;obtain⟨f1,f2,f3,f4,f5,f6,f7,f8⟩:=hF;have r:=rest A T X u ⟨f1,f2,f3,f4,by omega,f6,f7,f8⟩;exact r
 ·intro a T X u hu;obtain⟨ku,m1,m2,m3,m4,t1,t2,t3⟩:=hu;obtain⟨jI,hS,hpf,hpa,hpl,k0,q0,q1⟩:=HH.out;have hTs:T.size<=4500000:=by rw[<-Int.ofNat_le];show (T.size:Int)<=4500000;omega
  have hXs:=t3.size hTs;have zz:=ku.size
  have hpb:kd=3->Pm.eu aq 256=true:=fun e=>by
   have h1:=hpf.LT;unfold Pm.pQ at h1;rw[aaj e]at h1;simp only[aaS]at h1;exact h1.2
  have hcf:=BG w.heap.size a (w.heap.size+1) ⟨W,H,kd,dp,ps⟩ aq pa pc (.slice (some ⟨G,0,none⟩) S.length cap) X lv fl ck u m1 m3 m2 hpf.hd (hpa.below ku hpl) (fun x e e2=>by have:=hpl x e e2;omega) hpb (by omega) hXs.1 hck;have HF:Hid (_/\_/\_/\_):=⟨ku,t1,t2,t3⟩
  clear jI hS hpf hpa hpl k0 q0 q1 ku m1 m2 m3 t1 t2 t3 HH HB hpb;go_wp2_with fail;refine hcf.mono ?_;rintro e u1 ⟨ds,b,rfl,h1,h2,h3⟩;have HG:Hid (_/\_/\_):=⟨h1,h2,HF.out.1.trans (h3.mono zz)⟩
  clear h1 h2 h3 hcf;go_wp2
  go_ret
  exact⟨T,X,ds,b,rfl,HF.out.2.1,HF.out.2.2.1,HF.out.2.2.2,HG.out.1,HG.out.2.1,HG.out.2.2⟩
def dW (lv fl ck:Int):Bool:=(decide (0<=lv)&&decide (lv<=2))&&((decide (0<=fl)&&decide (fl<=5))&&(decide (1<=ck)&&decide (ck<=1048576)))
theorem IE (n:Int)(w:World):Calls Tryz.prog 44 #[.int .i64 n] w fun e w'=>e=.returned (.bool (decide (0<=n)&&decide (n<=2)))/\w'=w:=by
 go_enter Tryz.func44,Tryz.ntmps44
 go_wp2
 all_goals go_ret
 all_goals refine⟨aL ?_,rfl⟩
 all_goals (rw[acA];simp;try omega)
theorem Eg (n:Int)(w:World):Calls Tryz.prog 45 #[.int .i64 n] w fun e w'=>e=.returned (.bool (decide (0<=n)&&decide (n<=5)))/\w'=w:=by
 go_enter Tryz.func45,Tryz.ntmps45
 go_wp2
 all_goals go_ret
 all_goals refine⟨aL ?_,rfl⟩
 all_goals (rw[acA];simp;try omega)
theorem zn (lv fl ck:Int)(w:World):Calls Tryz.prog 28 #[.agg #[.int .i64 lv,.int .i64 fl,.int .i64 ck]] w fun e w'=>e=.returned (.bool (dW lv fl ck))/\Below w.heap.size w w':=by
 have h1:=fun u=>IE lv u;have h2:=fun u=>Eg fl u;have HS:Hid (dW lv fl ck=((decide (0<=lv)&&decide (lv<=2))&&((decide (0<=fl)&&decide (fl<=5))&&(decide (1<=ck)&&decide (ck<=1048576))))):=rfl;generalize (decide (0<=lv)&&decide (lv<=2))=a at *;generalize (decide (0<=fl)&&decide (fl<=5))=b at *;have kb:=ae w (.cells #[.int .i64 lv,.int .i64 fl,.int .i64 ck] 29);have HK:Hid (_):=kb;clear kb;cases a
 ·go_enter Tryz.func28,Tryz.ntmps28
  go_wp2_with fail;refine (h1 _).mono ?_;rintro e w' ⟨rfl,rfl⟩;go_wp2
  go_ret
  exact⟨aL (by rw[HS.out];rfl),HK.out⟩
 ·cases b
  ·go_enter Tryz.func28,Tryz.ntmps28
   go_wp2_with fail;refine (h1 _).mono ?_;rintro e w' ⟨rfl,rfl⟩;go_wp2_with fail;refine (h2 _).mono ?_;rintro e w' ⟨rfl,rfl⟩;go_wp2
   go_ret
   exact⟨aL (by rw[HS.out];rfl),HK.out⟩
  ·by_cases hc:1<=ck
   all_goals
    go_enter Tryz.func28,Tryz.ntmps28
    go_wp2_with fail;refine (h1 _).mono ?_;rintro e w' ⟨rfl,rfl⟩;go_wp2_with fail;refine (h2 _).mono ?_;rintro e w' ⟨rfl,rfl⟩;go_wp2
    go_ret
    exact⟨aL (by rw[HS.out,acA];first|(simp[hc];done)|(simp;omega)),HK.out⟩
def TU (h:Hd)(aq S:List Int)(lv fl ck:Int)(w:World)(e:Ending)(w':World):Prop :=
 ((Pm.check h.wd h.ht h.kd h.dp h.ps aq S≠0/\e=.returned (.tuple #[.string ⟨#[]⟩,.int .i64 (Pm.check h.wd h.ht h.kd h.dp h.ps aq S)])) \/
  (du h aq S/\dW lv fl ck=false/\e=.returned (.tuple #[.string ⟨#[]⟩,.int .i64 5])) \/
  (du h aq S/\dW lv fl ck=true/\∃(T X:ByteArray) (ds:List ByteArray) (b:ByteArray),e=.returned (.tuple #[.string b,.int .i64 0])/\(T.size:Int)=bY h/\Pm.Written (gK h) S (af T) fl.toNat h.ps/\jO T X lv.toNat/\Ir X X.size ck.toNat ds/\b.data.toList=iQ h aq ds))/\Below w.heap.size w w'
theorem Pq (h:Hd)(lv fl ck:Int)(aq S:List Int)(pa:Option Addr)(pc G cap:Nat)(w:World)(tt:TypeId)(fr:Nat×Nat)(hl:Hl w pa aq (some ⟨G,0,none⟩) S tt fr)(hG:G<w.heap.size)(hcap:S.length<=cap): Calls Tryz.prog 18 #[.agg (bq h (.slice pa aq.length pc) (.slice (some ⟨G,0,none⟩) S.length cap)),.agg #[.int .i64 lv,.int .i64 fl,.int .i64 ck]] w fun e w'=>TU h aq S lv fl ck w e w':=by
 obtain⟨k0,q0,q1⟩:=bH w (.cells (bq h (.slice pa aq.length pc) (.slice (some ⟨G,0,none⟩) S.length cap)) 24) (.cells #[.int .i64 lv,.int .i64 fl,.int .i64 ck] 29);have hck:=Ov h.wd h.ht h.kd h.dp h.ps pa pc aq (some ⟨G,0,none⟩) cap S _ tt fr (hl.later k0);have hsf:=fun u=>zn lv fl ck u;have z2:((w.alloc (.cells (bq h (.slice pa aq.length pc) (.slice (some ⟨G,0,none⟩) S.length cap)) 24)).alloc (.cells #[.int .i64 lv,.int .i64 fl,.int .i64 ck] 29)).heap.size=w.heap.size+2:=by simp
 obtain⟨x0,x1,x2,x3,x4,x5,x6⟩:=aP q0;have HH:Hid (_/\_/\_/\_):=⟨hl,k0,q0,q1⟩
 have HC:Hid (_):=(Bn h aq S)
 clear hl k0 q0 q1;obtain⟨c,hc⟩:∃c,c=Pm.check h.wd h.ht h.kd h.dp h.ps aq S:=⟨_,rfl⟩
 have HCC:Hid (c=Pm.check h.wd h.ht h.kd h.dp h.ps aq S):=hc;rw[<-hc]at hck;clear hc;by_cases h0:c=0
 ·subst h0;have hpf:du h aq S:=HC.out.1 HCC.out.symm;have US:Hid (_):=hpf;clear hpf;obtain⟨st,hst⟩:∃st,st=dW lv fl ck:=⟨_,rfl⟩
  rw[<-hst]at hsf;have HST:Hid (st=dW lv fl ck):=hst;clear hst;cases st
  ·go_enter Tryz.func18,Tryz.ntmps18
   go_wp2_with fail;refine hck.mono ?_;rintro e w1 ⟨rfl,b1⟩;have q1:=(b1.block (w.heap.size+1) (by omega)).trans HH.out.2.2.2;obtain⟨y0,y1,y2⟩:=n9 q1;have HB:Hid (_):=HH.out.2.1.trans (b1.mono (by omega));have zz:=b1.size;clear q1 b1 hck;go_wp2_with fail;refine (hsf _).mono ?_;rintro e w2 ⟨rfl,b2⟩;have HB2:Hid (_):=HB.out.trans (b2.mono (by omega));clear b2 hsf;go_wp2;refine aaF (v:=.tuple #[.string ⟨#[]⟩,.int .i64 5]) (by simp[results,Tryz.results18,go_sem]) rfl ⟨.inr (.inl ⟨US.out,HST.out.symm,rfl⟩),HB2.out⟩
  ·obtain⟨W,hW⟩:∃W:Nat,h.wd=(W:Int):=⟨h.wd.toNat,by have:=US.out.hd.wd;omega⟩
   obtain⟨H,hH⟩:∃H:Nat,h.ht=(H:Int):=⟨h.ht.toNat,by have:=US.out.hd.ht;omega⟩
   have hdd:=Pm.cF _ _ US.out.hd.ch;obtain⟨dp,hdp⟩:∃dp:Nat,h.dp=(dp:Int):=⟨h.dp.toNat,by omega⟩
   obtain⟨wd0,ht0,kd,dp0,ps⟩:=h;simp only at hW hH hdp;subst hW hH hdp;obtain⟨n,hn⟩:∃n:Nat,Pm.chan kd dp=(n:Int):=⟨(Pm.chan kd dp).toNat,by have:=(Pm.cS kd dp).1;omega⟩
   have hsb:=HST.out.symm;simp only[dW,aaS,aaW]at hsb;obtain⟨⟨a1,a2⟩,⟨a3,a4⟩,a5,a6⟩:=hsb;obtain⟨lvn,rfl⟩:∃x:Nat,lv=(x:Int):=⟨lv.toNat,by omega⟩
   obtain⟨fln,rfl⟩:∃x:Nat,fl=(x:Int):=⟨fl.toNat,by omega⟩
   obtain⟨ckn,rfl⟩:∃x:Nat,ck=(x:Int):=⟨ck.toNat,by omega⟩
   have hwr:=fun u (hu:Below w.heap.size w u)=>TT W H n dp lvn fln ckn kd ps aq S pa pc G cap u tt fr (HH.out.1.later hu).tab ⟨fun j hj=>by
     obtain⟨b,off,e1,e2⟩:=(HH.out.1.later hu).hs j hj;have e3:(⟨G,0,none⟩:Addr)=⟨b,off,none⟩:=aaH e1;have e4:G=b:=abV Addr.block e3;have e5:0=off:=abV Addr.off e3;subst e4 e5;rw[aaO]at e2;rw[e2];unfold Pm.ai;rw[aab,aan hj]
     rfl,aaQ hG hu.size⟩ US.out hcap hn (HH.out.1.later hu).hp (HH.out.1.later hu).hpa (by omega) (by omega) (by omega)
   have Xa:Hid (_):=hwr
   have HRW:Hid (Pm.raw W H ((n*dp:Nat):Int) ps=bY ⟨W,H,kd,dp,ps⟩/\gK ⟨W,H,kd,dp,ps⟩=⟨W,H,n,dp⟩):=by
    have eb:Pm.chan kd dp*(dp:Int)=((n*dp:Nat):Int):=by rw[hn];push_cast;rfl
    refine⟨by unfold bY;dsimp only;rw[eb],?_⟩;unfold gK;dsimp only;rw[hn];simp
   clear hwr
   go_enter Tryz.func18,Tryz.ntmps18
   go_wp2_with fail;refine hck.mono ?_;rintro e w1 ⟨rfl,b1⟩;have q0:=(b1.block w.heap.size (by omega)).trans HH.out.2.2.1;have q1:=(b1.block (w.heap.size+1) (by omega)).trans HH.out.2.2.2;obtain⟨y0,y1,y2⟩:=n9 q1;have HB:Hid (_/\_/\_):=⟨HH.out.2.1.trans (b1.mono (by omega)),q0,q1⟩
   have zz:=b1.size;clear q0 q1 b1 hck;go_wp2_with fail;refine (hsf _).mono ?_;rintro e w2 ⟨rfl,b2⟩;have q0:=(b2.block w.heap.size (by omega)).trans HB.out.2.1;have q1:=(b2.block (w.heap.size+1) (by omega)).trans HB.out.2.2;obtain⟨y0,y1,y2⟩:=n9 q1;obtain⟨x0,x1,x2,x3,x4,x5,x6⟩:=aP q0;have k2:=HB.out.1.trans (b2.mono (by omega));have hw:=Xa.out w2 k2;have GT:Hid (_):=k2;clear q0 q1 b2 hsf k2;go_wp2_with fail;refine hw.mono ?_;rintro e w3 ⟨T,X,ds,b,rfl,t1,t2,t3,t4,t5,b3⟩;have HF:Hid (_/\_/\_/\_/\_/\_):=⟨t1,t2,t3,t4,t5,GT.out.trans (b3.mono GT.out.size)⟩
   clear t1 t2 t3 t4 t5 b3 hw;go_wp2;refine aaF (v:=.tuple #[.string b,.int .i64 0]) (by simp[results,Tryz.results18,go_sem]) rfl ⟨.inr (.inr ⟨US.out,HST.out.symm,T,X,ds,b,rfl,HF.out.1.trans HRW.out.1,?_,HF.out.2.2.1,HF.out.2.2.2.1,HF.out.2.2.2.2.1⟩),HF.out.2.2.2.2.2⟩;rw[HRW.out.2];exact HF.out.2.1
 ·have h0':(c==0)=false:=aaP.2 h0;have HN0:Hid (c≠0):=h0;clear h0
  go_enter Tryz.func18,Tryz.ntmps18
  go_wp2_with fail;refine hck.mono ?_;rintro e w1 ⟨rfl,b1⟩;have HB:Hid (_):=HH.out.2.1.trans (b1.mono (by omega));clear b1 hck;go_wp2;refine aaF (v:=.tuple #[.string ⟨#[]⟩,.int .i64 c]) (by simp[results,Tryz.results18,go_sem]) rfl ⟨.inl ⟨by rw[<-HCC.out];exact HN0.out,by rw[<-HCC.out]⟩,HB.out⟩
end Go.Proofs.YtmfijackgekioabGreatDoor
