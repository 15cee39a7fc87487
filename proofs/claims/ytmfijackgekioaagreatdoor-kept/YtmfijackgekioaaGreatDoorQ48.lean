import Derived.Test.YtmfijackgekioaaGreatDoorQ46
import Derived.Test.YtmfijackgekioaaGreatDoorQ47
set_option maxHeartbeats 1000000
set_option maxRecDepth 100000
namespace Go.Proofs.YtmfijackgekioaaGreatDoor
open Go.RowKit Go.Maps
theorem H5 (args:Array Value)(w:World):(callFunc 64 args).run Tryz.prog w=.ok (.enter 64 args) w:=by kernel_rfl
theorem mt.is {w:World}{B b:Nat}{l:List UInt8}{v:Value}(h:mt w B b l v):Lib.IsBuilder 134 5 B b (Lib.byteCells l) w:=by
 obtain⟨p,hb,hp⟩:=h.blk;have ho:w.ownsRow B 5 1 v (Lib.byteCells l).length (Lib.byteCells l):=by rw[Lib.byteCells_length];exact h.own
 rcases hp with rfl|rfl
 ·exact .inl ⟨h.low,v,hb,ho,h.ne hb (by decide)⟩
 ·exact .inr ⟨h.low,v,hb,ho,h.ne hb (by decide)⟩
theorem Bc (M bW bS:Nat)(h:Hd)(aD:List Int)(pa:Option Addr)(pc:Nat)(sv:Value)(X:ByteArray)(lv fl:Int)(ck:Nat)(w:World)(hm:w.heap[M]?=some (.cells (aW h (.slice pa aD.length pc) sv) 30 (0,0)))(hW:bu w bW (.string X) 9)(hS:w.heap[bS]?=some (.cells #[.int .i64 lv,.int .i64 fl,.int .i64 ck] 32 (0,0)))(hf:lV h)(hpa:Ints w pa aD)(hpl:∀a,pa=some a->aD≠[]->a.block<w.heap.size)(hpb:h.kd=3->Pm.ee aD 256=true)(hpn:aD.length<=1000000)(hX:X.size<=10000000)(hck:1<=ck/\ck<=1048576): Calls Tryz.prog 63 #[.func (.func 64) #[] #[.pointer (some ⟨M,0,none⟩),.pointer (some ⟨bW,0,none⟩),.pointer (some ⟨bS,0,none⟩)]] w fun e w'=>∃ds b,e=.returned (.string b)/\Hy X X.size ck ds/\b.data.toList=rJ h aD ds/\Below w.heap.size w w':=by
 have hcall:=H5;have k0:=ae w (.cells #[.pointer none,.slice none 0 0] 134);have q0:=ah w (.cells #[.pointer none,.slice none 0 0] 134);have z0:(w.alloc (.cells #[.pointer none,.slice none 0 0] 134)).heap.size=w.heap.size+1:=by simp
 have lM:=lt_of_block hm;have lW:=lt_of_block hW;have lS:=lt_of_block hS;have b0:mt (w.alloc (.cells #[.pointer none,.slice none 0 0] 134)) w.heap.size w.heap.size [] (.slice none 0 0):=⟨Nat.le_refl _,⟨_,q0,.inl rfl⟩,⟨rfl,.inl ⟨rfl,rfl⟩⟩⟩
 have hws:=kt w.heap.size w.heap.size [] ⟨#[137,80,78,71,13,10,26,10]⟩ (.slice none 0 0) _ b0 (by omega) (by show 0+8<=_;omega);have HH:Hid (_/\_/\_/\_/\_/\_):=⟨hm,hW,hS,hpa,k0,b0⟩
 have HP:Hid (_/\_/\_):=⟨hf,hpl,hpb⟩
 clear hm hW hS hpa k0 q0 b0 hf hpl hpb
 go_enter Tryz.func63,Tryz.ntmps63
 go_wp2_with fail;refine hws.mono ?_;rintro e w1 ⟨rfl,v1,h1,kF,bl1⟩;obtain⟨hm,hW,hS,hpa,k0,b0⟩:=HH.out;obtain⟨hf,hpl,hpb⟩:=HP.out;have t1:ky w.heap.size w.heap.size w w1:=(ky.aG k0 (Nat.le_refl _)).trans (ky.jo b0 kF bl1);have zz:=t1.size;have Gw:=Xz w.heap.size w.heap.size M bW bS _ h aD pa pc sv v1 X lv fl ck w1 h1 (t1.typ _ _ _ _ hm (by decide) (by omega)) (t1.typ _ _ _ _ hW (by decide) (by omega)) (t1.typ _ _ _ _ hS (by decide) (by omega)) ⟨by omega,by omega,by omega⟩ (by omega) hf (hpa.below t1.below hpl) hpl hpb hpn hX hck (by show 0+8<=_;omega);have HT:Hid (_):=t1.below;clear hm hW hS hpa k0 b0 hf hpl hpb h1 kF bl1 t1 hws;go_wp2_with fail;refine Gw.mono ?_;rintro e w2 ⟨rfl,ds,v2,hpc,h2,t2⟩;have zz2:=t2.size;have hst:=Tryz.Builder_String_any w.heap.size w.heap.size _ w2 h2.is (by omega);have HF:Hid (_/\_):=⟨hpc,HT.out.trans t2.below⟩
 clear hpc h2 t2 Gw;go_wp2_with fail;refine hst.mono ?_;rintro e w3 ⟨rfl,b3⟩;have HG:Hid (_):=HF.out.2.trans b3;clear b3 hst;go_wp2
 go_ret
 exact⟨ds,_,rfl,HF.out.1,rfl,HG.out⟩
theorem Tm {P F:Nat->ByteArray->ByteArray->World->Prop}{G:Prop}(h1:(∀a T X u,F a T X u->P a T X u)->G)(h2:∀a T X u,F a T X u->P a T X u):G:=h1 h2
def jG (T X:ByteArray)(lv:Nat):Prop:=∃(P:ByteArray) (Wb ks:List Int),X=dr P T/\Rf.Holds P.data.toList Wb/\Rf.Whole T.data.toList T.data.toList.length Wb ks/\(Wb.length+7)/8<=T.size+5+5*(T.size/65535)/\(∀x∈ks,0<=x/\x<=(lv:Int))
theorem jG.size {T X:ByteArray}{lv:Nat}(h:jG T X lv)(hT:T.size<=4500000):X.size<=10000000/\0<X.size:=by
 obtain⟨P,Wb,ks,rfl,h1,_,h3,_⟩:=h;have e:=cH (dr P T);rw[gV]at e;simp only[List.length_append,List.length_cons,List.length_nil,cH]at e;have h4:(four (Mx.eg T.data.toList)).length=4:=rfl;have XE:=h1.1;rw[cH]at XE;omega
theorem Tn (W H n dp lv fl ck:Nat)(kd:Int)(ps:Bool)(aD S:List Int)(pa:Option Addr)(pc G cap:Nat)(w:World)(tt:TypeId)(fr:Nat×Nat)(jl:w.heap[0]?=some (.cells cA tt fr))(hS:gT w G S)(hpf:dD ⟨W,H,kd,dp,ps⟩ aD S)(hcap:S.length<=cap)(hch:Pm.chan kd dp=(n:Int))(hpa:Ints w pa aD)(hpl:∀a,pa=some a->aD≠[]->a.block<w.heap.size)(hlv:lv<=2)(hfl:fl<=5)(hck:1<=ck/\ck<=1048576): Calls Tryz.prog 28 #[.agg (aE W H kd dp ps (.slice pa aD.length pc) (.slice (some ⟨G,0,none⟩) S.length cap)),.agg #[.int .i64 (lv:Nat),.int .i64 (fl:Nat),.int .i64 (ck:Nat)]] w fun e w'=>∃(T X:ByteArray) (ds:List ByteArray) (b:ByteArray),e=.returned (.string b) /\ (T.size:Int)=Pm.raw W H ((n*dp:Nat):Int) ps/\Pm.Written ⟨W,H,n,dp⟩ S (ag T) fl ps/\jG T X lv/\Hy X X.size ck ds/\b.data.toList=rJ ⟨W,H,kd,dp,ps⟩ aD ds/\Below w.heap.size w w':=by
 have hfit:=hpf.fits;have hpn:=hpf.few;have hwd:=hpf.hd.wd;have hht:=hpf.hd.ht
 have hn:1<=n/\n<=4:=by
  have h1:=Pm.cE kd dp;have h2:=hpf.hd.ch;have h3:Pm.chan kd dp≠0:=h2;rw[hch]at h1 h3;omega
 have XJ:gG ⟨W,H,kd,dp,ps⟩=⟨W,H,n,dp⟩:=by
  unfold gG;dsimp only;rw[hch];simp
 rw[XJ]at hfit;have eb:Pm.chan kd dp*(dp:Int)=((n*dp:Nat):Int):=by rw[hch];push_cast;rfl
 have hraw:Pm.raw W H ((n*dp:Nat):Int) ps<=4194304:=by
  have:=hpf.raw;unfold ct at this;dsimp only at this;rw[eb]at this;exact this
 obtain⟨k0,q0,q1⟩:=bJ w (.cells (aE W H kd dp ps (.slice pa aD.length pc) (.slice (some ⟨G,0,none⟩) S.length cap)) 30) (.cells #[.int .i64 (lv:Nat),.int .i64 (fl:Nat),.int .i64 (ck:Nat)] 32);have hby:=fun u (hu:Below w.heap.size w u)=>SR W H n dp fl kd ps (.slice pa aD.length pc) G S.length cap S u tt fr ((hu.block _ (lt_of_block jl)).trans jl) (hS.below hu) hfit rfl hcap (by omega) hfl hch hn (by have:=hwd.1;have:=hwd.2;dsimp only at *;omega) (by have:=hht.1;have:=hht.2;dsimp only at *;omega);have HH:Hid (_/\_/\_/\_/\_/\_/\_/\_):=⟨jl,hS,hpf,hpa,hpl,k0,q0,q1⟩
 have HB:Hid (_):=hby;clear jl hS hpf hpa hpl k0 q0 q1 hby hfit XJ eb
 go_enter Tryz.func28,Tryz.ntmps28
 go_wp2_with fail;apply Tm (F:=fun a T X u=>Below w.heap.size w u/\u.heap[w.heap.size]?=some (.cells (aE W H kd dp ps (.slice pa aD.length pc) (.slice (some ⟨G,0,none⟩) S.length cap)) 30 (0,0))/\u.heap[w.heap.size+1]?=some (.cells #[.int .i64 (lv:Nat),.int .i64 (fl:Nat),.int .i64 (ck:Nat)] 32 (0,0))/\bu u a (.string X) 9/\w.heap.size+2<=a/\(T.size:Int)=Pm.raw W H ((n*dp:Nat):Int) ps/\Pm.Written ⟨W,H,n,dp⟩ S (ag T) fl ps/\jG T X lv)
 ·intro rest;have XK:((w.alloc (.cells (aE W H kd dp ps (.slice pa aD.length pc) (.slice (some ⟨G,0,none⟩) S.length cap)) 30)).alloc (.cells #[.int .i64 (lv:Nat),.int .i64 (fl:Nat),.int .i64 (ck:Nat)] 32)).drew.heap[w.heap.size]?=some (.cells (aE W H kd dp ps (.slice pa aD.length pc) (.slice (some ⟨G,0,none⟩) S.length cap)) 30 (0,0))/\((w.alloc (.cells (aE W H kd dp ps (.slice pa aD.length pc) (.slice (some ⟨G,0,none⟩) S.length cap)) 30)).alloc (.cells #[.int .i64 (lv:Nat),.int .i64 (fl:Nat),.int .i64 (ck:Nat)] 32)).drew.heap[w.heap.size+1]?=some (.cells #[.int .i64 (lv:Nat),.int .i64 (fl:Nat),.int .i64 (ck:Nat)] 32 (0,0)):=⟨HH.out.2.2.2.2.2.2.1,HH.out.2.2.2.2.2.2.2⟩
  have Kv0:Below w.heap.size w ((w.alloc (.cells (aE W H kd dp ps (.slice pa aD.length pc) (.slice (some ⟨G,0,none⟩) S.length cap)) 30)).alloc (.cells #[.int .i64 (lv:Nat),.int .i64 (fl:Nat),.int .i64 (ck:Nat)] 32)).drew:=HH.out.2.2.2.2.2.1.drew;have zv0:((w.alloc (.cells (aE W H kd dp ps (.slice pa aD.length pc) (.slice (some ⟨G,0,none⟩) S.length cap)) 30)).alloc (.cells #[.int .i64 (lv:Nat),.int .i64 (fl:Nat),.int .i64 (ck:Nat)] 32)).drew.heap.size=w.heap.size+2:=by simp
  refine ax (by kernel_rfl) (fun u=>u.heap[w.heap.size]?=some (.cells (aE W H kd dp ps (.slice pa aD.length pc) (.slice (some ⟨G,0,none⟩) S.length cap)) 30 (0,0))/\u.heap[w.heap.size+1]?=some (.cells #[.int .i64 (lv:Nat),.int .i64 (fl:Nat),.int .i64 (ck:Nat)] 32 (0,0))) 99 ?_;generalize World.drew _=v0 at *;refine ap [0,1,2,4,5] ?_
  iterate 5 (refine ay (v:=?_) (T:=?_) ?ht rfl rfl (by kernel_rfl) (fun _ _ _ h=>h) ?hy XK ?_;(case hy=>intro w hSw;(obtain ⟨s1, s2⟩ := hSw; have vn := aJ s1; have YC := pW s2); go_simp;try with_reducible rfl);case ht=>go_simp;try with_reducible rfl)
  refine ai ?_;refine fh (i:=3) (j:=7) (by kernel_rfl) rfl rfl (fun K hK=>?_) (fun K hK=>?_)
  ·go_simp;refine (HB.out v0 Kv0).mono ?_;rintro e v1 ⟨T,rfl,hT1,Ig,OI⟩;have zv1:=OI.size;have OJ:v1.heap[w.heap.size]?=some (.cells (aE W H kd dp ps (.slice pa aD.length pc) (.slice (some ⟨G,0,none⟩) S.length cap)) 30 (0,0))/\v1.heap[w.heap.size+1]?=some (.cells #[.int .i64 (lv:Nat),.int .i64 (fl:Nat),.int .i64 (ck:Nat)] 32 (0,0)):=⟨(OI.block _ (by omega)).trans XK.1,(OI.block _ (by omega)).trans XK.2⟩
   have XL:Below w.heap.size w v1:=Kv0.trans (OI.mono (by omega));have HT:Hid (_/\_):=⟨hT1,Ig⟩
   have hTs:T.size<=4500000:=by rw[<-Int.ofNat_le];show (T.size:Int)<=4500000;omega
   have hwr:=fun u=>Qh T lv u hlv hTs;clear hT1 Ig;refine hK _ _ (fun _=>OJ) ?_;clear hK K;refine fh (i:=6) (j:=7) (by kernel_rfl) rfl rfl (fun K hK=>?_) (fun K hK=>?_)
   ·go_simp;refine (hwr _).mono ?_;rintro e v2 ⟨P,Wb,ks,rfl,p1,p2,p3,p4,DE⟩;have zv2:=DE.size;have LY:v2.heap[w.heap.size]?=some (.cells (aE W H kd dp ps (.slice pa aD.length pc) (.slice (some ⟨G,0,none⟩) S.length cap)) 30 (0,0))/\v2.heap[w.heap.size+1]?=some (.cells #[.int .i64 (lv:Nat),.int .i64 (fl:Nat),.int .i64 (ck:Nat)] 32 (0,0)):=⟨(DE.block _ (by omega)).trans OJ.1,(DE.block _ (by omega)).trans OJ.2⟩
    have XM:Below w.heap.size w v2:=XL.trans (DE.mono (by omega));have XN:Hid (jG T (dr P T) lv):=⟨P,Wb,ks,rfl,p1,p2,p3,p4⟩
    clear p1 p2 p3 p4 hwr;generalize dr P T=X at *;refine hK _ _ (fun _=>LY) ?_;clear hK K;refine af (i:=7) (by kernel_rfl) rfl (fun K hK=>?_);go_simp;have Br:=ae v2 (.cells #[.string ⟨#[]⟩] 9);have Im:bu (v2.alloc (.cells #[.string ⟨#[]⟩] 9)) v2.heap.size (.string ⟨#[]⟩) 9:=ah v2 _;have zv3:(v2.alloc (.cells #[.string ⟨#[]⟩] 9)).heap.size=v2.heap.size+1:=by simp
    obtain⟨v3,ev3⟩:∃v,v=v2.alloc (.cells #[.string ⟨#[]⟩] 9):=⟨_,rfl⟩
    rw[<-ev3]at Br Im zv3 ⊢;have LZ:v3.heap[w.heap.size]?=some (.cells (aE W H kd dp ps (.slice pa aD.length pc) (.slice (some ⟨G,0,none⟩) S.length cap)) 30 (0,0))/\v3.heap[w.heap.size+1]?=some (.cells #[.int .i64 (lv:Nat),.int .i64 (fl:Nat),.int .i64 (ck:Nat)] 32 (0,0)):=⟨(Br.block _ (by omega)).trans LY.1,(Br.block _ (by omega)).trans LY.2⟩
    have XO:Below w.heap.size w v3:=XM.trans (Br.mono (by omega));clear ev3;refine hK _ _ (fun _=>LZ) ?_;clear hK K;have xf:=Im;refine af (i:=8) (by kernel_rfl) rfl (fun K hK=>?_);obtain⟨c0,c1,c2⟩:=one_cell xf;go_simp;have SF:(v3.setCell ⟨v2.heap.size,0,none⟩ (.string X)).heap[w.heap.size]?=some (.cells (aE W H kd dp ps (.slice pa aD.length pc) (.slice (some ⟨G,0,none⟩) S.length cap)) 30 (0,0))/\(v3.setCell ⟨v2.heap.size,0,none⟩ (.string X)).heap[w.heap.size+1]?=some (.cells #[.int .i64 (lv:Nat),.int .i64 (fl:Nat),.int .i64 (ck:Nat)] 32 (0,0)):=⟨(aF _ _ _ _ _ (by omega)).trans LZ.1,(aF _ _ _ _ _ (by omega)).trans LZ.2⟩
    have KF:Below w.heap.size w (v3.setCell ⟨v2.heap.size,0,none⟩ (.string X)):=XO.setCell (p:=⟨v2.heap.size,0,none⟩) (by show w.heap.size<=v2.heap.size;omega) _;have XF:bu (v3.setCell ⟨v2.heap.size,0,none⟩ (.string X)) v2.heap.size (.string X) 9:=one_set xf _;refine hK _ _ (fun _=>SF) ?_;clear hK K;refine ak (by kernel_rfl) ?_ _;have hF:Below w.heap.size w (v3.setCell ⟨v2.heap.size,0,none⟩ (.string X))/\(v3.setCell ⟨v2.heap.size,0,none⟩ (.string X)).heap[w.heap.size]?=some (.cells (aE W H kd dp ps (.slice pa aD.length pc) (.slice (some ⟨G,0,none⟩) S.length cap)) 30 (0,0))/\(v3.setCell ⟨v2.heap.size,0,none⟩ (.string X)).heap[w.heap.size+1]?=some (.cells #[.int .i64 (lv:Nat),.int .i64 (fl:Nat),.int .i64 (ck:Nat)] 32 (0,0))/\bu (v3.setCell ⟨v2.heap.size,0,none⟩ (.string X)) v2.heap.size (.string X) 9/\w.heap.size+2<=v2.heap.size/\(T.size:Int)=Pm.raw W H ((n*dp:Nat):Int) ps/\Pm.Written ⟨W,H,n,dp⟩ S (ag T) fl ps/\jG T X lv:=⟨KF,SF.1,SF.2,XF,by omega,HT.out.1,HT.out.2,XN.out⟩
    clear KF SF XF;revert hF;generalize v3.setCell _ _=u;generalize v2.heap.size=A;intro hF;have r:=rest A T X u hF;exact r
   ·go_simp;have DE:=ae v1 (.cells #[.string ⟨#[]⟩] 9);have NB:bu (v1.alloc (.cells #[.string ⟨#[]⟩] 9)) v1.heap.size (.string ⟨#[]⟩) 9:=ah v1 _;have zv2:(v1.alloc (.cells #[.string ⟨#[]⟩] 9)).heap.size=v1.heap.size+1:=by simp
    obtain⟨v2,ev2⟩:∃v,v=v1.alloc (.cells #[.string ⟨#[]⟩] 9):=⟨_,rfl⟩
    rw[<-ev2]at DE NB zv2 ⊢;have LY:v2.heap[w.heap.size]?=some (.cells (aE W H kd dp ps (.slice pa aD.length pc) (.slice (some ⟨G,0,none⟩) S.length cap)) 30 (0,0))/\v2.heap[w.heap.size+1]?=some (.cells #[.int .i64 (lv:Nat),.int .i64 (fl:Nat),.int .i64 (ck:Nat)] 32 (0,0)):=⟨(DE.block _ (by omega)).trans OJ.1,(DE.block _ (by omega)).trans OJ.2⟩
    have XM:Below w.heap.size w v2:=XL.trans (DE.mono (by omega));clear ev2;refine hK _ _ (fun _=>LY) ?_;clear hK K;refine af (i:=6) (by kernel_rfl) rfl (fun K hK=>?_);go_simp;refine (hwr _).mono ?_;rintro e v3 ⟨P,Wb,ks,rfl,p1,p2,p3,p4,Br⟩;have zv3:=Br.size;have LZ:v3.heap[w.heap.size]?=some (.cells (aE W H kd dp ps (.slice pa aD.length pc) (.slice (some ⟨G,0,none⟩) S.length cap)) 30 (0,0))/\v3.heap[w.heap.size+1]?=some (.cells #[.int .i64 (lv:Nat),.int .i64 (fl:Nat),.int .i64 (ck:Nat)] 32 (0,0)):=⟨(Br.block _ (by omega)).trans LY.1,(Br.block _ (by omega)).trans LY.2⟩
    have XO:Below w.heap.size w v3:=XM.trans (Br.mono (by omega));have XN:Hid (jG T (dr P T) lv):=⟨P,Wb,ks,rfl,p1,p2,p3,p4⟩
    clear p1 p2 p3 p4 hwr;generalize dr P T=X at *;refine hK _ _ (fun _=>LZ) ?_;clear hK K;have xf:bu v3 v1.heap.size (.string ⟨#[]⟩) 9:=(Br.block _ (by omega)).trans NB;refine af (i:=8) (by kernel_rfl) rfl (fun K hK=>?_);obtain⟨c0,c1,c2⟩:=one_cell xf;go_simp;have SF:(v3.setCell ⟨v1.heap.size,0,none⟩ (.string X)).heap[w.heap.size]?=some (.cells (aE W H kd dp ps (.slice pa aD.length pc) (.slice (some ⟨G,0,none⟩) S.length cap)) 30 (0,0))/\(v3.setCell ⟨v1.heap.size,0,none⟩ (.string X)).heap[w.heap.size+1]?=some (.cells #[.int .i64 (lv:Nat),.int .i64 (fl:Nat),.int .i64 (ck:Nat)] 32 (0,0)):=⟨(aF _ _ _ _ _ (by omega)).trans LZ.1,(aF _ _ _ _ _ (by omega)).trans LZ.2⟩
    have KF:Below w.heap.size w (v3.setCell ⟨v1.heap.size,0,none⟩ (.string X)):=XO.setCell (p:=⟨v1.heap.size,0,none⟩) (by show w.heap.size<=v1.heap.size;omega) _;have XF:bu (v3.setCell ⟨v1.heap.size,0,none⟩ (.string X)) v1.heap.size (.string X) 9:=one_set xf _;refine hK _ _ (fun _=>SF) ?_;clear hK K;refine ak (by kernel_rfl) ?_ _;have hF:Below w.heap.size w (v3.setCell ⟨v1.heap.size,0,none⟩ (.string X))/\(v3.setCell ⟨v1.heap.size,0,none⟩ (.string X)).heap[w.heap.size]?=some (.cells (aE W H kd dp ps (.slice pa aD.length pc) (.slice (some ⟨G,0,none⟩) S.length cap)) 30 (0,0))/\(v3.setCell ⟨v1.heap.size,0,none⟩ (.string X)).heap[w.heap.size+1]?=some (.cells #[.int .i64 (lv:Nat),.int .i64 (fl:Nat),.int .i64 (ck:Nat)] 32 (0,0))/\bu (v3.setCell ⟨v1.heap.size,0,none⟩ (.string X)) v1.heap.size (.string X) 9/\w.heap.size+2<=v1.heap.size/\(T.size:Int)=Pm.raw W H ((n*dp:Nat):Int) ps/\Pm.Written ⟨W,H,n,dp⟩ S (ag T) fl ps/\jG T X lv:=⟨KF,SF.1,SF.2,XF,by omega,HT.out.1,HT.out.2,XN.out⟩
    clear KF SF XF;revert hF;generalize v3.setCell _ _=u;generalize v1.heap.size=A;intro hF;have r:=rest A T X u hF;exact r
  ·go_simp;have OI:=ae v0 (.cells #[.string ⟨#[]⟩] 9);have TT:bu (v0.alloc (.cells #[.string ⟨#[]⟩] 9)) v0.heap.size (.string ⟨#[]⟩) 9:=ah v0 _;have zv1:(v0.alloc (.cells #[.string ⟨#[]⟩] 9)).heap.size=v0.heap.size+1:=by simp
   obtain⟨v1,ev1⟩:∃v,v=v0.alloc (.cells #[.string ⟨#[]⟩] 9):=⟨_,rfl⟩
   rw[<-ev1]at OI TT zv1 ⊢;have OJ:v1.heap[w.heap.size]?=some (.cells (aE W H kd dp ps (.slice pa aD.length pc) (.slice (some ⟨G,0,none⟩) S.length cap)) 30 (0,0))/\v1.heap[w.heap.size+1]?=some (.cells #[.int .i64 (lv:Nat),.int .i64 (fl:Nat),.int .i64 (ck:Nat)] 32 (0,0)):=⟨(OI.block _ (by omega)).trans XK.1,(OI.block _ (by omega)).trans XK.2⟩
   have XL:Below w.heap.size w v1:=Kv0.trans (OI.mono (by omega));clear ev1;refine hK _ _ (fun _=>OJ) ?_;clear hK K;refine af (i:=3) (by kernel_rfl) rfl (fun K hK=>?_);go_simp;refine (HB.out v1 XL).mono ?_;rintro e v2 ⟨T,rfl,hT1,Ig,DE⟩;have zv2:=DE.size;have LY:v2.heap[w.heap.size]?=some (.cells (aE W H kd dp ps (.slice pa aD.length pc) (.slice (some ⟨G,0,none⟩) S.length cap)) 30 (0,0))/\v2.heap[w.heap.size+1]?=some (.cells #[.int .i64 (lv:Nat),.int .i64 (fl:Nat),.int .i64 (ck:Nat)] 32 (0,0)):=⟨(DE.block _ (by omega)).trans OJ.1,(DE.block _ (by omega)).trans OJ.2⟩
   have XM:Below w.heap.size w v2:=XL.trans (DE.mono (by omega));have HT:Hid (_/\_):=⟨hT1,Ig⟩
   have hTs:T.size<=4500000:=by rw[<-Int.ofNat_le];show (T.size:Int)<=4500000;omega
   have hwr:=fun u=>Qh T lv u hlv hTs;clear hT1 Ig;refine hK _ _ (fun _=>LY) ?_;clear hK K;refine af (i:=6) (by kernel_rfl) rfl (fun K hK=>?_);go_simp;refine (hwr _).mono ?_;rintro e v3 ⟨P,Wb,ks,rfl,p1,p2,p3,p4,Br⟩;have zv3:=Br.size;have LZ:v3.heap[w.heap.size]?=some (.cells (aE W H kd dp ps (.slice pa aD.length pc) (.slice (some ⟨G,0,none⟩) S.length cap)) 30 (0,0))/\v3.heap[w.heap.size+1]?=some (.cells #[.int .i64 (lv:Nat),.int .i64 (fl:Nat),.int .i64 (ck:Nat)] 32 (0,0)):=⟨(Br.block _ (by omega)).trans LY.1,(Br.block _ (by omega)).trans LY.2⟩
   have XO:Below w.heap.size w v3:=XM.trans (Br.mono (by omega));have XN:Hid (jG T (dr P T) lv):=⟨P,Wb,ks,rfl,p1,p2,p3,p4⟩
   clear p1 p2 p3 p4 hwr;generalize dr P T=X at *;refine hK _ _ (fun _=>LZ) ?_;clear hK K;have xf:bu v3 (w.heap.size+2) (.string ⟨#[]⟩) 9:=by rw[<-zv0];exact (Br.block _ (by omega)).trans ((DE.block _ (by omega)).trans TT)
   refine af (i:=8) (by kernel_rfl) rfl (fun K hK=>?_);obtain⟨c0,c1,c2⟩:=one_cell xf;go_simp;have SF:(v3.setCell ⟨w.heap.size+2,0,none⟩ (.string X)).heap[w.heap.size]?=some (.cells (aE W H kd dp ps (.slice pa aD.length pc) (.slice (some ⟨G,0,none⟩) S.length cap)) 30 (0,0))/\(v3.setCell ⟨w.heap.size+2,0,none⟩ (.string X)).heap[w.heap.size+1]?=some (.cells #[.int .i64 (lv:Nat),.int .i64 (fl:Nat),.int .i64 (ck:Nat)] 32 (0,0)):=⟨(aF _ _ _ _ _ (by omega)).trans LZ.1,(aF _ _ _ _ _ (by omega)).trans LZ.2⟩
   have KF:Below w.heap.size w (v3.setCell ⟨w.heap.size+2,0,none⟩ (.string X)):=XO.setCell (p:=⟨w.heap.size+2,0,none⟩) (by show w.heap.size<=w.heap.size+2;omega) _;have XF:bu (v3.setCell ⟨w.heap.size+2,0,none⟩ (.string X)) (w.heap.size+2) (.string X) 9:=one_set xf _;refine hK _ _ (fun _=>SF) ?_;clear hK K;refine ak (by kernel_rfl) ?_ _;have hF:Below w.heap.size w (v3.setCell ⟨w.heap.size+2,0,none⟩ (.string X))/\(v3.setCell ⟨w.heap.size+2,0,none⟩ (.string X)).heap[w.heap.size]?=some (.cells (aE W H kd dp ps (.slice pa aD.length pc) (.slice (some ⟨G,0,none⟩) S.length cap)) 30 (0,0))/\(v3.setCell ⟨w.heap.size+2,0,none⟩ (.string X)).heap[w.heap.size+1]?=some (.cells #[.int .i64 (lv:Nat),.int .i64 (fl:Nat),.int .i64 (ck:Nat)] 32 (0,0))/\bu (v3.setCell ⟨w.heap.size+2,0,none⟩ (.string X)) (w.heap.size+2) (.string X) 9/\w.heap.size+2<=(w.heap.size+2)/\(T.size:Int)=Pm.raw W H ((n*dp:Nat):Int) ps/\Pm.Written ⟨W,H,n,dp⟩ S (ag T) fl ps/\jG T X lv:=⟨KF,SF.1,SF.2,XF,by omega,HT.out.1,HT.out.2,XN.out⟩
   clear KF SF XF;revert hF;generalize v3.setCell _ _=u;obtain⟨A,hA⟩:∃A,A=w.heap.size+2:=⟨_,rfl⟩
   rw[<-hA];intro hF;obtain⟨f1,f2,f3,f4,f5,f6,f7,f8⟩:=hF;have r:=rest A T X u ⟨f1,f2,f3,f4,by omega,f6,f7,f8⟩;exact r
 ·intro a T X u hu;obtain⟨ku,m1,m2,m3,m4,t1,t2,t3⟩:=hu;obtain⟨jl,hS,hpf,hpa,hpl,k0,q0,q1⟩:=HH.out;have hTs:T.size<=4500000:=by rw[<-Int.ofNat_le];show (T.size:Int)<=4500000;omega
  have hXs:=t3.size hTs;have zz:=ku.size
  have hpb:kd=3->Pm.ee aD 256=true:=fun e=>by
   have h1:=hpf.Lt;unfold Pm.pM at h1;rw[if_pos e]at h1;simp only[Bool.and_eq_true]at h1;exact h1.2
  have hcf:=Bc w.heap.size a (w.heap.size+1) ⟨W,H,kd,dp,ps⟩ aD pa pc (.slice (some ⟨G,0,none⟩) S.length cap) X lv fl ck u m1 m3 m2 hpf.hd (hpa.below ku hpl) (fun x e e2=>by have:=hpl x e e2;omega) hpb (by omega) hXs.1 hck;have HF:Hid (_/\_/\_/\_):=⟨ku,t1,t2,t3⟩
  clear jl hS hpf hpa hpl k0 q0 q1 ku m1 m2 m3 t1 t2 t3 HH HB hpb;go_wp2_with fail;refine hcf.mono ?_;rintro e u1 ⟨ds,b,rfl,h1,h2,h3⟩;have HG:Hid (_/\_/\_):=⟨h1,h2,HF.out.1.trans (h3.mono zz)⟩
  clear h1 h2 h3 hcf;go_wp2
  go_ret
  exact⟨T,X,ds,b,rfl,HF.out.2.1,HF.out.2.2.1,HF.out.2.2.2,HG.out.1,HG.out.2.1,HG.out.2.2⟩
def eK (lv fl ck:Int):Bool:=(decide (0<=lv)&&decide (lv<=2))&&((decide (0<=fl)&&decide (fl<=5))&&(decide (1<=ck)&&decide (ck<=1048576)))
theorem H9 (n:Int)(w:World):Calls Tryz.prog 59 #[.int .i64 n] w fun e w'=>e=.returned (.bool (decide (0<=n)&&decide (n<=2)))/\w'=w:=by
 go_enter Tryz.func59,Tryz.ntmps59
 go_wp2
 all_goals go_ret
 all_goals refine⟨aK ?_,rfl⟩
 all_goals (rw[Bool.eq_iff_iff];simp;try omega)
theorem DF (n:Int)(w:World):Calls Tryz.prog 60 #[.int .i64 n] w fun e w'=>e=.returned (.bool (decide (0<=n)&&decide (n<=5)))/\w'=w:=by
 go_enter Tryz.func60,Tryz.ntmps60
 go_wp2
 all_goals go_ret
 all_goals refine⟨aK ?_,rfl⟩
 all_goals (rw[Bool.eq_iff_iff];simp;try omega)
theorem yI (lv fl ck:Int)(w:World):Calls Tryz.prog 27 #[.agg #[.int .i64 lv,.int .i64 fl,.int .i64 ck]] w fun e w'=>e=.returned (.bool (eK lv fl ck))/\Below w.heap.size w w':=by
 have h1:=fun u=>H9 lv u;have h2:=fun u=>DF fl u;have HS:Hid (eK lv fl ck=((decide (0<=lv)&&decide (lv<=2))&&((decide (0<=fl)&&decide (fl<=5))&&(decide (1<=ck)&&decide (ck<=1048576))))):=rfl;generalize (decide (0<=lv)&&decide (lv<=2))=a at *;generalize (decide (0<=fl)&&decide (fl<=5))=b at *;have kb:=ae w (.cells #[.int .i64 lv,.int .i64 fl,.int .i64 ck] 32);have HK:Hid (_):=kb;clear kb;cases a
 ·go_enter Tryz.func27,Tryz.ntmps27
  go_wp2_with fail;refine (h1 _).mono ?_;rintro e w' ⟨rfl,rfl⟩;go_wp2
  go_ret
  exact⟨aK (by rw[HS.out];rfl),HK.out⟩
 ·cases b
  ·go_enter Tryz.func27,Tryz.ntmps27
   go_wp2_with fail;refine (h1 _).mono ?_;rintro e w' ⟨rfl,rfl⟩;go_wp2_with fail;refine (h2 _).mono ?_;rintro e w' ⟨rfl,rfl⟩;go_wp2
   go_ret
   exact⟨aK (by rw[HS.out];rfl),HK.out⟩
  ·by_cases hc:1<=ck
   all_goals
    go_enter Tryz.func27,Tryz.ntmps27
    go_wp2_with fail;refine (h1 _).mono ?_;rintro e w' ⟨rfl,rfl⟩;go_wp2_with fail;refine (h2 _).mono ?_;rintro e w' ⟨rfl,rfl⟩;go_wp2
    go_ret
    exact⟨aK (by rw[HS.out,Bool.eq_iff_iff];first|(simp[hc];done)|(simp;omega)),HK.out⟩
def Tp (h:Hd)(aD S:List Int)(lv fl ck:Int)(w:World)(e:Ending)(w':World):Prop :=
 ((Pm.check h.wd h.ht h.kd h.dp h.ps aD S≠0/\e=.returned (.tuple #[.string ⟨#[]⟩,.int .i64 (Pm.check h.wd h.ht h.kd h.dp h.ps aD S)])) \/
  (dD h aD S/\eK lv fl ck=false/\e=.returned (.tuple #[.string ⟨#[]⟩,.int .i64 5])) \/
  (dD h aD S/\eK lv fl ck=true/\∃(T X:ByteArray) (ds:List ByteArray) (b:ByteArray),e=.returned (.tuple #[.string b,.int .i64 0])/\(T.size:Int)=ct h/\Pm.Written (gG h) S (ag T) fl.toNat h.ps/\jG T X lv.toNat/\Hy X X.size ck.toNat ds/\b.data.toList=rJ h aD ds))/\Below w.heap.size w w'
theorem OL (h:Hd)(lv fl ck:Int)(aD S:List Int)(pa:Option Addr)(pc G cap:Nat)(w:World)(tt:TypeId)(fr:Nat×Nat)(hl:C9 w pa aD (some ⟨G,0,none⟩) S tt fr)(hG:G<w.heap.size)(hcap:S.length<=cap): Calls Tryz.prog 8 #[.agg (aW h (.slice pa aD.length pc) (.slice (some ⟨G,0,none⟩) S.length cap)),.agg #[.int .i64 lv,.int .i64 fl,.int .i64 ck]] w fun e w'=>Tp h aD S lv fl ck w e w':=by
 obtain⟨k0,q0,q1⟩:=bJ w (.cells (aW h (.slice pa aD.length pc) (.slice (some ⟨G,0,none⟩) S.length cap)) 30) (.cells #[.int .i64 lv,.int .i64 fl,.int .i64 ck] 32);have hck:=ES h.wd h.ht h.kd h.dp h.ps pa pc aD (some ⟨G,0,none⟩) cap S _ tt fr (hl.later k0);have hsf:=fun u=>yI lv fl ck u;have z2:((w.alloc (.cells (aW h (.slice pa aD.length pc) (.slice (some ⟨G,0,none⟩) S.length cap)) 30)).alloc (.cells #[.int .i64 lv,.int .i64 fl,.int .i64 ck] 32)).heap.size=w.heap.size+2:=by simp
 obtain⟨x0,x1,x2,x3,x4,x5,x6⟩:=aJ q0;have HH:Hid (_/\_/\_/\_):=⟨hl,k0,q0,q1⟩
 have HC:Hid (_):=(uN h aD S)
 clear hl k0 q0 q1;obtain⟨c,hc⟩:∃c,c=Pm.check h.wd h.ht h.kd h.dp h.ps aD S:=⟨_,rfl⟩
 have HCC:Hid (c=Pm.check h.wd h.ht h.kd h.dp h.ps aD S):=hc;rw[<-hc]at hck;clear hc;by_cases h0:c=0
 ·subst h0;have hpf:dD h aD S:=HC.out.1 HCC.out.symm;have Up:Hid (_):=hpf;clear hpf;obtain⟨st,hst⟩:∃st,st=eK lv fl ck:=⟨_,rfl⟩
  rw[<-hst]at hsf;have HST:Hid (st=eK lv fl ck):=hst;clear hst;cases st
  ·go_enter Tryz.func8,Tryz.ntmps8
   go_wp2_with fail;refine hck.mono ?_;rintro e w1 ⟨rfl,b1⟩;have q1:=(b1.block (w.heap.size+1) (by omega)).trans HH.out.2.2.2;obtain⟨y0,y1,y2⟩:=pW q1;have HB:Hid (_):=HH.out.2.1.trans (b1.mono (by omega));have zz:=b1.size;clear q1 b1 hck;go_wp2_with fail;refine (hsf _).mono ?_;rintro e w2 ⟨rfl,b2⟩;have HB2:Hid (_):=HB.out.trans (b2.mono (by omega));clear b2 hsf;go_wp2;refine bodyPost_ret (v:=.tuple #[.string ⟨#[]⟩,.int .i64 5]) (by simp[results,Tryz.results8,go_sem]) rfl ⟨.inr (.inl ⟨Up.out,HST.out.symm,rfl⟩),HB2.out⟩
  ·obtain⟨W,hW⟩:∃W:Nat,h.wd=(W:Int):=⟨h.wd.toNat,by have:=Up.out.hd.wd;omega⟩
   obtain⟨H,hH⟩:∃H:Nat,h.ht=(H:Int):=⟨h.ht.toNat,by have:=Up.out.hd.ht;omega⟩
   have hdd:=Pm.cm _ _ Up.out.hd.ch;obtain⟨dp,hdp⟩:∃dp:Nat,h.dp=(dp:Int):=⟨h.dp.toNat,by omega⟩
   obtain⟨wd0,ht0,kd,dp0,ps⟩:=h;simp only at hW hH hdp;subst hW hH hdp;obtain⟨n,hn⟩:∃n:Nat,Pm.chan kd dp=(n:Int):=⟨(Pm.chan kd dp).toNat,by have:=(Pm.cE kd dp).1;omega⟩
   have hsb:=HST.out.symm;simp only[eK,Bool.and_eq_true,decide_eq_true_eq]at hsb;obtain⟨⟨a1,a2⟩,⟨a3,a4⟩,a5,a6⟩:=hsb;obtain⟨lvn,rfl⟩:∃x:Nat,lv=(x:Int):=⟨lv.toNat,by omega⟩
   obtain⟨fln,rfl⟩:∃x:Nat,fl=(x:Int):=⟨fl.toNat,by omega⟩
   obtain⟨ckn,rfl⟩:∃x:Nat,ck=(x:Int):=⟨ck.toNat,by omega⟩
   have hwr:=fun u (hu:Below w.heap.size w u)=>Tn W H n dp lvn fln ckn kd ps aD S pa pc G cap u tt fr (HH.out.1.later hu).tab ⟨fun j hj=>by
     obtain⟨b,off,e1,e2⟩:=(HH.out.1.later hu).hs j hj;have e3:(⟨G,0,none⟩:Addr)=⟨b,off,none⟩:=Option.some.inj e1;have e4:G=b:=congrArg Addr.block e3;have e5:0=off:=congrArg Addr.off e3;subst e4 e5;rw[Nat.zero_add]at e2;rw[e2];unfold Pm.aj;rw[List.getD_eq_getElem?_getD,List.getElem?_eq_getElem hj]
     rfl,Nat.lt_of_lt_of_le hG hu.size⟩ Up.out hcap hn (HH.out.1.later hu).hp (HH.out.1.later hu).hpa (by omega) (by omega) (by omega)
   have XP:Hid (_):=hwr
   have HRW:Hid (Pm.raw W H ((n*dp:Nat):Int) ps=ct ⟨W,H,kd,dp,ps⟩/\gG ⟨W,H,kd,dp,ps⟩=⟨W,H,n,dp⟩):=by
    have eb:Pm.chan kd dp*(dp:Int)=((n*dp:Nat):Int):=by rw[hn];push_cast;rfl
    refine⟨by unfold ct;dsimp only;rw[eb],?_⟩;unfold gG;dsimp only;rw[hn];simp
   clear hwr
   go_enter Tryz.func8,Tryz.ntmps8
   go_wp2_with fail;refine hck.mono ?_;rintro e w1 ⟨rfl,b1⟩;have q0:=(b1.block w.heap.size (by omega)).trans HH.out.2.2.1;have q1:=(b1.block (w.heap.size+1) (by omega)).trans HH.out.2.2.2;obtain⟨y0,y1,y2⟩:=pW q1;have HB:Hid (_/\_/\_):=⟨HH.out.2.1.trans (b1.mono (by omega)),q0,q1⟩
   have zz:=b1.size;clear q0 q1 b1 hck;go_wp2_with fail;refine (hsf _).mono ?_;rintro e w2 ⟨rfl,b2⟩;have q0:=(b2.block w.heap.size (by omega)).trans HB.out.2.1;have q1:=(b2.block (w.heap.size+1) (by omega)).trans HB.out.2.2;obtain⟨y0,y1,y2⟩:=pW q1;obtain⟨x0,x1,x2,x3,x4,x5,x6⟩:=aJ q0;have k2:=HB.out.1.trans (b2.mono (by omega));have hw:=XP.out w2 k2;have Gp:Hid (_):=k2;clear q0 q1 b2 hsf k2;go_wp2_with fail;refine hw.mono ?_;rintro e w3 ⟨T,X,ds,b,rfl,t1,t2,t3,t4,t5,b3⟩;have HF:Hid (_/\_/\_/\_/\_/\_):=⟨t1,t2,t3,t4,t5,Gp.out.trans (b3.mono Gp.out.size)⟩
   clear t1 t2 t3 t4 t5 b3 hw;go_wp2;refine bodyPost_ret (v:=.tuple #[.string b,.int .i64 0]) (by simp[results,Tryz.results8,go_sem]) rfl ⟨.inr (.inr ⟨Up.out,HST.out.symm,T,X,ds,b,rfl,HF.out.1.trans HRW.out.1,?_,HF.out.2.2.1,HF.out.2.2.2.1,HF.out.2.2.2.2.1⟩),HF.out.2.2.2.2.2⟩;rw[HRW.out.2];exact HF.out.2.1
 ·have h0':(c==0)=false:=beq_eq_false_iff_ne.2 h0;have HN0:Hid (c≠0):=h0;clear h0
  go_enter Tryz.func8,Tryz.ntmps8
  go_wp2_with fail;refine hck.mono ?_;rintro e w1 ⟨rfl,b1⟩;have HB:Hid (_):=HH.out.2.1.trans (b1.mono (by omega));clear b1 hck;go_wp2;refine bodyPost_ret (v:=.tuple #[.string ⟨#[]⟩,.int .i64 c]) (by simp[results,Tryz.results8,go_sem]) rfl ⟨.inl ⟨by rw[<-HCC.out];exact HN0.out,by rw[<-HCC.out]⟩,HB.out⟩
end Go.Proofs.YtmfijackgekioaaGreatDoor
